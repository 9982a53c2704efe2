/-
  Joined: BelB DeepC BelC BelD ModeC MayC LookM CpyA CpyB.
  Conditions: as each states.
-/
import Derived.Sort.OwnSortedInts
import Derived.Lib.QuietBelow
import Derived.Test.YtknhacblialboaaLib1
import Derived.Test.YtknhacblialboaaLib3
import Derived.Test.YtknhacblialboaaLib4
import Derived.Test.YtknhacblialboaaLib5

/-
  The program's walkPre with the closure of NodesBelow.
  Conditions: a good file system of at most 2^20 values and letters together.
-/
namespace Go.Proofs.Ytknhacblialboaa
open Go.ChangeShapes Go.WideShapes Go.ChangeAt Go.RowKit Go.Joins
set_option linter.unusedVariables false
set_option linter.unusedSimpArgs false

/-- The nodes below, as often as there are ways. -/
def biF (ns : List Nod) : Nat → Nat → List Int
  | 0, i => [(i : Int)]
  | k + 1, i => (i : Int) :: (lsAt ns i).flatMap fun e => biF ns k e.node.toNat
def biS (ns : List Nod) (k : Nat) (es : List Ent) : List Int := es.flatMap fun e => biF ns k e.node.toNat
theorem biS_take {ns : List Nod} {k : Nat} {es : List Ent} {j : Nat} (h : j < es.length) : biS ns k (es.take (j + 1)) = biS ns k (es.take j) ++ biF ns k es[j].node.toNat := by
  unfold biS; rw [List.take_succ_eq_append_getElem h, List.flatMap_append]; simp
theorem biF_val (ns : List Nod) (k k2 i : Nat) (h : (k = 0 ∧ lsAt ns i = []) ∨ k = k2 + 1) : biF ns k i = (i : Int) :: biS ns k2 (lsAt ns i) := by
  rcases h with ⟨rfl, h⟩ | rfl
  · rw [h]; rfl
  · rfl
theorem biF_len (ns : List Nod) (k k2 i : Nat) (h : (k = 0 ∧ lsAt ns i = []) ∨ k = k2 + 1) : (biF ns k i).length = (biS ns k2 (lsAt ns i)).length + 1 := by
  rw [biF_val ns k k2 i h]; simp
theorem biS_pre (ns : List Nod) (k : Nat) (es : List Ent) (j : Nat) : (biS ns k (es.take j)).length ≤ (biS ns k es).length := by
  conv => rhs; rw [← List.take_append_drop j es]
  unfold biS
  rw [List.flatMap_append, List.length_append]; omega
theorem bi_wy (ns : List Nod) : ∀ (k i : Nat) (ps : List (List UInt8)), (biF ns k i).length = (wyF ns false k i ps).length
  | 0, _, _ => rfl
  | k + 1, i, ps => by
    show ((i : Int) :: (lsAt ns i).flatMap fun e => biF ns k e.node.toNat).length = (wayB ps :: (lsAt ns i).flatMap fun e => wyF ns false k e.node.toNat (ps ++ [e.name])).length
    rw [List.length_cons, List.length_cons, len_flat, len_flat]
    congr 2
    exact List.map_congr_left fun e _ => bi_wy ns k _ _
theorem row_ne_boxA {w : World} {B d n : Nat} {e T : TypeId} {v : Value} {xs : List Value} {z : Value} (h : w.ownsRow B e 1 v n xs) (hb : w.heap[d]? = some (.cells #[z] T)) (hne : e ≠ T) : v.ownBlock ≠ some d := by
  rcases h.2 with ⟨rfl, _⟩ | ⟨g, cap, cur, rfl, hB, hg, _⟩
  · simp [Value.ownBlock]
  · intro e2
    simp [Value.ownBlock] at e2
    subst e2
    rw [hg] at hb
    simp at hb
    exact hne hb.2
theorem lstI_lt {w : World} {B : Nat} {v : Value} {xs : List Int} (h : LstI w B v xs) : ∀ g, v.ownBlock = some g → B ≤ g ∧ g < w.heap.size := fun g e => World.ownsRow.lt h g e
theorem LstI.snoc {w : World} {B : Nat} {v : Value} {ps : List Int} {p : Int} (h : w.ownsRow B 3 1 v (ps.length + 1) (ints ps ++ [.int .i64 p])) : LstI w B v (ps ++ [p]) := by
  unfold LstI
  simpa [ints] using h
set_option maxHeartbeats 2000000 in
theorem met_visit (bd i : Nat) (ws : List Int) (nm v : Value) (B : Nat) (w : World) (hB : B ≤ bd) (hbd : w.heap[bd]? = some (.cells #[v] 55)) (hL : LstI w B v ws) (hws : ws.length ≤ 50000000) :
    Calls Try.prog 64 #[.int .i64 (i : Int), nm, .pointer (some ⟨bd, 0, none⟩)] w fun e w' => e = .returned (.tuple #[]) ∧ ∃ v', w'.heap[bd]? = some (.cells #[v'] 55) ∧ LstI w' B v' (ws ++ [(i : Int)]) ∧ Eff w w' bd v.ownBlock ∧ NewB w.heap.size v v' := by
  obtain ⟨i0, hi0, hz0, hz1, hz2⟩ := info_parts intInfo
  have HBX := Lib.hid hbd
  have HL := Lib.hid hL
  have HNE := Lib.hid (row_ne_boxA hL hbd (by decide))
  have hbl := lt_of_heap hbd
  have k0 : w.cell? ⟨bd, 0, none⟩ = some v := cell_blk hbd 0
  obtain ⟨oo, cc, rfl, hoo⟩ := owns_form hL
  clear hbd hL hoo
  go_enter Try.func64, Try.ntmps64
  go_wp2_with (at_builtin; go_loud (refine wpList_append_keep _ rfl _ _ 55 rfl B 3 i0 (.int .i64 0) 1 8 Try.underlying55 hi0 hz0 hz1 hz2 rfl (by decide) _ _ _ rfl (World.ownsRow.alloc HL.out (.cells #[.int .i64 (i : Int)] 3)) ⟨w.heap.size, 0, none⟩ 1 1 [.int .i64 (i : Int)] (by decide) rfl rfl (cell_one_new w (.int .i64 (i : Int)) 3) (by simp [Value.oneCell']) (by unfold maxLen; omega) (by omega) (by simp; omega) ?_))
  intro v6 w6 hown6 hgrow6 hkeep6 hsame6
  obtain ⟨oo6, cc6, rfl, -⟩ := owns_form hown6
  have HO6 := Lib.hid hown6
  have HS6 : Hid ((Value.slice oo6 (ws.length + 1) cc6).ownBlock = (Value.slice oo ws.length cc).ownBlock ∨ (Value.slice oo6 (ws.length + 1) cc6).ownBlock = some (w.heap.size + 1)) := Lib.hid (by
    rcases hsame6 with ⟨g, cap, ⟨rfl, rfl⟩, e9⟩ | h
    · exact .inl (by rw [e9]; rfl)
    · exact .inr h)
  have HG6 := Lib.hid hgrow6
  have HX6 := Lib.hid ((hgrow6.block bd (by simp; omega) (fun e => HNE.out e.symm)).trans ((Below.heap_alloc w _ _ hbl).trans HBX.out))
  have e6 : w6.cell? ⟨bd, 0, none⟩ = some (.slice oo ws.length cc) := cell_blk HX6.out 0
  have f6 := frozen_blk HX6.out 0
  clear hown6 hgrow6 hkeep6 hsame6
  go_wp2
  go_end0
  refine ⟨rfl, _, heap_setCell_same w6 bd 0 _ _ _ HX6.out, ?_, ?_, ?_⟩
  · have h7 := LstI.snoc (ps := ws) (p := (i : Int)) HO6.out
    refine World.ownsRow.kept h7 (row := some bd) ⟨rfl, rfl, rfl, by simp, fun j _ hj => Below.heap_setCell w6 ⟨bd, 0, none⟩ _ j (fun e => hj (by simp [e]))⟩ (.inr ?_)
    exact row_ne_boxA h7 HX6.out (by decide)
  · exact eff_set ((Eff.of_below _ _ ((Below.refl _ w).alloc (Nat.le_refl _) (.cells #[.int .i64 (i : Int)] 3))).trans (Eff.of_grown bd HG6.out)) _
  · rcases HS6.out with h8 | h8
    · exact .inl h8
    · exact .inr ⟨_, h8, by simp⟩

def BSays (f : FsD) (nv : Value) (w0 : World) (k : Nat) : Prop := ∀ (i : Nat) (ps : List (List UInt8)) (ws : List Int) (nm v : Value) (B bd : Nat) (w : World), w0.heap.size ≤ B → Below w0.heap.size w0 w → i < f.nodes.length → Down f.nodes k i → ps.length + k ≤ 41 → (∀ p ∈ ps, p ≠ [46] ∧ p.length ≤ 8) → ws.length + (biF f.nodes k i).length ≤ 50000000 → B ≤ bd →
  w.heap[bd]? = some (.cells #[v] 55) → LstI w B v ws → Lst w B nm ps → Dis nm v →
  Calls Try.prog 32 #[nv, .int .i64 (i : Int), .func (.func 64) #[] #[.pointer (some ⟨bd, 0, none⟩)], nm] w fun e w' => e = .returned (.tuple #[]) ∧ ∃ v', w'.heap[bd]? = some (.cells #[v'] 55) ∧ LstI w' B v' (ws ++ biF f.nodes k i) ∧ Lst w' B nm ps ∧ Eff2 w w' bd nm.ownBlock v.ownBlock ∧ NewB w.heap.size v v'
set_option maxRecDepth 100000 in
set_option maxHeartbeats 8000000 in
theorem walkBel_step (f : FsD) (hg : goodF f = true) (hs : szF f ≤ 1048576) (nv : Value) (w0 : World) (hN : NodsA w0 nv f.nodes) (k : Nat) (ih : ∀ k2, k2 < k → BSays f nv w0 k2) : BSays f nv w0 k := by
  intro i ps ws nm v B bd w hwB hbw hi hD hkL hps hcnt hBd hbd hLv hown hdis
  have IH := Lib.hid ih
  obtain ⟨i0, hi0, hz0, hz1, hz2⟩ := info_parts strInfo
  obtain ⟨oo, cc, rfl, hoo⟩ := owns_form hown
  obtain ⟨o, c, rfl, hm, hH⟩ := hN
  unfold maxLen at hm
  have hl : f.nodes.length ≤ 1048576 := (lists_small hs).1
  have hll : (lsAt f.nodes i).length ≤ 1048576 := by rw [lsAt_is hi]; exact ((lists_small hs).2 _ (List.getElem_mem hi)).1
  obtain ⟨g3, f3, lv3, rfl, hg3, hc3, he3, -⟩ := hH i hi
  rw [← lsAt_is hi] at he3
  obtain ⟨o5, c5, rfl, -, hH5⟩ := he3
  have HH5 := Lib.hid hH5
  obtain ⟨k2, hk2, hk3, hv3, hk4⟩ : ∃ k2, k ≤ k2 + 1 ∧ k2 ≤ k ∧ ((k = 0 ∧ lsAt f.nodes i = []) ∨ k = k2 + 1) ∧ ∀ e ∈ lsAt f.nodes i, k = k2 + 1 ∧ (0 ≤ e.node ∧ e.node < f.nodes.length) ∧ Down f.nodes k2 e.node.toNat ∧ e.name ≠ [46] ∧ e.name.length ≤ 8 := by
    cases k with
    | zero => exact ⟨0, by omega, by omega, .inl ⟨rfl, hD⟩, fun e he => by rw [show lsAt f.nodes i = [] from hD] at he; cases he⟩
    | succ k => exact ⟨k, by omega, by omega, .inr rfl, fun e he => ⟨rfl, (hD e he).1, (hD e he).2, name_facts hg he⟩⟩
  rw [biF_len _ _ _ _ hv3] at hcnt
  have hval := biF_val f.nodes k k2 i hv3
  obtain ⟨es, hes⟩ : ∃ es, es = lsAt f.nodes i := ⟨_, rfl⟩
  rw [← hes] at HH5 hll hcnt hval hk4
  have hc6 := hc3.c6
  rw [← hes] at hc6
  have HV := Lib.hid hval
  have HK4 := Lib.hid hk4
  have HPS := Lib.hid hps
  have HBD := Lib.hid hbd
  have HOWN := Lib.hid hown
  have HLV := Lib.hid hLv
  have HDIS := Lib.hid hdis
  have HBW := Lib.hid hbw
  have hbl := lt_of_heap hbd
  have hBs : B ≤ w.heap.size := by omega
  have HNE : Hid ((Value.slice oo ps.length cc).ownBlock ≠ some bd) := Lib.hid (row_ne_boxA hown hbd (by decide))
  have HR1 : Hid (∀ g, (Value.slice oo ps.length cc).ownBlock = some g → B ≤ g) := Lib.hid (fun g e => (lst_lt HOWN.out g e).1)
  have HR2 : Hid (∀ g, v.ownBlock = some g → B ≤ g) := Lib.hid (fun g e => (lstI_lt HLV.out g e).1)
  have hLps : ps.length ≤ 41 := by omega
  have HC6 := Lib.hid hc6
  clear hH hD hval hv3 hk4 hc3 hH5 hes ih hps hbd hown hLv hdis hbw hoo hc6
  go_enter Try.func32, Try.ntmps32
  go_wp2_with fail
  refine (met_visit bd i ws (.slice oo ps.length cc) v B w hBd HBD.out HLV.out (by omega)).mono ?_
  rintro e w1 ⟨rfl, v1, hX1, hL1, hE1, hN1⟩
  have HX1 := Lib.hid hX1
  have HL1 := Lib.hid hL1
  have HE1 := Lib.hid (Eff2.of_eff (Value.slice oo ps.length cc).ownBlock hE1)
  have HN1 := Lib.hid hN1
  have HO1 : Hid (Lst w1 B (.slice oo ps.length cc) ps) := Lib.hid (own_eff HOWN.out hE1 HNE.out (by
    by_cases h : (Value.slice oo ps.length cc).ownBlock = none
    · exact .inl h
    · obtain ⟨g, hg⟩ := Option.ne_none_iff_exists'.1 h
      exact .inr (by rw [hg]; exact fun e => HDIS.out g hg e.symm)))
  have HBW1 := Lib.hid (HBW.out.trans ((HE1.out.below hBd HR1.out HR2.out hBs).mono hwB))
  have c6 := (HBW1.out.cell (p := ⟨g3, f3 + i * 7 + 6, none⟩) hg3).trans HC6.out
  obtain ⟨us, hus⟩ : ∃ us, us = ws ++ [(i : Int)] := ⟨_, rfl⟩
  have HUS := Lib.hid hus
  have hul : us.length ≤ ws.length + 1 := by rw [hus]; simp
  rw [← hus] at HL1
  clear hX1 hL1 hE1 hN1 hus
  go_wp2
  go_loopw [20] (fun i9 wr => ∃ (j : Nat) (vr : Value), j ≤ es.length ∧ i9 = .int .i64 j ∧ Eff2 w wr bd (Value.slice oo ps.length cc).ownBlock v.ownBlock ∧ wr.heap[bd]? = some (.cells #[vr] 55) ∧ LstI wr B vr (us ++ biS f.nodes k2 (es.take j)) ∧ Lst wr B (.slice oo ps.length cc) ps ∧ NewB w.heap.size v vr) (fun i9 _ => es.length - (intOf i9).toNat)
  case atStart => exact ⟨0, _, Nat.zero_le _, rfl, HE1.out, HX1.out, by simpa [biS] using HL1.out, HO1.out, HN1.out⟩
  case round =>
    obtain ⟨j, vr, hj, rfl, hE, hX, hL, hO, hN⟩ := hrel
    have HE := Lib.hid hE
    have HX := Lib.hid hX
    have HL := Lib.hid hL
    have HO := Lib.hid hO
    have HN := Lib.hid hN
    have hsz := hE.size
    have hBw := hE.below hBd HR1.out HR2.out hBs
    have hpr := biS_pre f.nodes k2 es j
    by_cases hlt : j < es.length
    · obtain ⟨g9, f9, rfl, q9, y1, y2, -⟩ := HH5.out j hlt
      obtain ⟨he1, ⟨he2, he3⟩, he4, he5, he6⟩ := HK4.out _ (List.getElem_mem hlt)
      obtain ⟨c9, hcc⟩ : ∃ c9 : Nat, es[j].node = c9 := ⟨es[j].node.toNat, by omega⟩
      have HT := Lib.hid (biS_take (ns := f.nodes) (k := k2) hlt)
      have HPN := biS_pre f.nodes k2 es (j + 1)
      rw [HT.out] at HPN
      rw [hcc] at y2 he4 he3 HT HPN
      rw [show ((c9 : Int)).toNat = c9 by simp] at he4 HT HPN
      have hbwr := HBW.out.trans (hBw.mono hwB)
      have a1 := (hbwr.cell (p := ⟨g9, f9 + j * 2, none⟩) q9).trans y1
      have a2 := (hbwr.cell (p := ⟨g9, f9 + j * 2 + 1, none⟩) q9).trans y2
      obtain ⟨nn, hnn⟩ : ∃ nn, nn = es[j].name := ⟨_, rfl⟩
      rw [← hnn] at a1 he5 he6
      obtain ⟨x, hx⟩ : ∃ x, x = bs nn := ⟨_, rfl⟩
      rw [← hx] at a1
      have HXN := Lib.hid hx
      have HPS2 : Hid (∀ p ∈ ps ++ [nn], p ≠ [46] ∧ p.length ≤ 8) := Lib.hid (fun p hp => by
        rcases List.mem_append.1 hp with h | h
        · exact HPS.out p h
        · rw [List.mem_singleton.1 h]; exact ⟨he5, he6⟩)
      have HD4 := Lib.hid he4
      have HLw : Hid (w.heap.size ≤ wr.heap.size) := Lib.hid hsz
      have hbdw : bd < wr.heap.size := by omega
      have hal : Below wr.heap.size wr (wr.alloc (.cells #[.string x, .int .i64 (c9 : Int)] 93)) := (Below.refl _ _).alloc (Nat.le_refl _) _
      obtain ⟨W2, hW2⟩ : ∃ W2, wr.alloc (.cells #[.string x, .int .i64 (c9 : Int)] 93) = W2 := ⟨_, rfl⟩
      have hEN : W2.heap[wr.heap.size]? = some (.cells #[.string x, .int .i64 (c9 : Int)] 93) := by rw [← hW2]; exact heap_alloc_new wr _
      rw [hW2] at hal
      have hs2 := lt_of_heap hEN
      have h23 : Below W2.heap.size W2 (W2.alloc (.cells #[.string x] 9)).drew := ((Below.refl _ W2).alloc (Nat.le_refl _) _).drew
      have h13 : Below wr.heap.size wr (W2.alloc (.cells #[.string x] 9)).drew := hal.trans (h23.mono (Nat.le_of_lt hs2))
      have HEF3 : Hid (Eff2 w (W2.alloc (.cells #[.string x] 9)).drew bd (Value.slice oo ps.length cc).ownBlock v.ownBlock) := Lib.hid (HE.out.trans (Eff2.of_below _ _ _ h13))
      have HXB : Hid (((W2.alloc (.cells #[.string x] 9)).drew).heap[bd]? = _) := Lib.hid ((h13.block bd hbdw).trans HX.out)
      have HEB : Hid (((W2.alloc (.cells #[.string x] 9)).drew).heap[wr.heap.size]? = some (.cells #[.string x, .int .i64 (c9 : Int)] 93)) := Lib.hid ((h23.block _ hs2).trans hEN)
      have HLB : Hid (LstI ((W2.alloc (.cells #[.string x] 9)).drew) B vr (us ++ biS f.nodes k2 (es.take j))) := Lib.hid (lstI_below HL.out h13)
      have HOX3 : Hid (((W2.alloc (.cells #[.string x] 9)).drew).ownsRow B 9 1 (.slice oo ps.length cc) ps.length (strs ps)) := Lib.hid (lst_below HO.out h13)
      have HNW : Hid (∀ j u, [Value.string x][j]? = some u → ((W2.alloc (.cells #[.string x] 9)).drew).cell? ((⟨W2.heap.size, 0, none⟩ : Addr).add j) = some u) := Lib.hid (cell_one_new W2 (.string x) 9)
      have HBX3 : Hid (B ≤ ((W2.alloc (.cells #[.string x] 9)).drew).heap.size) := Lib.hid (Nat.le_trans (by omega) h13.size)
      have HL3 : Hid (bd < ((W2.alloc (.cells #[.string x] 9)).drew).heap.size) := Lib.hid (lt_of_heap HXB.out)
      have HL4 : Hid (wr.heap.size < ((W2.alloc (.cells #[.string x] 9)).drew).heap.size) := Lib.hid (lt_of_heap HEB.out)
      have HRW : Hid (some wr.heap.size ≠ (Value.slice oo ps.length cc).ownBlock) := Lib.hid (fun e => by
        have h9 := (lst_lt HOWN.out wr.heap.size e.symm).2
        omega)
      have HRV : Hid (∀ g, vr.ownBlock = some g → B ≤ g ∧ g < wr.heap.size) := Lib.hid (lstI_lt HL.out)
      have HVB : Hid (vr.ownBlock ≠ some bd) := Lib.hid (row_ne_boxA HL.out HX.out (by decide))
      have HDR : Hid (Dis (.slice oo ps.length cc) vr) := Lib.hid (fun g e e2 => by
        rcases HN.out.of g e2 with h | h
        · exact HDIS.out g e h
        · have := (lst_lt HOWN.out g e).2; omega)
      have e20 : W2.cell? ⟨wr.heap.size, 0, none⟩ = some (.string x) := cell_blk hEN 0
      have e21 : W2.cell? ⟨wr.heap.size, 1, none⟩ = some (.int .i64 (c9 : Int)) := cell_blk hEN 1
      have d20 : W2.drew.cell? ⟨wr.heap.size, 0, none⟩ = some (.string x) := e20
      have d21 : W2.drew.cell? ⟨wr.heap.size, 1, none⟩ = some (.int .i64 (c9 : Int)) := e21
      have d30 : ((W2.alloc (.cells #[.string x] 9)).drew).cell? ⟨wr.heap.size, 0, none⟩ = some (.string x) := cell_blk HEB.out 0
      have d31 : ((W2.alloc (.cells #[.string x] 9)).drew).cell? ⟨wr.heap.size, 1, none⟩ = some (.int .i64 (c9 : Int)) := cell_blk HEB.out 1
      have HW2 := Lib.hid hW2
      have hcn : (us ++ biS f.nodes k2 (es.take j)).length + (biF f.nodes k2 c9).length ≤ 50000000 := by
        simp only [List.length_append] at HPN ⊢; omega
      have HCN := Lib.hid hcn
      clear hE hX hL hO hN y1 y2 hx hcc he4 hbwr hBw hal hEN h23 h13 hW2 hnn HPN hpr hcn
      go_wp2
      rw [HW2.out]
      go_region_held3 (fun w' => w'.cell? ⟨wr.heap.size, 0, none⟩ = some (.string x) ∧ w'.cell? ⟨wr.heap.size, 1, none⟩ = some (.int .i64 (c9 : Int))) (first | (with_reducible exact ⟨d20, d21⟩) | (with_reducible exact ⟨d30, d31⟩) | (with_reducible exact ⟨e60, e61⟩) | (with_reducible exact ⟨e70, e71⟩))
        (first
          | (refine step_append_keep _ rfl (.tmp 28) (.tmp 31) 57 rfl B 9 i0 (.string ⟨#[]⟩) 1 16 Try.underlying57 hi0 hz0 hz1 hz2 rfl (by decide) (.slice oo ps.length cc) ps.length (strs ps) (by simp [Act.eval, Act.put]) HOX3.out ⟨W2.heap.size, 0, none⟩ 1 1 [.string x] (by decide) (by simp [Act.eval, Act.put]) rfl HNW.out (by simp [Value.oneCell']) (by unfold maxLen; omega) (by omega) HBX3.out ?_; intro v6 w6 hown6 hgrow6 hkeep6 hsame6; have HO6 : Hid (Lst w6 B v6 (ps ++ [nn])) := Lib.hid (Lst.snoc HXN.out hown6); have HK6 : Hid (Lst w6 B (.slice oo ps.length cc) ps) := Lib.hid hkeep6; have HS6 := Lib.hid (same_cases hsame6); have HQ6 := Lib.hid hsame6; obtain ⟨oo6, cc6, rfl, -⟩ := owns_form hown6; have HE6 := Lib.hid (HEF3.out.trans (Eff2.of_grown bd _ hgrow6)); have HX6 := Lib.hid ((hgrow6.block _ HL3.out (fun e => HNE.out e.symm)).trans HXB.out); have HL6 : Hid (LstI w6 B vr (us ++ biS f.nodes k2 (es.take j))) := Lib.hid (World.ownsRow.kept HLB.out hgrow6 (by cases hvr : vr.ownBlock with | none => exact .inl rfl | some g => exact .inr (fun e => HDR.out g e.symm hvr))); have HE61 := Lib.hid ((hgrow6.block _ HL4.out HRW.out).trans HEB.out); have HG6 := Lib.hid hgrow6.size; have e60 : w6.cell? ⟨wr.heap.size, 0, none⟩ = some (.string x) := cell_blk HE61.out 0; have e61 : w6.cell? ⟨wr.heap.size, 1, none⟩ = some (.int .i64 (c9 : Int)) := cell_blk HE61.out 1; have HBW6 : Hid (Below w0.heap.size w0 w6) := Lib.hid (HBW.out.trans ((HE6.out.below hBd HR1.out HR2.out hBs).mono hwB)); have HN7 : Hid (some wr.heap.size ≠ (Value.slice oo6 (ps.length + 1) cc6).ownBlock) := Lib.hid (fun e => by rcases HS6.out with h8 | h8 <;> rw [h8] at e <;> first | exact HRW.out e | (have h9 := HL4.out; simp only [Option.some.injEq] at e; omega)); have HD6 : Hid (Dis (.slice oo6 (ps.length + 1) cc6) vr) := Lib.hid (fun g e e2 => by rcases HS6.out with h8 | h8 <;> rw [h8] at e <;> first | exact HDR.out g e e2 | (have h9 := (HRV.out g e2).2; have h10 := HL4.out; simp only [Option.some.injEq] at e; omega)); clear hown6 hgrow6 hkeep6 hsame6)
          | (go_at_call 32; refine (IH.out k2 (by omega) c9 (ps ++ [nn]) (us ++ biS f.nodes k2 (es.take j)) (.slice oo6 (ps.length + 1) cc6) vr B bd w6 hwB HBW6.out (by omega) HD4.out (by simp; omega) HPS2.out HCN.out hBd HX6.out HL6.out HO6.out HD6.out).mono ?_; rintro e w7 ⟨rfl, v7, hX7, hL7, hO7, hE7, hN7⟩; have HE7 := Lib.hid hE7; have HX7 := Lib.hid hX7; have HL7 := Lib.hid hL7; have HO7 := Lib.hid hO7; have HNB7 := Lib.hid hN7; have h71 := (hE7.block _ (lt_of_heap HE61.out) (by omega) HN7.out (fun e => by have := (HRV.out _ e.symm).2; omega)).trans HE61.out; have e70 : w7.cell? ⟨wr.heap.size, 0, none⟩ = some (.string x) := cell_blk h71 0; have e71 : w7.cell? ⟨wr.heap.size, 1, none⟩ = some (.int .i64 (c9 : Int)) := cell_blk h71 1; clear hE7 hX7 hL7 hO7 hN7 h71))
      all_goals
        go_wp2
        go_roundw
        case rel =>
          refine ⟨j + 1, v7, hlt, by go_num, HE6.out.fresh HE7.out (fun g hg => ?_) HN.out.of, HX7.out, ?_, ?_, HN.out.trans HNB7.out (Nat.le_trans HLw.out (Nat.le_trans (Nat.le_of_lt HL4.out) HG6.out))⟩
          · rcases HS6.out with h8 | h8
            · exact .inl (h8.symm.trans hg)
            · rw [h8] at hg
              have h9 := HL4.out
              have h10 := HLw.out
              simp only [Option.some.injEq] at hg
              exact .inr (by omega)
          · rw [HT.out, ← List.append_assoc]
            exact HL7.out
          · rcases HQ6.out with ⟨g8, cap8, e8, e9⟩ | h8
            · simp only [Value.slice.injEq, true_and] at e8 e9
              obtain ⟨rfl, rfl⟩ := e8
              obtain ⟨rfl, rfl⟩ := e9
              exact lst_cut HO7.out
            · refine lst_eff2 HK6.out HE7.out HNE.out (fun g e => ?_) (fun g e e2 => HDR.out g e e2.symm)
              rw [h8]
              intro e2
              have h9 := (lst_lt HOWN.out _ e).2
              have h10 := HL4.out
              have h11 := HLw.out
              simp only [Option.some.injEq] at e2
              omega
        case measure => simp [intOf]; omega
    · have HT : Hid (es.take j = es) := Lib.hid (List.take_of_length_le (by omega))
      rw [HT.out] at hL
      have HL := Lib.hid hL
      clear hE hX hL hO hN hpr hBw
      go_wp2
      go_end0
      refine ⟨rfl, vr, HX.out, ?_, HO.out, HE.out, HN.out⟩
      have h7 := HL.out
      rw [HUS.out, List.append_assoc] at h7
      rw [HV.out]
      exact h7
theorem walkBel_any (f : FsD) (hg : goodF f = true) (hs : szF f ≤ 1048576) (nv : Value) (w0 : World) (hN : NodsA w0 nv f.nodes) (k : Nat) : BSays f nv w0 k := by
  induction k using Nat.strongRecOn with
  | ind k ih => exact walkBel_step f hg hs nv w0 hN k ih
end Go.Proofs.Ytknhacblialboaa


/-
  DeepOf of the model and of the program.
  Conditions: at most 2^20 values and letters together.
-/
namespace Go.Proofs.Ytknhacblialboaa
open Go.ChangeShapes Go.WideShapes Go.ChangeAt Go.RowKit Go.Joins
set_option linter.unusedVariables false
set_option linter.unusedSimpArgs false

/-- What DeepOf tells. -/
noncomputable def dpR (f : FsD) (node : Int) : Int := if linksK f node = true then (dpF f.nodes (f.nodes.length + 1) node.toNat : Nat) else 0
theorem links_in {f : FsD} {node : Int} (h : linksK f node = true) : goodF f = true ∧ 0 ≤ node ∧ node < f.nodes.length ∧ f.nodes.length ≤ 40 := by
  obtain ⟨h1, h2, h3⟩ := linksK_in h
  have := inB_t (goodF_GoodF h1).1
  exact ⟨h1, h2, h3, by omega⟩
set_option maxHeartbeats 2000000 in
theorem l7Asked_any (f : FsD) (node : Int) (v : Value) (w : World) (hR : FsA w v f) (hs : szF f ≤ 1048576) : Calls Try.prog 28 #[v, .int .i64 node] w fun e w' => e = .returned (.bool (linksK f node)) ∧ Below w.heap.size w w' := by
  have HR := Lib.hid hR
  obtain ⟨nv, rfl, hN⟩ := hR
  obtain ⟨o, c, rfl, hm, -⟩ := hN
  have hl : f.nodes.length ≤ 1048576 := (lists_small hs).1
  have HS := Lib.hid hs
  have HB := Lib.hid ((Below.refl w.heap.size w).alloc (Nat.le_refl _) (.cells #[.slice o f.nodes.length c, .int .i64 f.room] 31))
  have HK := Lib.hid (heap_alloc_new w (.cells #[.slice o f.nodes.length c, .int .i64 f.room] 31))
  clear hs
  by_cases hg : goodF f = true
  · have HG := Lib.hid hg
    have HW : Hid (linksK f node = isN f.nodes node) := Lib.hid (by unfold linksK; rw [HG.out]; rfl)
    clear hg
    go_enter Try.func28, Try.ntmps28
    go_wp2_with fail
    refine (l3Good_any f _ _ (HR.out.below HB.out) HS.out).mono ?_
    rintro e w1 ⟨rfl, hb1⟩
    rw [HG.out]
    have HB1 := Lib.hid (HB.out.trans (hb1.mono HB.out.size))
    have HK1 := Lib.hid ((hb1.block w.heap.size (lt_of_heap HK.out)).trans HK.out)
    have x1 := (cell_blk HK1.out 0).trans rfl
    have y1 := (cell_blk HK1.out 1).trans rfl
    clear hb1
    go_wp2_with fail
    refine (l3Is_any f node _ _ (HR.out.below HB1.out) hl).mono ?_
    rintro e w2 ⟨rfl, hb2⟩
    have HB2 := Lib.hid (HB1.out.trans (hb2.mono HB1.out.size))
    clear hb2
    go_wp2
    go_ret
    exact ⟨ret_bool HW.out.symm, HB2.out⟩
  · have HG : Hid (goodF f = false) := Lib.hid (by simpa using hg)
    have HW : Hid (linksK f node = false) := Lib.hid (by unfold linksK; rw [HG.out]; rfl)
    clear hg
    go_enter Try.func28, Try.ntmps28
    go_wp2_with fail
    refine (l3Good_any f _ _ (HR.out.below HB.out) HS.out).mono ?_
    rintro e w1 ⟨rfl, hb1⟩
    rw [HG.out]
    have HB1 := Lib.hid (HB.out.trans (hb1.mono HB.out.size))
    clear hb1
    go_wp2
    go_ret
    exact ⟨ret_bool HW.out.symm, HB1.out⟩
theorem cell_moreD {w : World} {a : Addr} {v : Value} {o : Obj} (h : w.cell? a = some v) : (w.alloc o).cell? a = some v := by
  have hl : a.block < w.heap.size := World.block_lt_of_cell? w a h
  exact (((Below.refl _ w).alloc (Nat.le_refl _) o).cell hl).trans h
end Go.Proofs.Ytknhacblialboaa


/-
  NodesBelow of the model and of the program.
  Conditions: at most 2^20 values and letters together.
-/
namespace Go.Proofs.Ytknhacblialboaa
open Go.ChangeShapes Go.WideShapes Go.ChangeAt Go.RowKit Go.Joins
set_option linter.unusedVariables false
set_option linter.unusedSimpArgs false

theorem bi_self (ns : List Nod) (k i : Nat) : (i : Int) ∈ biF ns k i := by
  cases k <;> simp [biF]
theorem bi_reach {ns : List Nod} : ∀ (k i : Nat), Down ns k i → ∀ x ∈ biF ns k i, Reach ns (i : Int) x
  | 0, i, _, x, hx => by
    have : x = (i : Int) := by simpa [biF] using hx
    subst this; exact .refl
  | k + 1, i, hD, x, hx => by
    rcases List.mem_cons.1 hx with rfl | hx
    · exact .refl
    · obtain ⟨e, he, hx⟩ := List.mem_flatMap.1 hx
      obtain ⟨⟨h0, h1⟩, hd⟩ := hD e he
      have h2 := bi_reach k e.node.toNat hd x hx
      rw [show ((e.node.toNat : Nat) : Int) = e.node by omega] at h2
      exact Reach.from_kid (List.mem_map.2 ⟨e, he, rfl⟩) h2
theorem bi_kids {ns : List Nod} : ∀ (k i : Nat), Down ns k i → ∀ b ∈ biF ns k i, ∀ c ∈ kids ns b, c ∈ biF ns k i
  | 0, i, hD, b, hb, c, hc => by
    have : b = (i : Int) := by simpa [biF] using hb
    subst this
    obtain ⟨e, he, rfl⟩ := List.mem_map.1 hc
    have h9 : e ∈ lsAt ns i := he
    rw [show lsAt ns i = [] from hD] at h9
    cases h9
  | k + 1, i, hD, b, hb, c, hc => by
    rcases List.mem_cons.1 hb with rfl | hb
    · obtain ⟨e, he, rfl⟩ := List.mem_map.1 hc
      have h9 : e ∈ lsAt ns i := he
      obtain ⟨⟨h0, h1⟩, hd⟩ := hD e h9
      refine List.mem_cons.2 (.inr (List.mem_flatMap.2 ⟨e, h9, ?_⟩))
      have h2 := bi_self ns k e.node.toNat
      rwa [show ((e.node.toNat : Nat) : Int) = e.node by omega] at h2
    · obtain ⟨e, he, hb⟩ := List.mem_flatMap.1 hb
      obtain ⟨-, hd⟩ := hD e he
      exact List.mem_cons.2 (.inr (List.mem_flatMap.2 ⟨e, he, bi_kids k _ hd b hb c hc⟩))
theorem bi_iff {ns : List Nod} {k i : Nat} (hD : Down ns k i) (x : Int) : x ∈ biF ns k i ↔ Reach ns (i : Int) x := by
  refine ⟨bi_reach k i hD x, fun h => ?_⟩
  induction h with
  | refl => exact bi_self ns k i
  | step _ hk ih => exact bi_kids k i hD _ ih _ hk
/-- What NodesBelow tells. -/
noncomputable def nbR (f : FsD) (node : Int) : List Int := if linksK f node = true then srt (biF f.nodes (f.nodes.length + 1) node.toNat) else []
theorem srt_len (zs : List Int) : (srt zs).length ≤ zs.length := by
  unfold srt Lib.compact Lib.compactUpTo
  rw [List.length_map]
  refine Nat.le_trans (List.length_filter_le _ _) ?_
  simp
theorem nbR_len (f : FsD) (hs : szF f ≤ 1048576) (node : Int) : (nbR f node).length ≤ 50000000 := by
  unfold nbR
  split
  · rename_i h
    obtain ⟨h1, h2, h3, h4⟩ := links_in h
    refine Nat.le_trans (srt_len _) ?_
    rw [bi_wy f.nodes _ _ []]
    exact wy_small h1 hs (by omega) (by omega) false []
  · simp
theorem tupVBi {v : Value} {a b : Bool} (h : a = b) : Ending.returned (Value.tuple #[v, .bool a]) = .returned (.tuple #[v, .bool b]) := by rw [h]
theorem own_take {w : World} {B g n n' cap : Nat} {e : TypeId} {xs : List Value} (h : w.ownsRow B e 1 (.slice (some ⟨g, 0, none⟩) n cap) n xs) (hn : n' ≤ n) : w.ownsRow B e 1 (.slice (some ⟨g, 0, none⟩) n' cap) n' (xs.take n') := by
  obtain ⟨hl, hd⟩ := h
  rcases hd with ⟨e1, h0⟩ | ⟨g1, cap1, cur, e1, hB, hg, hc, hm, hs, ht⟩
  · cases e1
  · simp only [Value.slice.injEq, Option.some.injEq, Addr.mk.injEq, and_true, true_and] at e1
    obtain ⟨rfl, rfl⟩ := e1
    have hxl : xs.length = n := by simpa using hl
    refine ⟨by simp; omega, .inr ⟨g, cap, cur, rfl, hB, hg, by omega, hm, hs, ?_⟩⟩
    rw [← ht, List.take_take]
    congr 1
    omega
/-- slices.Sort on a list of the call's own. -/
theorem sort_own (zs : List Int) (hz : zs ≠ []) (B : Nat) (v : Value) (w : World) (h : LstI w B v zs) (hs : zs.length ≤ 50000000) : Calls Try.prog 65 #[v] w fun e w' => e = .returned (.tuple #[]) ∧ LstI w' B v (zs.mergeSort fun x y => decide (x ≤ y)) ∧ w.grownBy w' v.ownBlock := by
  rcases h.2 with ⟨rfl, h0⟩ | ⟨g, cap, cur, rfl, hB, hg, hn, hm, hcs, ht⟩
  · exact absurd (List.eq_nil_of_length_eq_zero h0) hz
  · rw [Nat.mul_one] at ht
    refine (Try.slices_Sort_int g 0 cap zs w (holds_of_blockI hg ht) (lt_of_heap hg) (by omega)).mono ?_
    rintro e w' ⟨rfl, n, os, rfl⟩
    have hl : (zs.mergeSort fun x y => decide (x ≤ y)).length = zs.length := List.length_mergeSort _
    refine ⟨rfl, ?_, grownBy_sortedI _⟩
    unfold LstI
    rw [hl]
    exact ownsRow_sortedI hl hB hg hn hm hcs
/-- slices.Compact on a list of the call's own. -/
theorem compact_own (zs : List Int) (hz : zs ≠ []) (B : Nat) (v : Value) (w : World) (h : LstI w B v zs) (hs : zs.length ≤ 50000000) : Calls Try.prog 66 #[v] w fun e w' => ∃ v', e = .returned v' ∧ LstI w' B v' (Lib.compact zs) ∧ w.grownBy w' v.ownBlock := by
  rcases h.2 with ⟨rfl, h0⟩ | ⟨g, cap, cur, rfl, hB, hg, hn, hm, hcs, ht⟩
  · exact absurd (List.eq_nil_of_length_eq_zero h0) hz
  · rw [Nat.mul_one] at ht
    refine (Try.slices_Compact_int g 0 cap zs w (holds_of_blockI hg ht) (by omega) hn).mono ?_
    rintro e w' ⟨rfl, q, rfl⟩
    have hcl : (Lib.compact zs).length ≤ zs.length := by
      unfold Lib.compact Lib.compactUpTo
      rw [List.length_map]
      refine Nat.le_trans (List.length_filter_le _ _) ?_
      simp
    have hl : (Lib.compact zs ++ List.replicate (zs.length - (Lib.compact zs).length) 0).length = zs.length := by simp; omega
    have hgr : ∀ W : World, Go.Sort.grow W #[] = W := fun W => by unfold Go.Sort.grow; simp
    have h1 := ownsRow_sortedI (w := w) (n := q) (os := #[]) (base := B) hl hB hg hn hm hcs
    have h2 := grownBy_sortedI (w := w) (g := g) (n := q) (os := #[]) (Lib.compact zs ++ List.replicate (zs.length - (Lib.compact zs).length) 0).toArray
    rw [hgr] at h1 h2
    refine ⟨_, rfl, ?_, h2⟩
    have h3 := own_take h1 hcl
    unfold LstI
    have e3 : List.take (Lib.compact zs).length (List.map (Value.int .i64) (Lib.compact zs ++ List.replicate (zs.length - (Lib.compact zs).length) 0)) = ints (Lib.compact zs) := by
      rw [List.map_append, List.take_left' (by simp)]; rfl
    rw [e3] at h3
    exact h3
end Go.Proofs.Ytknhacblialboaa


/-
  NodesBelow of the program.
  Conditions: at most 2^20 values and letters together.
-/
namespace Go.Proofs.Ytknhacblialboaa
open Go.ChangeShapes Go.WideShapes Go.ChangeAt Go.RowKit Go.Joins
set_option linter.unusedVariables false
set_option linter.unusedSimpArgs false

theorem grown_below {w w' : World} {B : Nat} {row : Option Nat} (h : w.grownBy w' row) (hr : ∀ g, row = some g → B ≤ g) (hB : B ≤ w.heap.size) : Below B w w' :=
  ⟨h.os, h.tape, h.output, h.size, fun i hi => h.block i (Nat.lt_of_lt_of_le hi hB) (fun e => by have := hr i e.symm; omega)⟩
set_option maxHeartbeats 2000000 in
theorem nodesBelow_any (f : FsD) (node : Int) (v : Value) (w : World) (hR : FsA w v f) (hs : szF f ≤ 1048576) : Calls Try.prog 41 #[v, .int .i64 node] w fun e w' => ∃ lv, e = .returned (.tuple #[lv, .bool (linksK f node)]) ∧ LstI w' w.heap.size lv (nbR f node) ∧ Below w.heap.size w w' := by
  have hmf : ∀ (fn : Fn) (first cap : Array Value) (w : World), (Instr.makeFunc fn first cap).run Try.prog w = .ok (.func fn first cap) w := fun _ _ _ _ => rfl
  have HR := Lib.hid hR
  obtain ⟨nv, rfl, hN⟩ := hR
  have HN := Lib.hid hN
  obtain ⟨o, c, rfl, hm, -⟩ := hN
  have HS := Lib.hid hs
  have HB := Lib.hid ((Below.refl w.heap.size w).alloc (Nat.le_refl _) (.cells #[.slice o f.nodes.length c, .int .i64 f.room] 31))
  have HK := Lib.hid (heap_alloc_new w (.cells #[.slice o f.nodes.length c, .int .i64 f.room] 31))
  clear hs
  by_cases hg : linksK f node = true
  · have HG := Lib.hid hg
    obtain ⟨h1, h2, h3, h4⟩ := links_in hg
    obtain ⟨m, rfl⟩ : ∃ m : Nat, node = m := ⟨node.toNat, by omega⟩
    have hml : m < f.nodes.length := by omega
    obtain ⟨zs, hzs⟩ : ∃ zs, zs = biF f.nodes (f.nodes.length + 1) m := ⟨_, rfl⟩
    have HZS := Lib.hid hzs
    have HV : Hid (nbR f (m : Int) = srt zs) := Lib.hid (by unfold nbR; rw [HG.out, hzs]; simp)
    have HD := Lib.hid (down_all h1 hml)
    have HGF := Lib.hid h1
    have HSM : Hid (zs.length ≤ 50000000) := Lib.hid (by rw [hzs, bi_wy f.nodes _ _ []]; exact wy_small h1 HS.out hml (k := f.nodes.length + 1) (by omega) false [])
    have HNZ : Hid (zs ≠ []) := Lib.hid (fun e => by have := bi_self f.nodes (f.nodes.length + 1) m; rw [← hzs, e] at this; cases this)
    have HMZ : Hid ((zs.mergeSort fun x y => decide (x ≤ y)) ≠ []) := Lib.hid (fun e => by
      have := congrArg List.length e
      rw [List.length_mergeSort] at this
      exact HNZ.out (List.eq_nil_of_length_eq_zero this))
    have HML : Hid ((zs.mergeSort fun x y => decide (x ≤ y)).length ≤ 50000000) := Lib.hid (by rw [List.length_mergeSort]; exact HSM.out)
    clear hg h1 hzs
    go_enter Try.func41, Try.ntmps41
    go_wp2_with fail
    refine (isUsedNode_any f _ _ _ (HR.out.below HB.out) HS.out).mono ?_
    rintro e w1 ⟨rfl, hb1⟩
    rw [HG.out]
    have HB1 := Lib.hid (HB.out.trans (hb1.mono HB.out.size))
    have HK1 := Lib.hid ((hb1.block w.heap.size (lt_of_heap HK.out)).trans HK.out)
    have x1 := (cell_blk HK1.out 0).trans rfl
    have y1 := (cell_blk HK1.out 1).trans rfl
    have hbx : Below w1.heap.size w1 (w1.alloc (.cells #[.slice none 0 0] 55)) := (Below.refl _ _).alloc (Nat.le_refl _) _
    have HXB : Hid ((w1.alloc (.cells #[.slice none 0 0] 55)).heap[w1.heap.size]? = some (.cells #[.slice none 0 0] 55)) := Lib.hid (heap_alloc_new w1 _)
    have HBX := Lib.hid (HB1.out.trans (hbx.mono HB1.out.size))
    have hs1 := HB1.out.size
    have x2 := cell_moreD (o := .cells #[.slice none 0 0] 55) x1
    clear hb1 hbx
    go_wp2_with fail
    refine (walkBel_any f HGF.out HS.out _ w HN.out (f.nodes.length + 1) m [] [] (.slice none 0 0) (.slice none 0 0) w1.heap.size w1.heap.size _ hs1 HBX.out hml HD.out (by simp; omega) (fun p hp => by cases hp) (by have := HSM.out; rw [← HZS.out]; simpa using this) (Nat.le_refl _) HXB.out (World.ownsRow_nil _ _ _ _) (Lst.nil _ _) (fun g e => by simp [Value.ownBlock] at e)).mono ?_
    rintro e w2 ⟨rfl, v2, hX2, hL2, -, hE2, -⟩
    have HB2 : Hid (Below w.heap.size w w2) := Lib.hid (HB1.out.trans ((((Below.refl w1.heap.size w1).alloc (Nat.le_refl _) (.cells #[.slice none 0 0] 55)).trans (hE2.below (Nat.le_refl _) (fun g hg => by simp [Value.ownBlock] at hg) (fun g hg => by simp [Value.ownBlock] at hg) (by simp))).mono hs1))
    rw [List.nil_append, ← HZS.out] at hL2
    have z1 : w2.cell? ⟨w1.heap.size, 0, none⟩ = some v2 := cell_blk hX2 0
    have HL2 := Lib.hid hL2
    have HX2 := Lib.hid hX2
    have HNE := Lib.hid (row_ne_boxA hL2 hX2 (by decide))
    have HRV : Hid (∀ g, v2.ownBlock = some g → w.heap.size ≤ g) := Lib.hid (fun g e => Nat.le_trans hs1 (lstI_lt HL2.out g e).1)
    clear hE2 hX2 hL2
    go_wp2_with fail
    refine (sort_own zs HNZ.out _ _ _ HL2.out HSM.out).mono ?_
    rintro e w3 ⟨rfl, hL3, hg3⟩
    have HL3 := Lib.hid hL3
    have HX3 := Lib.hid ((hg3.block w1.heap.size (lt_of_heap HX2.out) (fun e => HNE.out e.symm)).trans HX2.out)
    have HB3 := Lib.hid (HB2.out.trans (grown_below hg3 HRV.out HB2.out.size))
    have z3 : w3.cell? ⟨w1.heap.size, 0, none⟩ = some v2 := cell_blk HX3.out 0
    clear hL3 hg3
    go_wp2_with fail
    refine (compact_own _ HMZ.out _ _ _ HL3.out HML.out).mono ?_
    rintro e w4 ⟨v4, rfl, hL4, hg4⟩
    have HL4 := Lib.hid (lstI_mono hL4 hs1)
    have HB4 := Lib.hid (HB3.out.trans (grown_below hg4 HRV.out HB3.out.size))
    clear hL4 hg4
    go_wp2
    go_ret2
    exact ⟨_, tupVBi HG.out.symm, by rw [HV.out]; exact HL4.out, HB4.out⟩
  · have HG : Hid (linksK f node = false) := Lib.hid (by simpa using hg)
    have HV : Hid (nbR f node = []) := Lib.hid (by unfold nbR; rw [HG.out]; rfl)
    clear hg
    go_enter Try.func41, Try.ntmps41
    go_wp2_with fail
    refine (isUsedNode_any f _ _ _ (HR.out.below HB.out) HS.out).mono ?_
    rintro e w1 ⟨rfl, hb1⟩
    rw [HG.out]
    have HB1 := Lib.hid (HB.out.trans (hb1.mono HB.out.size))
    clear hb1
    go_wp2
    go_ret2
    exact ⟨_, tupVBi HG.out.symm, by rw [HV.out]; exact World.ownsRow_nil _ _ _ _, HB1.out⟩
end Go.Proofs.Ytknhacblialboaa


/-
  Contracts of the range tests and of impl.triplesOf, at this seat's translation: what each returns, for every argument.
  Conditions: none but the ranges that each contract names.
-/
namespace Go.Proofs.Ytknhacblialboaa
open Go.ChangeShapes Go.WideShapes Go.ChangeAt Go.RowKit Go.Joins
set_option linter.unusedVariables false

set_option maxHeartbeats 400000 in
theorem isMode_any (n : Int) (w : World) : Calls Try.prog 161 #[.int .i64 n] w fun e w' => e = .returned (.bool (inB 0 511 n)) ∧ w = w' := by
  by_cases h0 : 0 ≤ n
  · by_cases h1 : n ≤ 511
    · go_enter Try.func161, Try.ntmps161
      go_wp2
      go_ret
      exact ⟨ret_bool (inB_mk h0 h1), rfl⟩
    · go_enter Try.func161, Try.ntmps161
      go_wp2
      go_ret
      exact ⟨ret_bool (inB_no (by omega)), rfl⟩
  · go_enter Try.func161, Try.ntmps161
    go_wp2
    go_ret
    exact ⟨ret_bool (inB_no (by omega)), rfl⟩

set_option maxHeartbeats 400000 in
theorem l1Mode_any (n : Int) (w : World) : Calls Try.prog 94 #[.int .i64 n] w fun e w' => e = .returned (.bool (inB 0 511 n)) ∧ w = w' := by
  go_enter Try.func94, Try.ntmps94
  go_wp2_with (go_at_call 75; refine (l1In_any _ _ _ _).mono ?_; rintro e w' ⟨rfl, rfl⟩)
  go_ret
  exact ⟨rfl, rfl⟩

end Go.Proofs.Ytknhacblialboaa


/-
  Contracts of impl.May, spec.May and all that they call, at this seat's translation: what each returns, for every argument.
  Conditions: none but the ranges that each contract names.
-/
namespace Go.Proofs.Ytknhacblialboaa
open Go.ChangeShapes Go.WideShapes Go.ChangeAt Go.RowKit Go.Joins
set_option linter.unusedVariables false

set_option maxHeartbeats 400000 in
theorem isId_any (n : Int) (w : World) : Calls Try.prog 162 #[.int .i64 n] w fun e w' => e = .returned (.bool (inB 0 99 n)) ∧ w = w' := by
  by_cases h0 : 0 ≤ n
  · by_cases h1 : n ≤ 99
    · go_enter Try.func162, Try.ntmps162
      go_wp2
      go_ret
      exact ⟨ret_bool (inB_mk h0 h1), rfl⟩
    · go_enter Try.func162, Try.ntmps162
      go_wp2
      go_ret
      exact ⟨ret_bool (inB_no (by omega)), rfl⟩
  · go_enter Try.func162, Try.ntmps162
    go_wp2
    go_ret
    exact ⟨ret_bool (inB_no (by omega)), rfl⟩

def credB (u g : Int) : Bool := inB 0 99 u && inB 0 99 g

/-- The three bits that count for a cred: the owner's, else the group's, else the others'. -/
def tri (u g m uid gid : Int) : Int := if u = uid then m / 64 else if g = gid then m / 8 % 8 else m % 8
theorem tri_own {u g m uid gid : Int} (h : u = uid) : tri u g m uid gid = m / 64 := by simp [tri, h]
theorem tri_grp {u g m uid gid : Int} (h : u ≠ uid) (k : g = gid) : tri u g m uid gid = m / 8 % 8 := by simp [tri, h, k]
theorem tri_oth {u g m uid gid : Int} (h : u ≠ uid) (k : g ≠ gid) : tri u g m uid gid = m % 8 := by simp [tri, h, k]

/-- Whether a cred may all bits of want. -/
def mayB (u g m uid gid want : Int) : Bool := u == 0 || bits BinOp.and IntKind.i64 (tri u g m uid gid) want == want
theorem mayB_zero {u g m uid gid want : Int} (h : u = 0) : mayB u g m uid gid want = true := by simp [mayB, h]
theorem mayB_else {u g m uid gid want : Int} (h : u ≠ 0) : mayB u g m uid gid want = (bits BinOp.and IntKind.i64 (tri u g m uid gid) want == want) := by simp [mayB, h]

end Go.Proofs.Ytknhacblialboaa


/-
  Looking a path up in a file system, as plain data: one step, all steps, what is found.
  Conditions: as each states.
-/
namespace Go.Proofs.Ytknhacblialboaa
open Go.ChangeShapes Go.WideShapes Go.ChangeAt Go.RowKit Go.Joins
set_option linter.unusedVariables false

def nodeAt (ns : List Nod) (i : Nat) : Nod := ns.getD i ⟨0, 0, 0, 0, 0, [], []⟩
/-- The node of a name in a list, -1 where it is not there. -/
def atE : List Ent → List UInt8 → Int
  | [], _ => -1
  | e :: es, p => if e.name = p then e.node else atE es p
/-- Where a look is: the node so far, the parts to come, how many links there were. -/
structure Lk where
  node : Nat
  parts : List (List UInt8)
  hops : Nat
/-- One step at the part p with r behind it: a code, and where the look is then. -/
def lkStep (ns : List Nod) (u g : Int) (fol : Bool) (node : Nat) (p : List UInt8) (r : List (List UInt8)) (hops : Nat) : Int × Lk :=
  if (nodeAt ns node).kind ≠ 2 then (3, ⟨0, [], 0⟩)
  else if mayB u g (nodeAt ns node).mode (nodeAt ns node).uid (nodeAt ns node).gid 1 = false then (4, ⟨0, [], 0⟩)
  else if p = [46] then (0, ⟨node, r, hops⟩)
  else if p = [46, 46] then (0, ⟨parentOf (node : Int) ns, r, hops⟩)
  else if atE (nodeAt ns node).list p < 0 then (2, ⟨0, [], 0⟩)
  else if (nodeAt ns (atE (nodeAt ns node).list p).toNat).kind ≠ 3 ∨ (r = [] ∧ fol = false) then (0, ⟨(atE (nodeAt ns node).list p).toNat, r, hops⟩)
  else if hops = 8 then (5, ⟨0, [], 0⟩)
  else (0, ⟨if wholeB (nodeAt ns (atE (nodeAt ns node).list p).toNat).data = true then 0 else node, parts (nodeAt ns (atE (nodeAt ns node).list p).toNat).data ++ r, hops + 1⟩)
/-- All steps, n at most. -/
def lkRun (ns : List Nod) (u g : Int) (fol : Bool) : Nat → Lk → Int × Nat
  | 0, s => (0, s.node)
  | n + 1, ⟨node, [], _⟩ => (0, node)
  | n + 1, ⟨node, p :: r, hops⟩ => if (lkStep ns u g fol node p r hops).1 ≠ 0 then ((lkStep ns u g fol node p r hops).1, 0) else lkRun ns u g fol n (lkStep ns u g fol node p r hops).2
def lkW (s : Lk) : Nat := (8 - s.hops) * 64 + s.parts.length
def lkGo (ns : List Nod) (u g : Int) (fol : Bool) (s : Lk) : Int × Nat := lkRun ns u g fol (lkW s + 1) s

/-- Every link's text is short. -/
def LinksFit (ns : List Nod) : Prop := ∀ i, (nodeAt ns i).kind = 3 → (parts (nodeAt ns i).data).length ≤ 61
theorem step_less {ns : List Nod} (hf : LinksFit ns) {u g : Int} {fol : Bool} {node : Nat} {p : List UInt8} {r : List (List UInt8)} {hops : Nat} (hh : hops ≤ 8) (h0 : (lkStep ns u g fol node p r hops).1 = 0) :
    lkW (lkStep ns u g fol node p r hops).2 < lkW ⟨node, p :: r, hops⟩ ∧ (lkStep ns u g fol node p r hops).2.hops ≤ 8 := by
  unfold lkStep at h0 ⊢
  by_cases h1 : (nodeAt ns node).kind ≠ 2
  · rw [if_pos h1] at h0; simp at h0
  rw [if_neg h1] at h0 ⊢
  by_cases h2 : mayB u g (nodeAt ns node).mode (nodeAt ns node).uid (nodeAt ns node).gid 1 = false
  · rw [if_pos h2] at h0; simp at h0
  rw [if_neg h2] at h0 ⊢
  by_cases h3 : p = [46]
  · rw [if_pos h3]; simp [lkW]; omega
  rw [if_neg h3] at h0 ⊢
  by_cases h4 : p = [46, 46]
  · rw [if_pos h4]; simp [lkW]; omega
  rw [if_neg h4] at h0 ⊢
  by_cases h5 : atE (nodeAt ns node).list p < 0
  · rw [if_pos h5] at h0; simp at h0
  rw [if_neg h5] at h0 ⊢
  by_cases h6 : (nodeAt ns (atE (nodeAt ns node).list p).toNat).kind ≠ 3 ∨ (r = [] ∧ fol = false)
  · rw [if_pos h6]; simp [lkW]; omega
  rw [if_neg h6] at h0 ⊢
  by_cases h7 : hops = 8
  · rw [if_pos h7] at h0; simp at h0
  rw [if_neg h7]
  have h8 := hf (atE (nodeAt ns node).list p).toNat (by
    by_cases hk : (nodeAt ns (atE (nodeAt ns node).list p).toNat).kind = 3
    · exact hk
    · exact absurd (.inl hk) h6)
  simp [lkW]
  omega
theorem lkRun_more {ns : List Nod} (hf : LinksFit ns) (u g : Int) (fol : Bool) : ∀ (n m : Nat) (s : Lk), s.hops ≤ 8 → lkW s < n → lkW s < m → lkRun ns u g fol n s = lkRun ns u g fol m s
  | 0, _, _, _, h, _ => absurd h (Nat.not_lt_zero _)
  | n + 1, 0, _, _, _, h => absurd h (Nat.not_lt_zero _)
  | n + 1, m + 1, ⟨node, [], hops⟩, _, _, _ => rfl
  | n + 1, m + 1, ⟨node, p :: r, hops⟩, hh, hn, hm => by
    rw [lkRun, lkRun]
    by_cases h0 : (lkStep ns u g fol node p r hops).1 = 0
    · rw [if_neg (by rw [h0]; simp), if_neg (by rw [h0]; simp)]
      obtain ⟨h1, h2⟩ := step_less (hops := hops) hf (show hops ≤ 8 from hh) h0
      exact lkRun_more hf u g fol n m _ h2 (by omega) (by omega)
    · rw [if_pos h0, if_pos h0]
theorem lkGo_nil (ns : List Nod) (u g : Int) (fol : Bool) (node hops : Nat) : lkGo ns u g fol ⟨node, [], hops⟩ = (0, node) := rfl
theorem lkGo_stop {ns : List Nod} {u g : Int} {fol : Bool} {node : Nat} {p : List UInt8} {r : List (List UInt8)} {hops : Nat} (h : (lkStep ns u g fol node p r hops).1 ≠ 0) :
    lkGo ns u g fol ⟨node, p :: r, hops⟩ = ((lkStep ns u g fol node p r hops).1, 0) := by
  unfold lkGo
  rw [lkRun, if_pos h]
theorem lkGo_step {ns : List Nod} (hf : LinksFit ns) {u g : Int} {fol : Bool} {node : Nat} {p : List UInt8} {r : List (List UInt8)} {hops : Nat} (hh : hops ≤ 8) (h : (lkStep ns u g fol node p r hops).1 = 0) :
    lkGo ns u g fol ⟨node, p :: r, hops⟩ = lkGo ns u g fol (lkStep ns u g fol node p r hops).2 := by
  obtain ⟨h1, h2⟩ := step_less hf hh h
  unfold lkGo
  rw [lkRun, if_neg (by rw [h]; simp)]
  exact lkRun_more hf u g fol _ _ _ h2 (by omega) (by omega)

def slashB (l : List UInt8) : Bool := l.getLast? == some 47
/-- What FindNode finds: a code and a node. -/
def lkFind (ns : List Nod) (u g : Int) (l : List UInt8) (fol : Bool) : Int × Nat :=
  if goodB l = true ∧ wholeB l = true then
    if (lkGo ns u g (fol || slashB l) ⟨0, parts l, 0⟩).1 ≠ 0 then ((lkGo ns u g (fol || slashB l) ⟨0, parts l, 0⟩).1, 0)
    else if slashB l = true ∧ (nodeAt ns (lkGo ns u g (fol || slashB l) ⟨0, parts l, 0⟩).2).kind ≠ 2 then (3, 0)
    else (0, (lkGo ns u g (fol || slashB l) ⟨0, parts l, 0⟩).2)
  else (1, 0)
theorem linksFit_of {ns : List Nod} (h : ∀ n ∈ ns, nodOkI ns.length n = true) : LinksFit ns := by
  intro i hk
  have hi : i < ns.length := by
    by_cases hi : i < ns.length
    · exact hi
    · unfold nodeAt at hk
      simp [List.getD, List.getElem?_eq_none (Nat.le_of_not_lt hi)] at hk
  have e : nodeAt ns i = ns[i] := getD_at hi
  rw [e] at hk ⊢
  have h1 := h _ (List.getElem_mem hi)
  unfold nodOkI at h1
  rw [if_neg (by omega), if_neg (by omega), if_neg (by omega)] at h1
  simp only [Bool.and_eq_true] at h1
  have h2 : goodB ns[i].data = true := h1.2.2.2.2.2.1
  have h3 : ns[i].data.length ≤ 60 := by simp [goodB] at h2; exact h2.1.2
  have := parts_le ns[i].data
  omega
end Go.Proofs.Ytknhacblialboaa


/-
  How many nodes and bytes a copy takes: the data facts, and what the model says (l10Needs, CopyNeeds).
  Conditions: at most 2^20 values and letters together.
-/
namespace Go.Proofs.Ytknhacblialboaa
open Go.ChangeShapes Go.WideShapes Go.ChangeAt Go.RowKit Go.Joins
set_option linter.unusedVariables false
set_option linter.unusedSimpArgs false

theorem bi_lt {ns : List Nod} : ∀ (k i : Nat), Down ns k i → i < ns.length → ∀ x ∈ biF ns k i, 0 ≤ x ∧ x < ns.length
  | 0, i, _, hi, x, hx => by
    have : x = (i : Int) := by simpa [biF] using hx
    subst this; exact ⟨by omega, by omega⟩
  | k + 1, i, hD, hi, x, hx => by
    rcases List.mem_cons.1 hx with rfl | hx
    · exact ⟨by omega, by omega⟩
    · obtain ⟨e, he, hx⟩ := List.mem_flatMap.1 hx
      obtain ⟨⟨h0, h1⟩, hd⟩ := hD e he
      exact bi_lt k e.node.toNat hd (by omega) x hx
theorem nb_lt {f : FsD} {node : Int} : ∀ x ∈ nbR f node, 0 ≤ x ∧ x < f.nodes.length := by
  intro x hx
  unfold nbR at hx
  split at hx
  · rename_i h
    obtain ⟨h1, h2, h3, h4⟩ := links_in h
    exact bi_lt _ _ (down_all h1 (by omega)) (by omega) x (((srt_up _).2 x).1 hx)
  · cases hx
/-- How many bytes of data the nodes of a list of numbers have. -/
def dsum (ns : List Nod) (l : List Int) : Nat := (l.map fun k => (nodeAt ns k.toNat).data.length).sum
theorem dsum_take {ns : List Nod} {l : List Int} {k : Nat} (h : k < l.length) : dsum ns (l.take (k + 1)) = dsum ns (l.take k) + (nodeAt ns l[k].toNat).data.length := by
  unfold dsum; rw [List.take_succ_eq_append_getElem h]; simp only [List.map_append, List.sum_append, List.map_cons, List.map_nil, List.sum_cons, List.sum_nil, Nat.add_zero]
theorem dsum_pre (ns : List Nod) (l : List Int) (k : Nat) : dsum ns (l.take k) ≤ dsum ns l := by
  conv => rhs; rw [← List.take_append_drop k l]
  unfold dsum; rw [List.map_append, List.sum_append]; omega
theorem dsum_le {ns : List Nod} (hd : ∀ n ∈ ns, n.data.length ≤ 1048576) : ∀ l : List Int, dsum ns l ≤ l.length * 1048576
  | [] => by simp [dsum]
  | a :: r => by
    have h1 := dsum_le hd r
    have h2 : (nodeAt ns a.toNat).data.length ≤ 1048576 := by
      by_cases h : a.toNat < ns.length
      · rw [show nodeAt ns a.toNat = ns[a.toNat] from getD_at h]; exact hd _ (List.getElem_mem h)
      · unfold nodeAt; rw [List.getD_eq_getElem?_getD, List.getElem?_eq_none (by omega)]; simp
    have e : dsum ns (a :: r) = (nodeAt ns a.toNat).data.length + dsum ns r := by unfold dsum; simp
    rw [e, List.length_cons]
    omega
theorem dsum_small {f : FsD} (hs : szF f ≤ 1048576) (node : Int) : dsum f.nodes (nbR f node) ≤ 60000000000000 := by
  have h1 := dsum_le (ns := f.nodes) (fun n hn => ((lists_small hs).2 n hn).2.1) (nbR f node)
  have h2 := nbR_len f hs node
  have h3 : (nbR f node).length * 1048576 ≤ 50000000 * 1048576 := Nat.mul_le_mul_right _ h2
  omega

set_option maxHeartbeats 2000000 in
theorem l10Needs_any (f : FsD) (m : Nat) (v : Value) (w : World) (hR : FsA w v f) (hs : szF f ≤ 1048576) (hg : linksK f (m : Int) = true) :
    Calls Try.prog 40 #[v, .int .i64 m] w fun e w' => e = .returned (.tuple #[.int .i64 ((nbR f (m : Int)).length : Nat), .int .i64 (dsum f.nodes (nbR f (m : Int)) : Nat)]) ∧ Below w.heap.size w w' := by
  have HR := Lib.hid hR
  obtain ⟨nv, rfl, hN⟩ := hR
  obtain ⟨o, c, rfl, hm, hH⟩ := hN
  have HH := Lib.hid hH
  have HS := Lib.hid hs
  have HB := Lib.hid ((Below.refl w.heap.size w).alloc (Nat.le_refl _) (.cells #[.slice o f.nodes.length c, .int .i64 f.room] 31))
  have HK := Lib.hid (heap_alloc_new w (.cells #[.slice o f.nodes.length c, .int .i64 f.room] 31))
  obtain ⟨h1, h2, h3, h4⟩ := links_in hg
  have hml : m < f.nodes.length := by omega
  have HV : Hid (nbR f (m : Int) = srt (biF f.nodes (f.nodes.length + 1) m)) := Lib.hid (by unfold nbR; rw [hg]; simp)
  have HD := Lib.hid (down_all h1 hml)
  have HLD := Lib.hid (lead_of (goodF_GoodF h1).2.2.2.2.1)
  have HLS := Lib.hid (fun n (hn : n ∈ f.nodes) => ((lists_small HS.out).2 n hn).1)
  have HDS := Lib.hid (dsum_small hs (m : Int))
  have HNL := Lib.hid (nbR_len f hs (m : Int))
  have HLT := Lib.hid (nb_lt (f := f) (node := (m : Int)))
  obtain ⟨Z, hZ⟩ : ∃ Z, Z = nbR f (m : Int) := ⟨_, rfl⟩
  have HZ9 := Lib.hid hZ
  rw [← hZ] at HDS HNL HLT ⊢
  clear hg h1 hs hH hm hZ
  go_enter Try.func40, Try.ntmps40
  go_wp2_with fail
  refine (l3Met_sort f HLD.out (by omega) HLS.out _ [] (m : Int) _ _ _ rfl (HR.out.below HB.out) (RdI.nil _) ⟨List.nodup_nil, fun x hx => by cases hx⟩ List.Pairwise.nil (by omega) (by omega)).mono ?_
  rintro e w2 ⟨lv, M, rfl, hL2, hM2, hb2, hS2⟩
  have HB2 := Lib.hid (HB.out.trans (hb2.mono HB.out.size))
  have HK2 := Lib.hid ((hb2.block w.heap.size (lt_of_heap HK.out)).trans HK.out)
  have hE : M = Z := by
    rw [HZ9.out, HV.out]
    obtain ⟨s1, s2⟩ := srt_up (biF f.nodes (f.nodes.length + 1) m)
    exact rise_ext _ _ hS2 s1 (fun x => by rw [s2, hM2.all, bi_iff HD.out])
  subst hE
  have HL2 := Lib.hid hL2
  obtain ⟨o2, c2, rfl, hl2, hm2, -, -⟩ := hL2
  have hnl := HNL.out
  have x0 : w2.cell? ⟨w.heap.size, 0, none⟩ = some (.slice o f.nodes.length c) := (cell_blk HK2.out 0).trans rfl
  clear hb2 hM2 hS2 HV HD HLD HLS hm2 hl2 HZ9
  go_wp2
  go_loop [6, 7, 14] (fun n b i => ∃ k : Nat, k ≤ M.length ∧ i = .int .i64 k ∧ n = .int .i64 k ∧ b = .int .i64 (dsum f.nodes (M.take k) : Nat)) (fun _ _ i => M.length - (intOf i).toNat)
  case atStart => exact ⟨0, Nat.zero_le _, rfl, rfl, rfl⟩
  case round =>
    obtain ⟨k, hk, rfl, rfl, rfl⟩ := hrel
    by_cases hlt : k < M.length
    · obtain ⟨g1, f1, rfl, _, hc1⟩ := rdI_at HL2.out k hlt
      have HSM := Lib.hid (dsum_take (ns := f.nodes) hlt)
      have hle := dsum_pre f.nodes M (k + 1)
      obtain ⟨b0, b1⟩ := HLT.out _ (List.getElem_mem hlt)
      obtain ⟨j, hj⟩ : ∃ j : Nat, (j : Int) = M[k] := ⟨M[k].toNat, by omega⟩
      have hjl : j < f.nodes.length := by omega
      rw [← hj] at hc1 HSM
      rw [Int.toNat_natCast] at HSM
      obtain ⟨g, off, lv, rfl, hgg, hcc, -, -⟩ := HH.out j hjl
      have d5 := (hcc.below HB2.out hgg).c5
      rw [show nodeAt f.nodes j = f.nodes[j] from getD_at hjl] at HSM
      have HZ : Hid ((bs f.nodes[j].data).size = f.nodes[j].data.length) := Lib.hid (bs_size _)
      obtain ⟨x, hxx⟩ : ∃ x, x = bs f.nodes[j].data := ⟨_, rfl⟩
      rw [← hxx] at d5 HZ
      have hx : dsum f.nodes (M.take k) + x.size ≤ 60000000000000 := by have := HDS.out; rw [HZ.out, ← HSM.out]; omega
      have hj0 : (0 : Int) ≤ (j : Int) := by omega
      have hj1 : (j : Int) < (f.nodes.length : Int) := by omega
      clear hcc hxx hle b0 b1 hj
      go_wp2
      go_round
      case rel => exact ⟨k + 1, hlt, by go_num, by go_num, by rw [HSM.out, ← HZ.out]; go_num⟩
      case measure => simp [intOf]; omega
    · have hkk : k = M.length := by omega
      have HT : Hid (M.take k = M) := Lib.hid (List.take_of_length_le (by omega))
      have HKK := Lib.hid hkk
      clear hkk
      go_wp2
      go_ret2
      exact ⟨by rw [HT.out, HKK.out]; rfl, HB2.out⟩

set_option maxHeartbeats 2000000 in
theorem specCopyNeeds_any (f : FsD) (node : Int) (v : Value) (w : World) (hR : FsA w v f) (hs : szF f ≤ 1048576) :
    Calls Try.prog 16 #[v, .int .i64 node] w fun e w' => e = .returned (.tuple #[.int .i64 ((nbR f node).length : Nat), .int .i64 (dsum f.nodes (nbR f node) : Nat), .bool (linksK f node)]) ∧ Below w.heap.size w w' := by
  have HR := Lib.hid hR
  obtain ⟨nv, rfl, hN⟩ := hR
  obtain ⟨o, c, rfl, hm, -⟩ := hN
  have HS := Lib.hid hs
  have HB := Lib.hid ((Below.refl w.heap.size w).alloc (Nat.le_refl _) (.cells #[.slice o f.nodes.length c, .int .i64 f.room] 31))
  have HK := Lib.hid (heap_alloc_new w (.cells #[.slice o f.nodes.length c, .int .i64 f.room] 31))
  clear hs
  by_cases hg : linksK f node = true
  · have HG := Lib.hid hg
    obtain ⟨h1, h2, h3, h4⟩ := links_in hg
    obtain ⟨m, rfl⟩ : ∃ m : Nat, node = m := ⟨node.toNat, by omega⟩
    clear h1 h2 h3 h4 hg
    go_enter Try.func16, Try.ntmps16
    go_wp2_with fail
    refine (l7Asked_any f _ _ _ (HR.out.below HB.out) HS.out).mono ?_
    rintro e w1 ⟨rfl, hb1⟩
    rw [HG.out]
    have HB1 := Lib.hid (HB.out.trans (hb1.mono HB.out.size))
    have HK1 := Lib.hid ((hb1.block w.heap.size (lt_of_heap HK.out)).trans HK.out)
    have x1 := (cell_blk HK1.out 0).trans rfl
    have y1 := (cell_blk HK1.out 1).trans rfl
    clear hb1
    go_wp2_with fail
    refine (l10Needs_any f m _ _ (HR.out.below HB1.out) HS.out HG.out).mono ?_
    rintro e w2 ⟨rfl, hb2⟩
    have HB2 := Lib.hid (HB1.out.trans (hb2.mono HB1.out.size))
    clear hb2
    obtain ⟨n, hn⟩ : ∃ n, n = (nbR f (m : Int)).length := ⟨_, rfl⟩
    obtain ⟨d, hd⟩ : ∃ d, d = dsum f.nodes (nbR f (m : Int)) := ⟨_, rfl⟩
    rw [← hn, ← hd]
    have HNH := Lib.hid hn
    have HDH := Lib.hid hd
    clear hn hd
    go_wp2
    refine bodyPost_ret (v := .tuple #[.int .i64 (n : Int), .int .i64 (d : Int), .bool true]) (by simp [results, Try.results16, go_sem]) rfl ?_
    exact ⟨by rw [HG.out, ← HNH.out, ← HDH.out], HB2.out⟩
  · have HG : Hid (linksK f node = false) := Lib.hid (by simpa using hg)
    have HV : Hid (nbR f node = []) := Lib.hid (by unfold nbR; rw [HG.out]; rfl)
    clear hg
    go_enter Try.func16, Try.ntmps16
    go_wp2_with fail
    refine (l7Asked_any f _ _ _ (HR.out.below HB.out) HS.out).mono ?_
    rintro e w1 ⟨rfl, hb1⟩
    rw [HG.out]
    have HB1 := Lib.hid (HB.out.trans (hb1.mono HB.out.size))
    clear hb1
    go_wp2
    refine bodyPost_ret (v := .tuple #[.int .i64 0, .int .i64 0, .bool false]) (by simp [results, Try.results16, go_sem]) rfl ?_
    exact ⟨by rw [HV.out, HG.out]; rfl, HB1.out⟩
end Go.Proofs.Ytknhacblialboaa


/-
  CopyNeeds of the program; FitsCopy of the model and of the program.
  Conditions: at most 2^20 values and letters together.
-/
namespace Go.Proofs.Ytknhacblialboaa
open Go.ChangeShapes Go.WideShapes Go.ChangeAt Go.RowKit Go.Joins
set_option linter.unusedVariables false
set_option linter.unusedSimpArgs false

def cnt0 (ns : List Nod) : Nat := ns.countP fun n => n.kind == 0
theorem cnt0_take {ns : List Nod} {k : Nat} (h : k < ns.length) : cnt0 (ns.take (k + 1)) = cnt0 (ns.take k) + (if ns[k].kind == 0 then 1 else 0) := by
  unfold cnt0; rw [List.take_succ_eq_append_getElem h, List.countP_append]; simp [List.countP_cons]
theorem cnt0_le (ns : List Nod) : cnt0 ns ≤ ns.length := List.countP_le_length
theorem cnt0_pre (ns : List Nod) (k : Nat) : cnt0 (ns.take k) ≤ k := Nat.le_trans (cnt0_le _) (by rw [List.length_take]; omega)
/-- How many nodes may come yet. -/
def leftN (ns : List Nod) : Int := 40 - (ns.length : Int) + (cnt0 ns : Int)
noncomputable def fitK (f : FsD) (node : Int) : Bool := linksK f node && (decide (((nbR f node).length : Int) ≤ leftN f.nodes) && decide ((sumD f.nodes : Int) + (dsum f.nodes (nbR f node) : Int) ≤ f.room))
theorem fitK_no {f : FsD} {node : Int} (h : linksK f node = false) : fitK f node = false := by unfold fitK; rw [h]; rfl
theorem fitK_left {f : FsD} {node : Int} (h : ¬ (((nbR f node).length : Int) ≤ leftN f.nodes)) : fitK f node = false := by unfold fitK; rw [decide_eq_false h]; simp
theorem fitK_room {f : FsD} {node : Int} (h : ¬ ((sumD f.nodes : Int) + (dsum f.nodes (nbR f node) : Int) ≤ f.room)) : fitK f node = false := by unfold fitK; rw [decide_eq_false h]; simp
theorem fitK_yes {f : FsD} {node : Int} (h : linksK f node = true) (h1 : ((nbR f node).length : Int) ≤ leftN f.nodes) (h2 : (sumD f.nodes : Int) + (dsum f.nodes (nbR f node) : Int) ≤ f.room) : fitK f node = true := by unfold fitK; rw [h, decide_eq_true h1, decide_eq_true h2]; rfl
theorem leftN_is {ns : List Nod} {L : Int} (h : leftN ns = L) {P : Int → Prop} (hp : P (leftN ns)) : P L := h ▸ hp

set_option maxHeartbeats 2000000 in
theorem nodesLeft_any {ns : List Nod} {v : Value} {w : World} (hN : NodsA w v ns) (hl : ns.length ≤ 1048576) : Calls Try.prog 43 #[v] w fun e w' => e = .returned (.int .i64 (leftN ns)) ∧ Below w.heap.size w w' := by
  obtain ⟨o, c, rfl, hm, hH⟩ := hN
  have HH := Lib.hid hH
  have HL := Lib.hid (show leftN ns = 40 - (ns.length : Int) + (cnt0 ns : Int) from rfl)
  clear hH hm
  go_enter Try.func43, Try.ntmps43
  go_wp2
  go_loop [3, 10] (fun t i => ∃ k : Nat, k ≤ ns.length ∧ i = .int .i64 k ∧ t = .int .i64 (40 - (ns.length : Int) + (cnt0 (ns.take k) : Int))) (fun _ i => ns.length - (intOf i).toNat)
  case atStart => exact ⟨0, Nat.zero_le _, rfl, by simp [cnt0]⟩
  case round =>
    obtain ⟨k, hk, rfl, rfl⟩ := hrel
    by_cases hlt : k < ns.length
    · obtain ⟨g, off, lv, rfl, hgg, hc, he, hml⟩ := HH.out k hlt
      have HT := Lib.hid (cnt0_take hlt)
      have hcb := cnt0_pre ns k
      obtain ⟨cc, hcc⟩ : ∃ cc, cc = cnt0 (ns.take k) := ⟨_, rfl⟩
      have d0 := hc.c0
      obtain ⟨kd, hkd⟩ : ∃ kd, kd = ns[k].kind := ⟨_, rfl⟩
      rw [← hkd] at d0 HT
      rw [← hcc] at hcb HT ⊢
      clear hc he hml hkd hcc
      by_cases hz : kd = 0
      · subst hz
        go_wp2
        go_round
        case rel => exact ⟨k + 1, hlt, by go_num, by rw [HT.out]; congr 1; simp; omega⟩
        case measure => simp [intOf]; omega
      · have zb : (kd == 0) = false := beq_eq_false_iff_ne.2 hz
        have HZ := Lib.hid zb
        go_wp2
        go_round
        case rel => exact ⟨k + 1, hlt, by go_num, by rw [HT.out, HZ.out]; simp⟩
        case measure => simp [intOf]; omega
    · have HT : Hid (ns.take k = ns) := Lib.hid (List.take_of_length_le (by omega))
      go_wp2
      go_ret
      exact ⟨ret_int (by rw [HT.out, HL.out]), Below.refl _ _⟩

theorem nodesLeft_is {ns : List Nod} {L : Int} (h : leftN ns = L) {v : Value} {w : World} (hN : NodsA w v ns) (hl : ns.length ≤ 1048576) : Calls Try.prog 43 #[v] w fun e w' => e = .returned (.int .i64 L) ∧ Below w.heap.size w w' := by
  subst h; exact nodesLeft_any hN hl
theorem bytesOf_L {ns : List Nod} {n : Nat} (h : sumD ns = n) {v : Value} {w : World} (hR : NodsA w v ns) (hs : szNs ns ≤ 1048576) (hl : ns.length ≤ 1048576) : Calls Try.prog 44 #[v] w fun e w' => e = .returned (.int .i64 (n : Int)) ∧ Below w.heap.size w w' := by
  subst h; exact bytesOf_b hR hs hl
theorem l3Bytes_L {f : FsD} {n : Nat} (h : sumD f.nodes = n) {v : Value} {w : World} (hR : FsA w v f) (hs : szF f ≤ 1048576) : Calls Try.prog 42 #[v] w fun e w' => e = .returned (.int .i64 (n : Int)) ∧ Below w.heap.size w w' := by
  subst h; exact l3Bytes_any f v w hR hs

set_option maxHeartbeats 2000000 in
theorem copyNeeds_any (f : FsD) (node : Int) (v : Value) (w : World) (hR : FsA w v f) (hs : szF f ≤ 1048576) :
    Calls Try.prog 17 #[v, .int .i64 node] w fun e w' => e = .returned (.tuple #[.int .i64 ((nbR f node).length : Nat), .int .i64 (dsum f.nodes (nbR f node) : Nat), .bool (linksK f node)]) ∧ Below w.heap.size w w' := by
  have HR := Lib.hid hR
  obtain ⟨nv, rfl, hN⟩ := hR
  obtain ⟨o, c, rfl, hm, hH⟩ := hN
  have HH := Lib.hid hH
  have HS := Lib.hid hs
  have HB := Lib.hid ((Below.refl w.heap.size w).alloc (Nat.le_refl _) (.cells #[.slice o f.nodes.length c, .int .i64 f.room] 31))
  have HK := Lib.hid (heap_alloc_new w (.cells #[.slice o f.nodes.length c, .int .i64 f.room] 31))
  have HDS := Lib.hid (dsum_small hs node)
  have HNL := Lib.hid (nbR_len f hs node)
  have HLT := Lib.hid (nb_lt (f := f) (node := node))
  obtain ⟨b, hb⟩ : ∃ b, b = linksK f node := ⟨_, rfl⟩
  have HNB := Lib.hid (fun W (h : FsA W (.agg #[.slice o f.nodes.length c, .int .i64 f.room]) f) => nodesBelow_any f node _ W h hs)
  rw [← hb] at HNB ⊢
  obtain ⟨M, hM⟩ : ∃ M, M = nbR f node := ⟨_, rfl⟩
  rw [← hM] at HDS HNL HLT HNB ⊢
  clear hs hH hm hb hM
  go_enter Try.func17, Try.ntmps17
  go_wp2_with fail
  refine (HNB.out _ (HR.out.below HB.out)).mono ?_
  rintro e w2 ⟨lv, rfl, hL, hb2⟩
  have hL2 := hL.read
  have HB2 := Lib.hid (HB.out.trans (hb2.mono HB.out.size))
  have HK2 := Lib.hid ((hb2.block w.heap.size (lt_of_heap HK.out)).trans HK.out)
  have HL2 := Lib.hid hL2
  obtain ⟨o2, c2, rfl, hl2, hm2, -, -⟩ := hL2
  have hnl := HNL.out
  have x0 : w2.cell? ⟨w.heap.size, 0, none⟩ = some (.slice o f.nodes.length c) := (cell_blk HK2.out 0).trans rfl
  clear hb2 hm2 hl2 hL
  go_wp2
  go_loop [9, 20] (fun b i => ∃ k : Nat, k ≤ M.length ∧ i = .int .i64 k ∧ b = .int .i64 (dsum f.nodes (M.take k) : Nat)) (fun _ i => M.length - (intOf i).toNat)
  case atStart => exact ⟨0, Nat.zero_le _, rfl, rfl⟩
  case round =>
    obtain ⟨k, hk, rfl, rfl⟩ := hrel
    by_cases hlt : k < M.length
    · obtain ⟨g1, f1, rfl, _, hc1⟩ := rdI_at HL2.out k hlt
      have HSM := Lib.hid (dsum_take (ns := f.nodes) hlt)
      have hle := dsum_pre f.nodes M (k + 1)
      obtain ⟨b0, b1⟩ := HLT.out _ (List.getElem_mem hlt)
      obtain ⟨j, hj⟩ : ∃ j : Nat, (j : Int) = M[k] := ⟨M[k].toNat, by omega⟩
      have hjl : j < f.nodes.length := by omega
      rw [← hj] at hc1 HSM
      rw [Int.toNat_natCast] at HSM
      obtain ⟨g, off, lv, rfl, hgg, hcc, -, -⟩ := HH.out j hjl
      have d5 := (hcc.below HB2.out hgg).c5
      rw [show nodeAt f.nodes j = f.nodes[j] from getD_at hjl] at HSM
      have HZ : Hid ((bs f.nodes[j].data).size = f.nodes[j].data.length) := Lib.hid (bs_size _)
      obtain ⟨x, hxx⟩ : ∃ x, x = bs f.nodes[j].data := ⟨_, rfl⟩
      rw [← hxx] at d5 HZ
      have hx : dsum f.nodes (M.take k) + x.size ≤ 60000000000000 := by have := HDS.out; rw [HZ.out, ← HSM.out]; omega
      have hj0 : (0 : Int) ≤ (j : Int) := by omega
      have hj1 : (j : Int) < (f.nodes.length : Int) := by omega
      clear hcc hxx hle b0 b1 hj
      go_wp2
      go_round
      case rel => exact ⟨k + 1, hlt, by go_num, by rw [HSM.out, ← HZ.out]; go_num⟩
      case measure => simp [intOf]; omega
    · have HT : Hid (M.take k = M) := Lib.hid (List.take_of_length_le (by omega))
      go_wp2
      refine bodyPost_ret (v := .tuple #[.int .i64 (M.length : Int), .int .i64 (dsum f.nodes (M.take k) : Int), .bool b]) (by simp [results, Try.results17, go_sem]) rfl ?_
      exact ⟨by rw [HT.out], HB2.out⟩

set_option maxHeartbeats 4000000 in
theorem fitsCopy_any (f : FsD) (node : Int) (v : Value) (w : World) (hR : FsA w v f) (hs : szF f ≤ 1048576) :
    Calls Try.prog 19 #[v, .int .i64 node] w fun e w' => e = .returned (.tuple #[.bool (fitK f node), .bool (linksK f node)]) ∧ Below w.heap.size w w' := by
  have HR := Lib.hid hR
  obtain ⟨nv, rfl, hN⟩ := hR
  have HN := Lib.hid hN
  obtain ⟨o, c, rfl, hm, hH⟩ := hN
  have HH := Lib.hid hH
  have HS := Lib.hid hs
  have hl := (lists_small hs).1
  have HSZ : Hid (szNs f.nodes ≤ 1048576) := Lib.hid (by unfold szF at hs; omega)
  have HB := Lib.hid ((Below.refl w.heap.size w).alloc (Nat.le_refl _) (.cells #[.slice o f.nodes.length c, .int .i64 f.room] 31))
  have HK := Lib.hid (heap_alloc_new w (.cells #[.slice o f.nodes.length c, .int .i64 f.room] 31))
  have HDS := Lib.hid (dsum_small hs node)
  have HNL := Lib.hid (nbR_len f hs node)
  obtain ⟨S, hSS⟩ : ∃ S, sumD f.nodes = S := ⟨_, rfl⟩
  have HSS := Lib.hid hSS
  have hS20 : S ≤ 1048576 := by have := sumD_le f.nodes; unfold szF at hs; omega
  obtain ⟨L, hL⟩ : ∃ L, leftN f.nodes = L := ⟨_, rfl⟩
  have HL := Lib.hid hL
  have hLb : -1048576 ≤ L ∧ L ≤ 1048616 := by have := cnt0_le f.nodes; unfold leftN at hL; omega
  obtain ⟨hL0, hL1⟩ := hLb
  have HCN := Lib.hid (fun W (h : FsA W (.agg #[.slice o f.nodes.length c, .int .i64 f.room]) f) => copyNeeds_any f node _ W h hs)
  obtain ⟨n, hn⟩ : ∃ n, n = (nbR f node).length := ⟨_, rfl⟩
  obtain ⟨d, hd⟩ : ∃ d, d = dsum f.nodes (nbR f node) := ⟨_, rfl⟩
  rw [← hn, ← hd] at HCN
  rw [← hn] at HNL
  rw [← hd] at HDS
  have HNN := Lib.hid hn
  have HDD := Lib.hid hd
  have hnb := HNL.out
  have hdb := HDS.out
  by_cases hg : linksK f node = true
  · have HG := Lib.hid hg
    obtain ⟨h1, h2, h3, h4⟩ := links_in hg
    have hrm := inB_t (goodF_GoodF h1).2.1
    obtain ⟨hr0, hr1⟩ := hrm
    by_cases c1 : (n : Int) ≤ L
    · by_cases c2 : (d : Int) ≤ f.room - (S : Int)
      · have HF : Hid (fitK f node = true) := Lib.hid (fitK_yes hg (by rw [← hn, hL]; exact c1) (by rw [← hd, hSS]; omega))
        have HDB : Hid True := Lib.hid trivial
        clear hn hd hL hSS hg hH hm
        try clear h1 h2 h3 h4
        go_enter Try.func19, Try.ntmps19
        go_wp2_with fail
        refine (HCN.out _ (HR.out.below HB.out)).mono ?_
        rintro e w1 ⟨rfl, hb1⟩
        rw [HG.out]
        have HBr := Lib.hid (HB.out.trans (hb1.mono HB.out.size))
        have HK1 := Lib.hid ((hb1.block w.heap.size (lt_of_heap HK.out)).trans HK.out)
        have x1 : w1.cell? ⟨w.heap.size, 0, none⟩ = some (.slice o f.nodes.length c) := (cell_blk HK1.out 0).trans rfl
        have y1 : w1.cell? ⟨w.heap.size, 1, none⟩ = some (.int .i64 f.room) := (cell_blk HK1.out 1).trans rfl
        have z0 := fun dd os => cell_regrown (w := w1) x1 dd os
        have z1 := fun dd os => cell_regrown (w := w1) y1 dd os
        have HN9 := Lib.hid (HN.out.below HBr.out)
        clear hb1
        go_wp2
        refine wp_region_quiet_below (by kernel_rfl) (by kernel_rfl) ?_
        repeat (first | go_big_quiet_step ((first | (go_at_call 43; exact Calls.regrown_of (nodesLeft_is HL.out (HN9.out.below (below_regrown _ _ _)) hl)) | (go_at_call 44; exact Calls.regrown_of (bytesOf_L HSS.out (HN9.out.below (below_regrown _ _ _)) HSZ.out hl)))) | quiet_step ((first | (go_at_call 43; exact Calls.regrown_of (nodesLeft_is HL.out (HN9.out.below (below_regrown _ _ _)) hl)) | (go_at_call 44; exact Calls.regrown_of (bytesOf_L HSS.out (HN9.out.below (below_regrown _ _ _)) HSZ.out hl)))))
        try rw [HDB.out]
        repeat (first | go_big_quiet_step ((first | (go_at_call 43; exact Calls.regrown_of (nodesLeft_is HL.out (HN9.out.below (below_regrown _ _ _)) hl)) | (go_at_call 44; exact Calls.regrown_of (bytesOf_L HSS.out (HN9.out.below (below_regrown _ _ _)) HSZ.out hl)))) | quiet_step ((first | (go_at_call 43; exact Calls.regrown_of (nodesLeft_is HL.out (HN9.out.below (below_regrown _ _ _)) hl)) | (go_at_call 44; exact Calls.regrown_of (bytesOf_L HSS.out (HN9.out.below (below_regrown _ _ _)) HSZ.out hl)))))
        refine wpQuiet_nil ?_
        intro w5 hwq
        have hb5 : Below w1.heap.size w1 w5 := by
          obtain ⟨pp, rfl⟩ := hwq
          exact below_regrown _ _ _
        have HB5 := Lib.hid (HBr.out.trans (hb5.mono HBr.out.size))
        clear hwq hb5
        go_wp2
        go_ret2
        exact ⟨by rw [HF.out, HG.out]; first | done | rfl | (rw [HDB.out]; rfl), HB5.out⟩
      · have HF : Hid (fitK f node = false) := Lib.hid (fitK_room (by rw [← hd, hSS]; omega))
        have HDB : Hid (decide ((d : Int) ≤ f.room - (S : Int)) = false) := Lib.hid (decide_eq_false c2)
        clear hn hd hL hSS hg hH hm
        try clear h1 h2 h3 h4
        go_enter Try.func19, Try.ntmps19
        go_wp2_with fail
        refine (HCN.out _ (HR.out.below HB.out)).mono ?_
        rintro e w1 ⟨rfl, hb1⟩
        rw [HG.out]
        have HBr := Lib.hid (HB.out.trans (hb1.mono HB.out.size))
        have HK1 := Lib.hid ((hb1.block w.heap.size (lt_of_heap HK.out)).trans HK.out)
        have x1 : w1.cell? ⟨w.heap.size, 0, none⟩ = some (.slice o f.nodes.length c) := (cell_blk HK1.out 0).trans rfl
        have y1 : w1.cell? ⟨w.heap.size, 1, none⟩ = some (.int .i64 f.room) := (cell_blk HK1.out 1).trans rfl
        have z0 := fun dd os => cell_regrown (w := w1) x1 dd os
        have z1 := fun dd os => cell_regrown (w := w1) y1 dd os
        have HN9 := Lib.hid (HN.out.below HBr.out)
        clear hb1
        go_wp2
        refine wp_region_quiet_below (by kernel_rfl) (by kernel_rfl) ?_
        repeat (first | go_big_quiet_step ((first | (go_at_call 43; exact Calls.regrown_of (nodesLeft_is HL.out (HN9.out.below (below_regrown _ _ _)) hl)) | (go_at_call 44; exact Calls.regrown_of (bytesOf_L HSS.out (HN9.out.below (below_regrown _ _ _)) HSZ.out hl)))) | quiet_step ((first | (go_at_call 43; exact Calls.regrown_of (nodesLeft_is HL.out (HN9.out.below (below_regrown _ _ _)) hl)) | (go_at_call 44; exact Calls.regrown_of (bytesOf_L HSS.out (HN9.out.below (below_regrown _ _ _)) HSZ.out hl)))))
        try rw [HDB.out]
        repeat (first | go_big_quiet_step ((first | (go_at_call 43; exact Calls.regrown_of (nodesLeft_is HL.out (HN9.out.below (below_regrown _ _ _)) hl)) | (go_at_call 44; exact Calls.regrown_of (bytesOf_L HSS.out (HN9.out.below (below_regrown _ _ _)) HSZ.out hl)))) | quiet_step ((first | (go_at_call 43; exact Calls.regrown_of (nodesLeft_is HL.out (HN9.out.below (below_regrown _ _ _)) hl)) | (go_at_call 44; exact Calls.regrown_of (bytesOf_L HSS.out (HN9.out.below (below_regrown _ _ _)) HSZ.out hl)))))
        refine wpQuiet_nil ?_
        intro w5 hwq
        have hb5 : Below w1.heap.size w1 w5 := by
          obtain ⟨pp, rfl⟩ := hwq
          exact below_regrown _ _ _
        have HB5 := Lib.hid (HBr.out.trans (hb5.mono HBr.out.size))
        clear hwq hb5
        go_wp2
        go_ret2
        exact ⟨by rw [HF.out, HG.out]; first | done | rfl | (rw [HDB.out]; rfl), HB5.out⟩
    · have HF : Hid (fitK f node = false) := Lib.hid (fitK_left (by rw [← hn, hL]; exact c1))
      have HDB : Hid (decide ((n : Int) ≤ L) = false) := Lib.hid (decide_eq_false c1)
      clear hn hd hL hSS hg hH hm
      try clear h1 h2 h3 h4
      go_enter Try.func19, Try.ntmps19
      go_wp2_with fail
      refine (HCN.out _ (HR.out.below HB.out)).mono ?_
      rintro e w1 ⟨rfl, hb1⟩
      rw [HG.out]
      have HBr := Lib.hid (HB.out.trans (hb1.mono HB.out.size))
      have HK1 := Lib.hid ((hb1.block w.heap.size (lt_of_heap HK.out)).trans HK.out)
      have x1 : w1.cell? ⟨w.heap.size, 0, none⟩ = some (.slice o f.nodes.length c) := (cell_blk HK1.out 0).trans rfl
      have y1 : w1.cell? ⟨w.heap.size, 1, none⟩ = some (.int .i64 f.room) := (cell_blk HK1.out 1).trans rfl
      have z0 := fun dd os => cell_regrown (w := w1) x1 dd os
      have z1 := fun dd os => cell_regrown (w := w1) y1 dd os
      have HN9 := Lib.hid (HN.out.below HBr.out)
      clear hb1
      go_wp2
      refine wp_region_quiet_below (by kernel_rfl) (by kernel_rfl) ?_
      repeat (first | go_big_quiet_step ((first | (go_at_call 43; exact Calls.regrown_of (nodesLeft_is HL.out (HN9.out.below (below_regrown _ _ _)) hl)) | (go_at_call 44; exact Calls.regrown_of (bytesOf_L HSS.out (HN9.out.below (below_regrown _ _ _)) HSZ.out hl)))) | quiet_step ((first | (go_at_call 43; exact Calls.regrown_of (nodesLeft_is HL.out (HN9.out.below (below_regrown _ _ _)) hl)) | (go_at_call 44; exact Calls.regrown_of (bytesOf_L HSS.out (HN9.out.below (below_regrown _ _ _)) HSZ.out hl)))))
      try rw [HDB.out]
      repeat (first | go_big_quiet_step ((first | (go_at_call 43; exact Calls.regrown_of (nodesLeft_is HL.out (HN9.out.below (below_regrown _ _ _)) hl)) | (go_at_call 44; exact Calls.regrown_of (bytesOf_L HSS.out (HN9.out.below (below_regrown _ _ _)) HSZ.out hl)))) | quiet_step ((first | (go_at_call 43; exact Calls.regrown_of (nodesLeft_is HL.out (HN9.out.below (below_regrown _ _ _)) hl)) | (go_at_call 44; exact Calls.regrown_of (bytesOf_L HSS.out (HN9.out.below (below_regrown _ _ _)) HSZ.out hl)))))
      refine wpQuiet_nil ?_
      intro w5 hwq
      have hb5 : Below w1.heap.size w1 w5 := by
        obtain ⟨pp, rfl⟩ := hwq
        exact below_regrown _ _ _
      have HB5 := Lib.hid (HBr.out.trans (hb5.mono HBr.out.size))
      clear hwq hb5
      go_wp2
      go_ret2
      exact ⟨by rw [HF.out, HG.out]; first | done | rfl | (rw [HDB.out]; rfl), HB5.out⟩
  · have HG : Hid (linksK f node = false) := Lib.hid (by simpa using hg)
    have HF : Hid (fitK f node = false) := Lib.hid (fitK_no HG.out)
    have HDB : Hid True := Lib.hid trivial
    clear hn hd hL hSS hg hH hm
    try clear h1 h2 h3 h4
    go_enter Try.func19, Try.ntmps19
    go_wp2_with fail
    refine (HCN.out _ (HR.out.below HB.out)).mono ?_
    rintro e w1 ⟨rfl, hb1⟩
    rw [HG.out]
    have HBr := Lib.hid (HB.out.trans (hb1.mono HB.out.size))
    have HK1 := Lib.hid ((hb1.block w.heap.size (lt_of_heap HK.out)).trans HK.out)
    have x1 : w1.cell? ⟨w.heap.size, 0, none⟩ = some (.slice o f.nodes.length c) := (cell_blk HK1.out 0).trans rfl
    have y1 : w1.cell? ⟨w.heap.size, 1, none⟩ = some (.int .i64 f.room) := (cell_blk HK1.out 1).trans rfl
    have z0 := fun dd os => cell_regrown (w := w1) x1 dd os
    have z1 := fun dd os => cell_regrown (w := w1) y1 dd os
    have HN9 := Lib.hid (HN.out.below HBr.out)
    clear hb1
    go_wp2
    refine wp_region_quiet_below (by kernel_rfl) (by kernel_rfl) ?_
    repeat (first | go_big_quiet_step ((first | (go_at_call 43; exact Calls.regrown_of (nodesLeft_is HL.out (HN9.out.below (below_regrown _ _ _)) hl)) | (go_at_call 44; exact Calls.regrown_of (bytesOf_L HSS.out (HN9.out.below (below_regrown _ _ _)) HSZ.out hl)))) | quiet_step ((first | (go_at_call 43; exact Calls.regrown_of (nodesLeft_is HL.out (HN9.out.below (below_regrown _ _ _)) hl)) | (go_at_call 44; exact Calls.regrown_of (bytesOf_L HSS.out (HN9.out.below (below_regrown _ _ _)) HSZ.out hl)))))
    try rw [HDB.out]
    repeat (first | go_big_quiet_step ((first | (go_at_call 43; exact Calls.regrown_of (nodesLeft_is HL.out (HN9.out.below (below_regrown _ _ _)) hl)) | (go_at_call 44; exact Calls.regrown_of (bytesOf_L HSS.out (HN9.out.below (below_regrown _ _ _)) HSZ.out hl)))) | quiet_step ((first | (go_at_call 43; exact Calls.regrown_of (nodesLeft_is HL.out (HN9.out.below (below_regrown _ _ _)) hl)) | (go_at_call 44; exact Calls.regrown_of (bytesOf_L HSS.out (HN9.out.below (below_regrown _ _ _)) HSZ.out hl)))))
    refine wpQuiet_nil ?_
    intro w5 hwq
    have hb5 : Below w1.heap.size w1 w5 := by
      obtain ⟨pp, rfl⟩ := hwq
      exact below_regrown _ _ _
    have HB5 := Lib.hid (HBr.out.trans (hb5.mono HBr.out.size))
    clear hwq hb5
    go_wp2
    go_ret2
    exact ⟨by rw [HF.out, HG.out]; first | done | rfl | (rw [HDB.out]; rfl), HB5.out⟩

set_option maxHeartbeats 4000000 in
theorem specFitsCopy_any (f : FsD) (node : Int) (v : Value) (w : World) (hR : FsA w v f) (hs : szF f ≤ 1048576) :
    Calls Try.prog 18 #[v, .int .i64 node] w fun e w' => e = .returned (.tuple #[.bool (fitK f node), .bool (linksK f node)]) ∧ Below w.heap.size w w' := by
  have HR := Lib.hid hR
  obtain ⟨nv, rfl, hN⟩ := hR
  have HN := Lib.hid hN
  obtain ⟨o, c, rfl, hm, hH⟩ := hN
  have HH := Lib.hid hH
  have HS := Lib.hid hs
  have hl := (lists_small hs).1
  have HSZ : Hid (szNs f.nodes ≤ 1048576) := Lib.hid (by unfold szF at hs; omega)
  have HB := Lib.hid ((Below.refl w.heap.size w).alloc (Nat.le_refl _) (.cells #[.slice o f.nodes.length c, .int .i64 f.room] 31))
  have HK := Lib.hid (heap_alloc_new w (.cells #[.slice o f.nodes.length c, .int .i64 f.room] 31))
  have HDS := Lib.hid (dsum_small hs node)
  have HNL := Lib.hid (nbR_len f hs node)
  obtain ⟨S, hSS⟩ : ∃ S, sumD f.nodes = S := ⟨_, rfl⟩
  have HSS := Lib.hid hSS
  have hS20 : S ≤ 1048576 := by have := sumD_le f.nodes; unfold szF at hs; omega
  obtain ⟨L, hL⟩ : ∃ L, leftN f.nodes = L := ⟨_, rfl⟩
  have HL := Lib.hid hL
  have hLb : -1048576 ≤ L ∧ L ≤ 1048616 := by have := cnt0_le f.nodes; unfold leftN at hL; omega
  obtain ⟨hL0, hL1⟩ := hLb
  by_cases hg : linksK f node = true
  · have HG := Lib.hid hg
    obtain ⟨h1, h2, h3, h4⟩ := links_in hg
    obtain ⟨m, rfl⟩ : ∃ m : Nat, node = m := ⟨node.toNat, by omega⟩
    have hrm := inB_t (goodF_GoodF h1).2.1
    obtain ⟨hr0, hr1⟩ := hrm
    have HCN := Lib.hid (fun W (h : FsA W (.agg #[.slice o f.nodes.length c, .int .i64 f.room]) f) => l10Needs_any f m _ W h hs hg)
    obtain ⟨n, hn⟩ : ∃ n, n = (nbR f (m : Int)).length := ⟨_, rfl⟩
    obtain ⟨d, hd⟩ : ∃ d, d = dsum f.nodes (nbR f (m : Int)) := ⟨_, rfl⟩
    rw [← hn, ← hd] at HCN
    rw [← hn] at HNL
    rw [← hd] at HDS
    have hnb := HNL.out
    have hdb := HDS.out
    by_cases c1 : (n : Int) ≤ L
    · by_cases c2 : (S : Int) + (d : Int) ≤ f.room
      · have HF : Hid (fitK f (m : Int) = true) := Lib.hid (fitK_yes hg (by rw [← hn, hL]; exact c1) (by rw [← hd, hSS]; exact c2))
        have HDB : Hid True := Lib.hid trivial
        have HL' : Hid (40 - (f.nodes.length : Int) + (cnt0 f.nodes : Int) = L) := Lib.hid hL
        clear hn hd hL hSS hg hH hm h1 h2 h3 h4
        go_enter Try.func18, Try.ntmps18
        go_wp2_with fail
        refine (l7Asked_any f _ _ _ (HR.out.below HB.out) HS.out).mono ?_
        rintro e w0 ⟨rfl, hb0⟩
        rw [HG.out]
        have HB0 := Lib.hid (HB.out.trans (hb0.mono HB.out.size))
        have HK0 := Lib.hid ((hb0.block w.heap.size (lt_of_heap HK.out)).trans HK.out)
        have x0 := (cell_blk HK0.out 0).trans rfl
        have y0 := (cell_blk HK0.out 1).trans rfl
        clear hb0
        go_wp2_with fail
        refine (HCN.out _ (HR.out.below HB0.out)).mono ?_
        rintro e w1 ⟨rfl, hb1⟩
        have HB1 := Lib.hid (HB0.out.trans (hb1.mono HB0.out.size))
        have HK1 := Lib.hid ((hb1.block w.heap.size (lt_of_heap HK0.out)).trans HK0.out)
        have x1 := (cell_blk HK1.out 0).trans rfl
        have y1 := (cell_blk HK1.out 1).trans rfl
        clear hb1 x0 y0
        go_wp2
        go_loopw [8, 28] (fun t i wr => ∃ k : Nat, k ≤ f.nodes.length ∧ i = .int .i64 k ∧ t = .int .i64 (40 - (f.nodes.length : Int) + (cnt0 (f.nodes.take k) : Int)) ∧ Below w.heap.size w wr ∧ wr.heap[w.heap.size]? = some (.cells #[.slice o f.nodes.length c, .int .i64 f.room] 31)) (fun _ i _ => f.nodes.length - (intOf i).toNat)
        case atStart => exact ⟨0, Nat.zero_le _, rfl, by simp [cnt0], HB1.out, HK1.out⟩
        case round =>
          obtain ⟨k, hk, rfl, rfl, hBr, hKr⟩ := hrel
          have HBr := Lib.hid hBr
          have HKr := Lib.hid hKr
          by_cases hlt : k < f.nodes.length
          · obtain ⟨g, off, lv, rfl, hgg, hcc, he, hml⟩ := HH.out k hlt
            have HT := Lib.hid (cnt0_take hlt)
            have hcb := cnt0_pre f.nodes k
            obtain ⟨cc, hcn⟩ : ∃ cc, cc = cnt0 (f.nodes.take k) := ⟨_, rfl⟩
            obtain ⟨d0, d1, d2, d3, d4, d5, d6⟩ := hcc.below hBr hgg
            obtain ⟨q, hqq⟩ : ∃ q, q = f.nodes[k] := ⟨_, rfl⟩
            rw [← hqq] at d0 d1 d2 d3 d4 d5 he HT
            obtain ⟨o2, c2, rfl, _, _⟩ := id he
            obtain ⟨x, hxx⟩ : ∃ x, x = bs q.data := ⟨_, rfl⟩
            rw [← hxx] at d5
            rw [← hcn] at hcb HT ⊢
            obtain ⟨kd, hkd⟩ : ∃ kd, kd = q.kind := ⟨_, rfl⟩
            rw [← hkd] at d0 HT
            clear hcc he hml hqq hcn hxx hkd hBr hKr
            by_cases hz : kd = 0
            · subst hz
              go_wp2
              go_roundw
              case rel => exact ⟨k + 1, hlt, by go_num, by rw [HT.out]; congr 1; simp; omega, HBr.out.alloc HBr.out.size _, (Below.heap_alloc wr _ _ (lt_of_heap HKr.out)).trans HKr.out⟩
              case measure => simp [intOf]; omega
            · have zb : (kd == 0) = false := beq_eq_false_iff_ne.2 hz
              have HZ := Lib.hid zb
              go_wp2
              go_roundw
              case rel => exact ⟨k + 1, hlt, by go_num, by rw [HT.out, HZ.out]; simp, HBr.out.alloc HBr.out.size _, (Below.heap_alloc wr _ _ (lt_of_heap HKr.out)).trans HKr.out⟩
              case measure => simp [intOf]; omega
          · have hT : f.nodes.take k = f.nodes := List.take_of_length_le (by omega)
            rw [hT, HL'.out]
            have x9 : wr.cell? ⟨w.heap.size, 0, none⟩ = some (.slice o f.nodes.length c) := (cell_blk HKr.out 0).trans rfl
            have y9 : wr.cell? ⟨w.heap.size, 1, none⟩ = some (.int .i64 f.room) := (cell_blk HKr.out 1).trans rfl
            have z0 := fun dd os => cell_regrown (w := wr) x9 dd os
            have z1 := fun dd os => cell_regrown (w := wr) y9 dd os
            clear hT hBr hKr
            go_wp2
            refine wp_region_quiet_below (by kernel_rfl) (by kernel_rfl) ?_
            repeat (first | go_big_quiet_step ((first | (go_at_call 42; exact Calls.regrown_of (l3Bytes_L HSS.out ((HR.out.below HBr.out).below (below_regrown _ _ _)) HS.out)))) | quiet_step ((first | (go_at_call 42; exact Calls.regrown_of (l3Bytes_L HSS.out ((HR.out.below HBr.out).below (below_regrown _ _ _)) HS.out)))))
            try rw [HDB.out]
            repeat (first | go_big_quiet_step ((first | (go_at_call 42; exact Calls.regrown_of (l3Bytes_L HSS.out ((HR.out.below HBr.out).below (below_regrown _ _ _)) HS.out)))) | quiet_step ((first | (go_at_call 42; exact Calls.regrown_of (l3Bytes_L HSS.out ((HR.out.below HBr.out).below (below_regrown _ _ _)) HS.out)))))
            refine wpQuiet_nil ?_
            intro w5 hwq
            have hb5 : Below wr.heap.size wr w5 := by
              obtain ⟨pp, rfl⟩ := hwq
              exact below_regrown _ _ _
            have HB5 := Lib.hid (HBr.out.trans (hb5.mono HBr.out.size))
            clear hwq hb5
            go_wp2
            go_ret2
            exact ⟨by rw [HF.out, HG.out]; first | done | rfl | (rw [HDB.out]; rfl), HB5.out⟩
      · have HF : Hid (fitK f (m : Int) = false) := Lib.hid (fitK_room (by rw [← hd, hSS]; exact c2))
        have HDB : Hid (decide ((S : Int) + (d : Int) ≤ f.room) = false) := Lib.hid (decide_eq_false c2)
        have HL' : Hid (40 - (f.nodes.length : Int) + (cnt0 f.nodes : Int) = L) := Lib.hid hL
        clear hn hd hL hSS hg hH hm h1 h2 h3 h4
        go_enter Try.func18, Try.ntmps18
        go_wp2_with fail
        refine (l7Asked_any f _ _ _ (HR.out.below HB.out) HS.out).mono ?_
        rintro e w0 ⟨rfl, hb0⟩
        rw [HG.out]
        have HB0 := Lib.hid (HB.out.trans (hb0.mono HB.out.size))
        have HK0 := Lib.hid ((hb0.block w.heap.size (lt_of_heap HK.out)).trans HK.out)
        have x0 := (cell_blk HK0.out 0).trans rfl
        have y0 := (cell_blk HK0.out 1).trans rfl
        clear hb0
        go_wp2_with fail
        refine (HCN.out _ (HR.out.below HB0.out)).mono ?_
        rintro e w1 ⟨rfl, hb1⟩
        have HB1 := Lib.hid (HB0.out.trans (hb1.mono HB0.out.size))
        have HK1 := Lib.hid ((hb1.block w.heap.size (lt_of_heap HK0.out)).trans HK0.out)
        have x1 := (cell_blk HK1.out 0).trans rfl
        have y1 := (cell_blk HK1.out 1).trans rfl
        clear hb1 x0 y0
        go_wp2
        go_loopw [8, 28] (fun t i wr => ∃ k : Nat, k ≤ f.nodes.length ∧ i = .int .i64 k ∧ t = .int .i64 (40 - (f.nodes.length : Int) + (cnt0 (f.nodes.take k) : Int)) ∧ Below w.heap.size w wr ∧ wr.heap[w.heap.size]? = some (.cells #[.slice o f.nodes.length c, .int .i64 f.room] 31)) (fun _ i _ => f.nodes.length - (intOf i).toNat)
        case atStart => exact ⟨0, Nat.zero_le _, rfl, by simp [cnt0], HB1.out, HK1.out⟩
        case round =>
          obtain ⟨k, hk, rfl, rfl, hBr, hKr⟩ := hrel
          have HBr := Lib.hid hBr
          have HKr := Lib.hid hKr
          by_cases hlt : k < f.nodes.length
          · obtain ⟨g, off, lv, rfl, hgg, hcc, he, hml⟩ := HH.out k hlt
            have HT := Lib.hid (cnt0_take hlt)
            have hcb := cnt0_pre f.nodes k
            obtain ⟨cc, hcn⟩ : ∃ cc, cc = cnt0 (f.nodes.take k) := ⟨_, rfl⟩
            obtain ⟨d0, d1, d2, d3, d4, d5, d6⟩ := hcc.below hBr hgg
            obtain ⟨q, hqq⟩ : ∃ q, q = f.nodes[k] := ⟨_, rfl⟩
            rw [← hqq] at d0 d1 d2 d3 d4 d5 he HT
            obtain ⟨o2, c2, rfl, _, _⟩ := id he
            obtain ⟨x, hxx⟩ : ∃ x, x = bs q.data := ⟨_, rfl⟩
            rw [← hxx] at d5
            rw [← hcn] at hcb HT ⊢
            obtain ⟨kd, hkd⟩ : ∃ kd, kd = q.kind := ⟨_, rfl⟩
            rw [← hkd] at d0 HT
            clear hcc he hml hqq hcn hxx hkd hBr hKr
            by_cases hz : kd = 0
            · subst hz
              go_wp2
              go_roundw
              case rel => exact ⟨k + 1, hlt, by go_num, by rw [HT.out]; congr 1; simp; omega, HBr.out.alloc HBr.out.size _, (Below.heap_alloc wr _ _ (lt_of_heap HKr.out)).trans HKr.out⟩
              case measure => simp [intOf]; omega
            · have zb : (kd == 0) = false := beq_eq_false_iff_ne.2 hz
              have HZ := Lib.hid zb
              go_wp2
              go_roundw
              case rel => exact ⟨k + 1, hlt, by go_num, by rw [HT.out, HZ.out]; simp, HBr.out.alloc HBr.out.size _, (Below.heap_alloc wr _ _ (lt_of_heap HKr.out)).trans HKr.out⟩
              case measure => simp [intOf]; omega
          · have hT : f.nodes.take k = f.nodes := List.take_of_length_le (by omega)
            rw [hT, HL'.out]
            have x9 : wr.cell? ⟨w.heap.size, 0, none⟩ = some (.slice o f.nodes.length c) := (cell_blk HKr.out 0).trans rfl
            have y9 : wr.cell? ⟨w.heap.size, 1, none⟩ = some (.int .i64 f.room) := (cell_blk HKr.out 1).trans rfl
            have z0 := fun dd os => cell_regrown (w := wr) x9 dd os
            have z1 := fun dd os => cell_regrown (w := wr) y9 dd os
            clear hT hBr hKr
            go_wp2
            refine wp_region_quiet_below (by kernel_rfl) (by kernel_rfl) ?_
            repeat (first | go_big_quiet_step ((first | (go_at_call 42; exact Calls.regrown_of (l3Bytes_L HSS.out ((HR.out.below HBr.out).below (below_regrown _ _ _)) HS.out)))) | quiet_step ((first | (go_at_call 42; exact Calls.regrown_of (l3Bytes_L HSS.out ((HR.out.below HBr.out).below (below_regrown _ _ _)) HS.out)))))
            try rw [HDB.out]
            repeat (first | go_big_quiet_step ((first | (go_at_call 42; exact Calls.regrown_of (l3Bytes_L HSS.out ((HR.out.below HBr.out).below (below_regrown _ _ _)) HS.out)))) | quiet_step ((first | (go_at_call 42; exact Calls.regrown_of (l3Bytes_L HSS.out ((HR.out.below HBr.out).below (below_regrown _ _ _)) HS.out)))))
            refine wpQuiet_nil ?_
            intro w5 hwq
            have hb5 : Below wr.heap.size wr w5 := by
              obtain ⟨pp, rfl⟩ := hwq
              exact below_regrown _ _ _
            have HB5 := Lib.hid (HBr.out.trans (hb5.mono HBr.out.size))
            clear hwq hb5
            go_wp2
            go_ret2
            exact ⟨by rw [HF.out, HG.out]; first | done | rfl | (rw [HDB.out]; rfl), HB5.out⟩
    · have HF : Hid (fitK f (m : Int) = false) := Lib.hid (fitK_left (by rw [← hn, hL]; exact c1))
      have HDB : Hid (decide ((n : Int) ≤ L) = false) := Lib.hid (decide_eq_false c1)
      have HL' : Hid (40 - (f.nodes.length : Int) + (cnt0 f.nodes : Int) = L) := Lib.hid hL
      clear hn hd hL hSS hg hH hm h1 h2 h3 h4
      go_enter Try.func18, Try.ntmps18
      go_wp2_with fail
      refine (l7Asked_any f _ _ _ (HR.out.below HB.out) HS.out).mono ?_
      rintro e w0 ⟨rfl, hb0⟩
      rw [HG.out]
      have HB0 := Lib.hid (HB.out.trans (hb0.mono HB.out.size))
      have HK0 := Lib.hid ((hb0.block w.heap.size (lt_of_heap HK.out)).trans HK.out)
      have x0 := (cell_blk HK0.out 0).trans rfl
      have y0 := (cell_blk HK0.out 1).trans rfl
      clear hb0
      go_wp2_with fail
      refine (HCN.out _ (HR.out.below HB0.out)).mono ?_
      rintro e w1 ⟨rfl, hb1⟩
      have HB1 := Lib.hid (HB0.out.trans (hb1.mono HB0.out.size))
      have HK1 := Lib.hid ((hb1.block w.heap.size (lt_of_heap HK0.out)).trans HK0.out)
      have x1 := (cell_blk HK1.out 0).trans rfl
      have y1 := (cell_blk HK1.out 1).trans rfl
      clear hb1 x0 y0
      go_wp2
      go_loopw [8, 28] (fun t i wr => ∃ k : Nat, k ≤ f.nodes.length ∧ i = .int .i64 k ∧ t = .int .i64 (40 - (f.nodes.length : Int) + (cnt0 (f.nodes.take k) : Int)) ∧ Below w.heap.size w wr ∧ wr.heap[w.heap.size]? = some (.cells #[.slice o f.nodes.length c, .int .i64 f.room] 31)) (fun _ i _ => f.nodes.length - (intOf i).toNat)
      case atStart => exact ⟨0, Nat.zero_le _, rfl, by simp [cnt0], HB1.out, HK1.out⟩
      case round =>
        obtain ⟨k, hk, rfl, rfl, hBr, hKr⟩ := hrel
        have HBr := Lib.hid hBr
        have HKr := Lib.hid hKr
        by_cases hlt : k < f.nodes.length
        · obtain ⟨g, off, lv, rfl, hgg, hcc, he, hml⟩ := HH.out k hlt
          have HT := Lib.hid (cnt0_take hlt)
          have hcb := cnt0_pre f.nodes k
          obtain ⟨cc, hcn⟩ : ∃ cc, cc = cnt0 (f.nodes.take k) := ⟨_, rfl⟩
          obtain ⟨d0, d1, d2, d3, d4, d5, d6⟩ := hcc.below hBr hgg
          obtain ⟨q, hqq⟩ : ∃ q, q = f.nodes[k] := ⟨_, rfl⟩
          rw [← hqq] at d0 d1 d2 d3 d4 d5 he HT
          obtain ⟨o2, c2, rfl, _, _⟩ := id he
          obtain ⟨x, hxx⟩ : ∃ x, x = bs q.data := ⟨_, rfl⟩
          rw [← hxx] at d5
          rw [← hcn] at hcb HT ⊢
          obtain ⟨kd, hkd⟩ : ∃ kd, kd = q.kind := ⟨_, rfl⟩
          rw [← hkd] at d0 HT
          clear hcc he hml hqq hcn hxx hkd hBr hKr
          by_cases hz : kd = 0
          · subst hz
            go_wp2
            go_roundw
            case rel => exact ⟨k + 1, hlt, by go_num, by rw [HT.out]; congr 1; simp; omega, HBr.out.alloc HBr.out.size _, (Below.heap_alloc wr _ _ (lt_of_heap HKr.out)).trans HKr.out⟩
            case measure => simp [intOf]; omega
          · have zb : (kd == 0) = false := beq_eq_false_iff_ne.2 hz
            have HZ := Lib.hid zb
            go_wp2
            go_roundw
            case rel => exact ⟨k + 1, hlt, by go_num, by rw [HT.out, HZ.out]; simp, HBr.out.alloc HBr.out.size _, (Below.heap_alloc wr _ _ (lt_of_heap HKr.out)).trans HKr.out⟩
            case measure => simp [intOf]; omega
        · have hT : f.nodes.take k = f.nodes := List.take_of_length_le (by omega)
          rw [hT, HL'.out]
          have x9 : wr.cell? ⟨w.heap.size, 0, none⟩ = some (.slice o f.nodes.length c) := (cell_blk HKr.out 0).trans rfl
          have y9 : wr.cell? ⟨w.heap.size, 1, none⟩ = some (.int .i64 f.room) := (cell_blk HKr.out 1).trans rfl
          have z0 := fun dd os => cell_regrown (w := wr) x9 dd os
          have z1 := fun dd os => cell_regrown (w := wr) y9 dd os
          clear hT hBr hKr
          go_wp2
          refine wp_region_quiet_below (by kernel_rfl) (by kernel_rfl) ?_
          repeat (first | go_big_quiet_step ((first | (go_at_call 42; exact Calls.regrown_of (l3Bytes_L HSS.out ((HR.out.below HBr.out).below (below_regrown _ _ _)) HS.out)))) | quiet_step ((first | (go_at_call 42; exact Calls.regrown_of (l3Bytes_L HSS.out ((HR.out.below HBr.out).below (below_regrown _ _ _)) HS.out)))))
          try rw [HDB.out]
          repeat (first | go_big_quiet_step ((first | (go_at_call 42; exact Calls.regrown_of (l3Bytes_L HSS.out ((HR.out.below HBr.out).below (below_regrown _ _ _)) HS.out)))) | quiet_step ((first | (go_at_call 42; exact Calls.regrown_of (l3Bytes_L HSS.out ((HR.out.below HBr.out).below (below_regrown _ _ _)) HS.out)))))
          refine wpQuiet_nil ?_
          intro w5 hwq
          have hb5 : Below wr.heap.size wr w5 := by
            obtain ⟨pp, rfl⟩ := hwq
            exact below_regrown _ _ _
          have HB5 := Lib.hid (HBr.out.trans (hb5.mono HBr.out.size))
          clear hwq hb5
          go_wp2
          go_ret2
          exact ⟨by rw [HF.out, HG.out]; first | done | rfl | (rw [HDB.out]; rfl), HB5.out⟩
  · have HG : Hid (linksK f node = false) := Lib.hid (by simpa using hg)
    have HF : Hid (fitK f node = false) := Lib.hid (fitK_no HG.out)
    clear hg
    go_enter Try.func18, Try.ntmps18
    go_wp2_with fail
    refine (l7Asked_any f _ _ _ (HR.out.below HB.out) HS.out).mono ?_
    rintro e w1 ⟨rfl, hb1⟩
    rw [HG.out]
    have HB1 := Lib.hid (HB.out.trans (hb1.mono HB.out.size))
    clear hb1
    go_wp2
    go_ret2
    exact ⟨by rw [HF.out, HG.out]; first | done | rfl | (rw [HDB.out]; rfl), HB1.out⟩
end Go.Proofs.Ytknhacblialboaa
