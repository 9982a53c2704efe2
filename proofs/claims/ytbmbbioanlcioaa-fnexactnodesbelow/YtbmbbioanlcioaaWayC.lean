
/-
  The program's walkPre and walkPost with the closure that keeps the ways.
  Conditions: a good file system of at most 2^20 values and letters together.
-/
import Derived.Test.YtbmbbioanlcioaaWayB
import Derived.Deep.RegionHeld3
namespace Go.Proofs.Ytbmbbioanlcioaa
open Go.ChangeShapes Go.WideShapes Go.ChangeAt Go.RowKit Go.Joins
set_option linter.unusedVariables false
set_option linter.unusedSimpArgs false

/-- Of what was there only block d, and two rows, may have turned. -/
structure Eff2 (w w' : World) (d : Nat) (r1 r2 : Option Nat) : Prop where
  os : w'.os = w.os
  tape : w'.tape = w.tape
  output : w'.output = w.output
  size : w.heap.size ≤ w'.heap.size
  block : ∀ k, k < w.heap.size → k ≠ d → some k ≠ r1 → some k ≠ r2 → w'.heap[k]? = w.heap[k]?
theorem Eff2.refl (w : World) (d : Nat) (r1 r2 : Option Nat) : Eff2 w w d r1 r2 := ⟨rfl, rfl, rfl, Nat.le_refl _, fun _ _ _ _ _ => rfl⟩
theorem Eff2.fresh {a b c : World} {d : Nat} {r1 r2 s1 s2 : Option Nat} (h : Eff2 a b d r1 r2) (k : Eff2 b c d s1 s2) (h1 : ∀ g, s1 = some g → r1 = some g ∨ a.heap.size ≤ g) (h2 : ∀ g, s2 = some g → r2 = some g ∨ a.heap.size ≤ g) : Eff2 a c d r1 r2 :=
  ⟨k.os.trans h.os, k.tape.trans h.tape, k.output.trans h.output, Nat.le_trans h.size k.size, fun i hi e0 e1 e2 => (k.block i (Nat.lt_of_lt_of_le hi h.size) e0 (fun e => by
    rcases h1 i e.symm with h3 | h3
    · exact e1 h3.symm
    · omega) (fun e => by
    rcases h2 i e.symm with h3 | h3
    · exact e2 h3.symm
    · omega)).trans (h.block i hi e0 e1 e2)⟩
theorem Eff2.trans {a b c : World} {d : Nat} {r1 r2 : Option Nat} (h : Eff2 a b d r1 r2) (k : Eff2 b c d r1 r2) : Eff2 a c d r1 r2 := h.fresh k (fun g e => .inl e) (fun g e => .inl e)
theorem Eff2.of_below {a b : World} (d : Nat) (r1 r2 : Option Nat) (h : Below a.heap.size a b) : Eff2 a b d r1 r2 := ⟨h.os, h.tape, h.output, h.size, fun i hi _ _ _ => h.block i hi⟩
theorem Eff2.of_grown {a b : World} (d : Nat) {r1 : Option Nat} (r2 : Option Nat) (h : a.grownBy b r1) : Eff2 a b d r1 r2 := ⟨h.os, h.tape, h.output, h.size, fun i hi _ h2 _ => h.block i hi h2⟩
theorem Eff2.of_eff {a b : World} {d : Nat} (r1 : Option Nat) {r2 : Option Nat} (h : Eff a b d r2) : Eff2 a b d r1 r2 := ⟨h.os, h.tape, h.output, h.size, fun i hi h1 _ h2 => h.block i hi h1 h2⟩
theorem Eff2.below {a b : World} {d B : Nat} {r1 r2 : Option Nat} (h : Eff2 a b d r1 r2) (hd : B ≤ d) (h1 : ∀ g, r1 = some g → B ≤ g) (h2 : ∀ g, r2 = some g → B ≤ g) (hB : B ≤ a.heap.size) : Below B a b :=
  ⟨h.os, h.tape, h.output, h.size, fun i hi => h.block i (Nat.lt_of_lt_of_le hi hB) (by omega) (fun e => by have := h1 i e.symm; omega) (fun e => by have := h2 i e.symm; omega)⟩
theorem lst_eff2 {w w' : World} {B d : Nat} {r1 r2 : Option Nat} {v : Value} {xs : List (List UInt8)} (h : Lst w B v xs) (k : Eff2 w w' d r1 r2) (hd : v.ownBlock ≠ some d) (h1 : ∀ g, v.ownBlock = some g → some g ≠ r1) (h2 : ∀ g, v.ownBlock = some g → some g ≠ r2) : Lst w' B v xs := by
  obtain ⟨hl, hh⟩ := h
  rcases hh with h0 | ⟨g, cap, cur, rfl, hB, hg, r⟩
  · exact ⟨hl, .inl h0⟩
  · exact ⟨hl, .inr ⟨g, cap, cur, rfl, hB, (k.block g (Array.getElem?_eq_some_iff.1 hg).1 (fun e => hd (by rw [e]; rfl)) (h1 g rfl) (h2 g rfl)).trans hg, r⟩⟩
theorem lst_cut {w : World} {B g cap : Nat} {ps : List (List UInt8)} {p : List UInt8} (h : Lst w B (.slice (some ⟨g, 0, none⟩) (ps.length + 1) cap) (ps ++ [p])) : Lst w B (.slice (some ⟨g, 0, none⟩) ps.length cap) ps := by
  unfold Lst at h ⊢
  refine own_cut (x := .string (bs p)) ?_
  simpa [strs] using h
/-- The two lists share no block. -/
def Dis (nm v : Value) : Prop := ∀ g, nm.ownBlock = some g → v.ownBlock ≠ some g
theorem NewB.refl (S : Nat) (v : Value) : NewB S v v := .inl rfl
theorem NewB.trans {S T : Nat} {a b c : Value} (h : NewB S a b) (k : NewB T b c) (hST : S ≤ T) : NewB S a c := by
  rcases k with k | ⟨g, e, hg⟩
  · rcases h with h | ⟨g, e, hg⟩
    · exact .inl (k.trans h)
    · exact .inr ⟨g, k.trans e, hg⟩
  · exact .inr ⟨g, e, by omega⟩
theorem NewB.of {S : Nat} {v v' : Value} (h : NewB S v v') : ∀ g, v'.ownBlock = some g → v.ownBlock = some g ∨ S ≤ g := fun g e => by
  rcases h with h | ⟨g2, e2, hg⟩
  · exact .inl (h.symm.trans e)
  · rw [e] at e2; injection e2 with e2; exact .inr (by omega)
theorem lst_lt {w : World} {B : Nat} {v : Value} {xs : List (List UInt8)} (h : Lst w B v xs) : ∀ g, v.ownBlock = some g → B ≤ g ∧ g < w.heap.size := fun g e => World.ownsRow.lt h g e

def WSaysF (f : FsD) (nv : Value) (w0 : World) (k : Nat) : Prop := ∀ (i : Nat) (ps ws : List (List UInt8)) (nm v : Value) (B bd : Nat) (w : World), w0.heap.size ≤ B → Below w0.heap.size w0 w → i < f.nodes.length → Down f.nodes k i → ps.length + k ≤ 41 → (∀ p ∈ ps, p ≠ [46] ∧ p.length ≤ 8) → ws.length + (wyF f.nodes false k i ps).length ≤ 50000000 → B ≤ bd →
  w.heap[bd]? = some (.cells #[v] 26) → Lst w B v ws → Lst w B nm ps → Dis nm v →
  Calls Try.prog 30 #[nv, .int .i64 (i : Int), .func (.func 46) #[] #[.pointer (some ⟨bd, 0, none⟩)], nm] w fun e w' => e = .returned (.tuple #[]) ∧ ∃ v', w'.heap[bd]? = some (.cells #[v'] 26) ∧ Lst w' B v' (ws ++ wyF f.nodes false k i ps) ∧ Lst w' B nm ps ∧ Eff2 w w' bd nm.ownBlock v.ownBlock ∧ NewB w.heap.size v v'
set_option maxRecDepth 100000 in
set_option maxHeartbeats 8000000 in
theorem walkWayF_step (f : FsD) (hg : goodF f = true) (hs : szF f ≤ 1048576) (nv : Value) (w0 : World) (hN : NodsA w0 nv f.nodes) (k : Nat) (ih : ∀ k2, k2 < k → WSaysF f nv w0 k2) : WSaysF f nv w0 k := by
  intro i ps ws nm v B bd w hwB hbw hi hD hkL hps hcnt hBd hbd hLv hown hdis
  have IH := Lib.hid ih
  obtain ⟨i0, hi0, hz0, hz1, hz2⟩ := info_parts strInfo
  obtain ⟨oo, cc, rfl, hoo⟩ := owns_form hown
  obtain ⟨o, c, rfl, hm, hH⟩ := hN
  unfold maxLen at hm
  have hl : f.nodes.length ≤ 1048576 := (lists_small hs).1
  have hll : (lsAt f.nodes i).length ≤ 1048576 := by rw [lsAt_is hi]; exact ((lists_small hs).2 _ (List.getElem_mem hi)).1
  obtain ⟨g3, f3, lv3, rfl, hg3, hc3, he3, -⟩ := hH i hi
  rw [← lsAt_is hi] at he3
  obtain ⟨o5, c5, rfl, -, hH5⟩ := he3
  have HH5 := Lib.hid hH5
  obtain ⟨k2, hk2, hk3, hv3, hk4⟩ : ∃ k2, k ≤ k2 + 1 ∧ k2 ≤ k ∧ ((k = 0 ∧ lsAt f.nodes i = []) ∨ k = k2 + 1) ∧ ∀ e ∈ lsAt f.nodes i, k = k2 + 1 ∧ (0 ≤ e.node ∧ e.node < f.nodes.length) ∧ Down f.nodes k2 e.node.toNat ∧ e.name ≠ [46] ∧ e.name.length ≤ 8 := by
    cases k with
    | zero => exact ⟨0, by omega, by omega, .inl ⟨rfl, hD⟩, fun e he => by rw [show lsAt f.nodes i = [] from hD] at he; cases he⟩
    | succ k => exact ⟨k, by omega, by omega, .inr rfl, fun e he => ⟨rfl, (hD e he).1, (hD e he).2, name_facts hg he⟩⟩
  rw [wyF_len _ _ _ _ _ _ hv3] at hcnt
  have hval := wyF_val f.nodes false k k2 i ps hv3
  obtain ⟨es, hes⟩ : ∃ es, es = lsAt f.nodes i := ⟨_, rfl⟩
  rw [← hes] at HH5 hll hcnt hval hk4
  have hc6 := hc3.c6
  rw [← hes] at hc6
  have HV := Lib.hid hval
  have HK4 := Lib.hid hk4
  have HPS := Lib.hid hps
  have HBD := Lib.hid hbd
  have HOWN := Lib.hid hown
  have HLV := Lib.hid hLv
  have HDIS := Lib.hid hdis
  have HBW := Lib.hid hbw
  have hbl := lt_of_heap hbd
  have hBs : B ≤ w.heap.size := by omega
  have HNE : Hid ((Value.slice oo ps.length cc).ownBlock ≠ some bd) := Lib.hid (row_ne_boxS hown hbd)
  have HR1 : Hid (∀ g, (Value.slice oo ps.length cc).ownBlock = some g → B ≤ g) := Lib.hid (fun g e => (lst_lt HOWN.out g e).1)
  have HR2 : Hid (∀ g, v.ownBlock = some g → B ≤ g) := Lib.hid (fun g e => (lst_lt HLV.out g e).1)
  have hLps : ps.length ≤ 41 := by omega
  have HC6 := Lib.hid hc6
  clear hH hD hval hv3 hk4 hc3 hH5 hes ih hps hbd hown hLv hdis hbw hoo hc6
  go_enter Try.func30, Try.ntmps30
  go_wp2_with fail
  refine (ways_visit bd i ps ws (.slice oo ps.length cc) v B w hBd HBD.out HLV.out HOWN.out hLps HPS.out (by omega)).mono ?_
  rintro e w1 ⟨rfl, v1, hX1, hL1, hE1, hN1⟩
  have HX1 := Lib.hid hX1
  have HL1 := Lib.hid hL1
  have HE1 := Lib.hid (Eff2.of_eff (Value.slice oo ps.length cc).ownBlock hE1)
  have HN1 := Lib.hid hN1
  have HO1 : Hid (Lst w1 B (.slice oo ps.length cc) ps) := Lib.hid (own_eff HOWN.out hE1 HNE.out (by
    by_cases h : (Value.slice oo ps.length cc).ownBlock = none
    · exact .inl h
    · obtain ⟨g, hg⟩ := Option.ne_none_iff_exists'.1 h
      exact .inr (by rw [hg]; exact fun e => HDIS.out g hg e.symm)))
  have HBW1 := Lib.hid (HBW.out.trans ((HE1.out.below hBd HR1.out HR2.out hBs).mono hwB))
  have c6 := (HBW1.out.cell (p := ⟨g3, f3 + i * 7 + 6, none⟩) hg3).trans HC6.out
  obtain ⟨us, hus⟩ : ∃ us, us = ws ++ [wayB ps] := ⟨_, rfl⟩
  have HUS := Lib.hid hus
  have hul : us.length ≤ ws.length + 1 := by rw [hus]; simp
  rw [← hus] at HL1
  clear hX1 hL1 hE1 hN1 hus
  go_wp2
  go_loopw [20] (fun i9 wr => ∃ (j : Nat) (vr : Value), j ≤ es.length ∧ i9 = .int .i64 j ∧ Eff2 w wr bd (Value.slice oo ps.length cc).ownBlock v.ownBlock ∧ wr.heap[bd]? = some (.cells #[vr] 26) ∧ Lst wr B vr (us ++ wyS f.nodes false k2 ps (es.take j)) ∧ Lst wr B (.slice oo ps.length cc) ps ∧ NewB w.heap.size v vr) (fun i9 _ => es.length - (intOf i9).toNat)
  case atStart => exact ⟨0, _, Nat.zero_le _, rfl, HE1.out, HX1.out, by simpa [wyS] using HL1.out, HO1.out, HN1.out⟩
  case round =>
    obtain ⟨j, vr, hj, rfl, hE, hX, hL, hO, hN⟩ := hrel
    have HE := Lib.hid hE
    have HX := Lib.hid hX
    have HL := Lib.hid hL
    have HO := Lib.hid hO
    have HN := Lib.hid hN
    have hsz := hE.size
    have hBw := hE.below hBd HR1.out HR2.out hBs
    have hpr := wyS_pre f.nodes false k2 ps es j
    by_cases hlt : j < es.length
    · obtain ⟨g9, f9, rfl, q9, y1, y2, -⟩ := HH5.out j hlt
      obtain ⟨he1, ⟨he2, he3⟩, he4, he5, he6⟩ := HK4.out _ (List.getElem_mem hlt)
      obtain ⟨c9, hcc⟩ : ∃ c9 : Nat, es[j].node = c9 := ⟨es[j].node.toNat, by omega⟩
      have HT := Lib.hid (wyS_take (ns := f.nodes) (post := false) (k := k2) (ps := ps) hlt)
      have HPN := wyS_pre f.nodes false k2 ps es (j + 1)
      rw [HT.out] at HPN
      rw [hcc] at y2 he4 he3 HT HPN
      rw [show ((c9 : Int)).toNat = c9 by simp] at he4 HT HPN
      have hbwr := HBW.out.trans (hBw.mono hwB)
      have a1 := (hbwr.cell (p := ⟨g9, f9 + j * 2, none⟩) q9).trans y1
      have a2 := (hbwr.cell (p := ⟨g9, f9 + j * 2 + 1, none⟩) q9).trans y2
      obtain ⟨nn, hnn⟩ : ∃ nn, nn = es[j].name := ⟨_, rfl⟩
      rw [← hnn] at a1 he5 he6 HT HPN
      obtain ⟨x, hx⟩ : ∃ x, x = bs nn := ⟨_, rfl⟩
      rw [← hx] at a1
      have HXN := Lib.hid hx
      have HPS2 : Hid (∀ p ∈ ps ++ [nn], p ≠ [46] ∧ p.length ≤ 8) := Lib.hid (fun p hp => by
        rcases List.mem_append.1 hp with h | h
        · exact HPS.out p h
        · rw [List.mem_singleton.1 h]; exact ⟨he5, he6⟩)
      have HD4 := Lib.hid he4
      have HLw : Hid (w.heap.size ≤ wr.heap.size) := Lib.hid hsz
      have hbdw : bd < wr.heap.size := by omega
      have hal : Below wr.heap.size wr (wr.alloc (.cells #[.string x, .int .i64 (c9 : Int)] 67)) := (Below.refl _ _).alloc (Nat.le_refl _) _
      obtain ⟨W2, hW2⟩ : ∃ W2, wr.alloc (.cells #[.string x, .int .i64 (c9 : Int)] 67) = W2 := ⟨_, rfl⟩
      have hEN : W2.heap[wr.heap.size]? = some (.cells #[.string x, .int .i64 (c9 : Int)] 67) := by rw [← hW2]; exact heap_alloc_new wr _
      rw [hW2] at hal
      have hs2 := lt_of_heap hEN
      have h23 : Below W2.heap.size W2 (W2.alloc (.cells #[.string x] 9)).drew := ((Below.refl _ W2).alloc (Nat.le_refl _) _).drew
      have h13 : Below wr.heap.size wr (W2.alloc (.cells #[.string x] 9)).drew := hal.trans (h23.mono (Nat.le_of_lt hs2))
      have HEF3 : Hid (Eff2 w (W2.alloc (.cells #[.string x] 9)).drew bd (Value.slice oo ps.length cc).ownBlock v.ownBlock) := Lib.hid (HE.out.trans (Eff2.of_below _ _ _ h13))
      have HXB : Hid (((W2.alloc (.cells #[.string x] 9)).drew).heap[bd]? = _) := Lib.hid ((h13.block bd hbdw).trans HX.out)
      have HEB : Hid (((W2.alloc (.cells #[.string x] 9)).drew).heap[wr.heap.size]? = some (.cells #[.string x, .int .i64 (c9 : Int)] 67)) := Lib.hid ((h23.block _ hs2).trans hEN)
      have HLB : Hid (Lst ((W2.alloc (.cells #[.string x] 9)).drew) B vr (us ++ wyS f.nodes false k2 ps (es.take j))) := Lib.hid (lst_below HL.out h13)
      have HOX3 : Hid (((W2.alloc (.cells #[.string x] 9)).drew).ownsRow B 9 1 (.slice oo ps.length cc) ps.length (strs ps)) := Lib.hid (lst_below HO.out h13)
      have HNW : Hid (∀ j u, [Value.string x][j]? = some u → ((W2.alloc (.cells #[.string x] 9)).drew).cell? ((⟨W2.heap.size, 0, none⟩ : Addr).add j) = some u) := Lib.hid (cell_one_new W2 (.string x) 9)
      have HBX3 : Hid (B ≤ ((W2.alloc (.cells #[.string x] 9)).drew).heap.size) := Lib.hid (Nat.le_trans (by omega) h13.size)
      have HL3 : Hid (bd < ((W2.alloc (.cells #[.string x] 9)).drew).heap.size) := Lib.hid (lt_of_heap HXB.out)
      have HL4 : Hid (wr.heap.size < ((W2.alloc (.cells #[.string x] 9)).drew).heap.size) := Lib.hid (lt_of_heap HEB.out)
      have HRW : Hid (some wr.heap.size ≠ (Value.slice oo ps.length cc).ownBlock) := Lib.hid (fun e => by
        have h9 := (lst_lt HOWN.out wr.heap.size e.symm).2
        omega)
      have HRV : Hid (∀ g, vr.ownBlock = some g → B ≤ g ∧ g < wr.heap.size) := Lib.hid (lst_lt HL.out)
      have HVB : Hid (vr.ownBlock ≠ some bd) := Lib.hid (row_ne_boxS HL.out HX.out)
      have HDR : Hid (Dis (.slice oo ps.length cc) vr) := Lib.hid (fun g e e2 => by
        rcases HN.out.of g e2 with h | h
        · exact HDIS.out g e h
        · have := (lst_lt HOWN.out g e).2; omega)
      have e20 : W2.cell? ⟨wr.heap.size, 0, none⟩ = some (.string x) := cell_blk hEN 0
      have e21 : W2.cell? ⟨wr.heap.size, 1, none⟩ = some (.int .i64 (c9 : Int)) := cell_blk hEN 1
      have d20 : W2.drew.cell? ⟨wr.heap.size, 0, none⟩ = some (.string x) := e20
      have d21 : W2.drew.cell? ⟨wr.heap.size, 1, none⟩ = some (.int .i64 (c9 : Int)) := e21
      have d30 : ((W2.alloc (.cells #[.string x] 9)).drew).cell? ⟨wr.heap.size, 0, none⟩ = some (.string x) := cell_blk HEB.out 0
      have d31 : ((W2.alloc (.cells #[.string x] 9)).drew).cell? ⟨wr.heap.size, 1, none⟩ = some (.int .i64 (c9 : Int)) := cell_blk HEB.out 1
      have HW2 := Lib.hid hW2
      have hcn : (us ++ wyS f.nodes false k2 ps (es.take j)).length + (wyF f.nodes false k2 c9 (ps ++ [nn])).length ≤ 50000000 := by
        simp only [List.length_append] at HPN ⊢; omega
      have HCN := Lib.hid hcn
      clear hE hX hL hO hN y1 y2 hx hcc he4 hbwr hBw hal hEN h23 h13 hW2 hnn HPN hpr hcn
      go_wp2
      rw [HW2.out]
      go_region_held3 (fun w' => w'.cell? ⟨wr.heap.size, 0, none⟩ = some (.string x) ∧ w'.cell? ⟨wr.heap.size, 1, none⟩ = some (.int .i64 (c9 : Int))) (first | (with_reducible exact ⟨d20, d21⟩) | (with_reducible exact ⟨d30, d31⟩) | (with_reducible exact ⟨e60, e61⟩) | (with_reducible exact ⟨e70, e71⟩))
        (first
          | (refine step_append_keep _ rfl (.tmp 28) (.tmp 31) 26 rfl B 9 i0 (.string ⟨#[]⟩) 1 16 Try.underlying26 hi0 hz0 hz1 hz2 rfl (by decide) (.slice oo ps.length cc) ps.length (strs ps) (by simp [Act.eval, Act.put]) HOX3.out ⟨W2.heap.size, 0, none⟩ 1 1 [.string x] (by decide) (by simp [Act.eval, Act.put]) rfl HNW.out (by simp [Value.oneCell']) (by unfold maxLen; omega) (by omega) HBX3.out ?_; intro v6 w6 hown6 hgrow6 hkeep6 hsame6; have HO6 : Hid (Lst w6 B v6 (ps ++ [nn])) := Lib.hid (Lst.snoc HXN.out hown6); have HK6 : Hid (Lst w6 B (.slice oo ps.length cc) ps) := Lib.hid hkeep6; have HS6 := Lib.hid (same_cases hsame6); have HQ6 := Lib.hid hsame6; obtain ⟨oo6, cc6, rfl, -⟩ := owns_form hown6; have HE6 := Lib.hid (HEF3.out.trans (Eff2.of_grown bd _ hgrow6)); have HX6 := Lib.hid ((hgrow6.block _ HL3.out (fun e => HNE.out e.symm)).trans HXB.out); have HL6 : Hid (Lst w6 B vr (us ++ wyS f.nodes false k2 ps (es.take j))) := Lib.hid (World.ownsRow.kept HLB.out hgrow6 (by cases hvr : vr.ownBlock with | none => exact .inl rfl | some g => exact .inr (fun e => HDR.out g e.symm hvr))); have HE61 := Lib.hid ((hgrow6.block _ HL4.out HRW.out).trans HEB.out); have HG6 := Lib.hid hgrow6.size; have e60 : w6.cell? ⟨wr.heap.size, 0, none⟩ = some (.string x) := cell_blk HE61.out 0; have e61 : w6.cell? ⟨wr.heap.size, 1, none⟩ = some (.int .i64 (c9 : Int)) := cell_blk HE61.out 1; have HBW6 : Hid (Below w0.heap.size w0 w6) := Lib.hid (HBW.out.trans ((HE6.out.below hBd HR1.out HR2.out hBs).mono hwB)); have HN7 : Hid (some wr.heap.size ≠ (Value.slice oo6 (ps.length + 1) cc6).ownBlock) := Lib.hid (fun e => by rcases HS6.out with h8 | h8 <;> rw [h8] at e <;> first | exact HRW.out e | (have h9 := HL4.out; simp only [Option.some.injEq] at e; omega)); have HD6 : Hid (Dis (.slice oo6 (ps.length + 1) cc6) vr) := Lib.hid (fun g e e2 => by rcases HS6.out with h8 | h8 <;> rw [h8] at e <;> first | exact HDR.out g e e2 | (have h9 := (HRV.out g e2).2; have h10 := HL4.out; simp only [Option.some.injEq] at e; omega)); clear hown6 hgrow6 hkeep6 hsame6)
          | (go_at_call 30; refine (IH.out k2 (by omega) c9 (ps ++ [nn]) (us ++ wyS f.nodes false k2 ps (es.take j)) (.slice oo6 (ps.length + 1) cc6) vr B bd w6 hwB HBW6.out (by omega) HD4.out (by simp; omega) HPS2.out HCN.out hBd HX6.out HL6.out HO6.out HD6.out).mono ?_; rintro e w7 ⟨rfl, v7, hX7, hL7, hO7, hE7, hN7⟩; have HE7 := Lib.hid hE7; have HX7 := Lib.hid hX7; have HL7 := Lib.hid hL7; have HO7 := Lib.hid hO7; have HNB7 := Lib.hid hN7; have h71 := (hE7.block _ (lt_of_heap HE61.out) (by omega) HN7.out (fun e => by have := (HRV.out _ e.symm).2; omega)).trans HE61.out; have e70 : w7.cell? ⟨wr.heap.size, 0, none⟩ = some (.string x) := cell_blk h71 0; have e71 : w7.cell? ⟨wr.heap.size, 1, none⟩ = some (.int .i64 (c9 : Int)) := cell_blk h71 1; clear hE7 hX7 hL7 hO7 hN7 h71))
      all_goals
        go_wp2
        go_roundw
        case rel =>
          refine ⟨j + 1, v7, hlt, by go_num, HE6.out.fresh HE7.out (fun g hg => ?_) HN.out.of, HX7.out, ?_, ?_, HN.out.trans HNB7.out (Nat.le_trans HLw.out (Nat.le_trans (Nat.le_of_lt HL4.out) HG6.out))⟩
          · rcases HS6.out with h8 | h8
            · exact .inl (h8.symm.trans hg)
            · rw [h8] at hg
              have h9 := HL4.out
              have h10 := HLw.out
              simp only [Option.some.injEq] at hg
              exact .inr (by omega)
          · rw [HT.out, ← List.append_assoc]
            exact HL7.out
          · rcases HQ6.out with ⟨g8, cap8, e8, e9⟩ | h8
            · simp only [Value.slice.injEq, true_and] at e8 e9
              obtain ⟨rfl, rfl⟩ := e8
              obtain ⟨rfl, rfl⟩ := e9
              exact lst_cut HO7.out
            · refine lst_eff2 HK6.out HE7.out HNE.out (fun g e => ?_) (fun g e e2 => HDR.out g e e2.symm)
              rw [h8]
              intro e2
              have h9 := (lst_lt HOWN.out _ e).2
              have h10 := HL4.out
              have h11 := HLw.out
              simp only [Option.some.injEq] at e2
              omega
        case measure => simp [intOf]; omega
    · have HT : Hid (es.take j = es) := Lib.hid (List.take_of_length_le (by omega))
      rw [HT.out] at hL
      have HL := Lib.hid hL
      clear hE hX hL hO hN hpr hBw
      go_wp2
      go_end0
      refine ⟨rfl, vr, HX.out, ?_, HO.out, HE.out, HN.out⟩
      have h7 := HL.out
      rw [HUS.out, List.append_assoc] at h7
      rw [HV.out]
      exact h7
theorem walkWayF_any (f : FsD) (hg : goodF f = true) (hs : szF f ≤ 1048576) (nv : Value) (w0 : World) (hN : NodsA w0 nv f.nodes) (k : Nat) : WSaysF f nv w0 k := by
  induction k using Nat.strongRecOn with
  | ind k ih => exact walkWayF_step f hg hs nv w0 hN k ih
end Go.Proofs.Ytbmbbioanlcioaa
