/-
  Joined: LookI FileA.
  Conditions: as each states.
-/
import Derived.Test.YtpkmkpeabfmbiaaGreatDoorLib11

/-
  The model's answers of chapter 4 out of what a look finds: l4Asked, FindNode, ReadLink, l4Dir.
  Conditions: at most 2^20 values and letters together; a text of at most 2^20 bytes.
-/
namespace Go.Proofs.YtpkmkpeabfmbiaaGreatDoor
open Go.ChangeShapes Go.WideShapes Go.ChangeAt Go.RowKit Go.Joins
set_option linter.unusedVariables false
set_option linter.unusedSimpArgs false

theorem goodF_G {f : FsD} (h : goodF f = true) : GoodF f := by unfold goodF at h; simpa using h
theorem node_ok {ns : List Nod} (h : ∀ n ∈ ns, nodOkI ns.length n = true) {i : Nat} (hi : i < ns.length) : nodOkI ns.length (nodeAt ns i) = true := by
  have e : nodeAt ns i = ns[i] := getD_at hi
  rw [e]; exact h _ (List.getElem_mem hi)
theorem look_of {f : FsD} (h : goodF f = true) (hs : szF f ≤ 1048576) : LookFs f ∧ LinkLen f.nodes := by
  have hG := goodF_G h
  have hall : ∀ n ∈ f.nodes, nodOkI f.nodes.length n = true := fun n hn => (nodOk_iff.1 (hG.2.2.2.2.1 n hn)).1
  refine ⟨⟨hs, leadI hall, linksFit_of hall, by have := inB_t hG.1; omega, fun i hi hk => ?_⟩, fun i hi hk => ?_⟩
  · have h1 := node_ok hall hi
    unfold nodOkI at h1
    rw [if_neg hk] at h1
    simp only [Bool.and_eq_true] at h1
    exact h1.1
  · have h1 := node_ok hall hi
    unfold nodOkI at h1
    rw [if_neg (by omega), if_neg (by omega), if_neg (by omega)] at h1
    simp only [Bool.and_eq_true] at h1
    have h2 : goodB (nodeAt f.nodes i).data = true := h1.2.2.2.2.2.1
    simp [goodB] at h2
    omega
theorem lkRun_lt {ns : List Nod} (hf : LinksFit ns) (hld : Lead ns) (hp : 0 < ns.length) (u g : Int) (fol : Bool) : ∀ (n : Nat) (s : Lk), LkInv ns s → (lkRun ns u g fol n s).2 < ns.length
  | 0, s, h => h.node
  | n + 1, ⟨node, [], hops⟩, h => h.node
  | n + 1, ⟨node, p :: r, hops⟩, h => by
    rw [lkRun]
    by_cases h0 : (lkStep ns u g fol node p r hops).1 = 0
    · rw [if_neg (by rw [h0]; simp)]
      exact lkRun_lt hf hld hp u g fol n _ (lkInv_step hf hld hp h h0)
    · rw [if_pos h0]; exact hp
theorem lkFind_lt {f : FsD} (hF : LookFs f) (u g : Int) (l : List UInt8) (fol : Bool) : (lkFind f.nodes u g l fol).2 < f.nodes.length := by
  unfold lkFind
  by_cases h : goodB l = true ∧ wholeB l = true
  · rw [if_pos h]
    have hl : l.length ≤ 60 := by
      have h1 := h.1
      simp [goodB] at h1
      omega
    have h1 : (lkGo f.nodes u g (fol || slashB l) ⟨0, parts l, 0⟩).2 < f.nodes.length := lkRun_lt hF.fit hF.lead hF.pos u g _ _ _ ⟨hF.pos, Nat.zero_le _, by have h7 := parts_le l; simp only; omega⟩
    split
    · exact hF.pos
    · split
      · exact hF.pos
      · exact h1
  · rw [if_neg h]; exact hF.pos

noncomputable def askB4 (f : FsD) (u g : Int) : Bool := goodF f && credB u g
set_option maxHeartbeats 2000000 in
theorem l4Asked_any (f : FsD) (v : Value) (u g : Int) (w : World) (hR : FsA w v f) (hs : szF f ≤ 1048576) : Calls Tryz.prog 35 #[v, .agg #[.int .i64 u, .int .i64 g]] w fun e w' => e = .returned (.bool (askB4 f u g)) ∧ Below w.heap.size w w' := by
  have HR := Lib.hid hR
  obtain ⟨nv, rfl, hN⟩ := hR
  have HN := Lib.hid hN
  obtain ⟨o, c, rfl, hm, hH⟩ := hN
  have HH := Lib.hid hH
  unfold maxLen at hm
  have HS := Lib.hid hs
  have hl : f.nodes.length ≤ 1048576 := (lists_small hs).1
  have HB0 : Hid (Below w.heap.size w ((w.alloc (.cells #[.slice o f.nodes.length c, .int .i64 f.room] 34)).alloc (.cells #[.int .i64 u, .int .i64 g] 36))) := Lib.hid (((Below.refl _ _).alloc (Nat.le_refl _) _).alloc (by simp) _)
  have KA0 := Lib.hid (alloc3_fst' w (.cells #[.slice o f.nodes.length c, .int .i64 f.room] 34) (.cells #[.int .i64 u, .int .i64 g] 36))
  have KB0 := Lib.hid (alloc3_snd' w (.cells #[.slice o f.nodes.length c, .int .i64 f.room] 34) (.cells #[.int .i64 u, .int .i64 g] 36))
  clear hH hs
  by_cases hg : goodF f = true
  · have HG := Lib.hid hg
    have HF : Hid (askB4 f u g = credB u g) := Lib.hid (by unfold askB4; rw [HG.out]; rfl)
    clear hg
    go_enter Tryz.func35, Tryz.ntmps35
    go_wp2_with fail
    refine (l3Good_any f _ _ (HR.out.below HB0.out) HS.out).mono ?_
    rintro e w1 ⟨rfl, hb1⟩
    rw [HG.out]
    have HB1 := Lib.hid (HB0.out.trans (hb1.mono HB0.out.size))
    have KA1 := Lib.hid ((hb1.block w.heap.size (lt_of_heap KA0.out)).trans KA0.out)
    have KB1 := Lib.hid ((hb1.block (w.heap.size + 1) (lt_of_heap KB0.out)).trans KB0.out)
    have x1a : w1.cell? ⟨w.heap.size, 0, none⟩ = some (.slice o f.nodes.length c) := cell_blk KA1.out 0
    have x1b : w1.cell? ⟨w.heap.size, 1, none⟩ = some (.int .i64 f.room) := cell_blk KA1.out 1
    have y1a : w1.cell? ⟨w.heap.size + 1, 0, none⟩ = some (.int .i64 u) := cell_blk KB1.out 0
    have y1b : w1.cell? ⟨w.heap.size + 1, 1, none⟩ = some (.int .i64 g) := cell_blk KB1.out 1
    clear hb1
    go_wp2_with fail
    refine (l1Cred_any u g _).mono ?_
    rintro e w2 ⟨rfl, hb2⟩
    have HB2 := Lib.hid (HB1.out.trans (hb2.mono HB1.out.size))
    have KA2 := Lib.hid ((hb2.block w.heap.size (lt_of_heap KA1.out)).trans KA1.out)
    have KB2 := Lib.hid ((hb2.block (w.heap.size + 1) (lt_of_heap KB1.out)).trans KB1.out)
    have x2a : w2.cell? ⟨w.heap.size, 0, none⟩ = some (.slice o f.nodes.length c) := cell_blk KA2.out 0
    have x2b : w2.cell? ⟨w.heap.size, 1, none⟩ = some (.int .i64 f.room) := cell_blk KA2.out 1
    have y2a : w2.cell? ⟨w.heap.size + 1, 0, none⟩ = some (.int .i64 u) := cell_blk KB2.out 0
    have y2b : w2.cell? ⟨w.heap.size + 1, 1, none⟩ = some (.int .i64 g) := cell_blk KB2.out 1
    clear hb2
    go_wp2
    go_ret
    exact ⟨ret_bool HF.out.symm, HB2.out⟩
  · have HG : Hid (goodF f = false) := Lib.hid (by simpa using hg)
    have HF : Hid (askB4 f u g = false) := Lib.hid (by unfold askB4; rw [HG.out]; rfl)
    clear hg
    go_enter Tryz.func35, Tryz.ntmps35
    go_wp2_with fail
    refine (l3Good_any f _ _ (HR.out.below HB0.out) HS.out).mono ?_
    rintro e w1 ⟨rfl, hb1⟩
    rw [HG.out]
    have HB1 := Lib.hid (HB0.out.trans (hb1.mono HB0.out.size))
    have KA1 := Lib.hid ((hb1.block w.heap.size (lt_of_heap KA0.out)).trans KA0.out)
    have KB1 := Lib.hid ((hb1.block (w.heap.size + 1) (lt_of_heap KB0.out)).trans KB0.out)
    have x1a : w1.cell? ⟨w.heap.size, 0, none⟩ = some (.slice o f.nodes.length c) := cell_blk KA1.out 0
    have x1b : w1.cell? ⟨w.heap.size, 1, none⟩ = some (.int .i64 f.room) := cell_blk KA1.out 1
    have y1a : w1.cell? ⟨w.heap.size + 1, 0, none⟩ = some (.int .i64 u) := cell_blk KB1.out 0
    have y1b : w1.cell? ⟨w.heap.size + 1, 1, none⟩ = some (.int .i64 g) := cell_blk KB1.out 1
    clear hb1
    go_wp2
    go_ret
    exact ⟨ret_bool HF.out.symm, HB1.out⟩

noncomputable def findN (f : FsD) (u g : Int) (l : List UInt8) (fol : Bool) : Nat := if askB4 f u g = true then (lkFind f.nodes u g l fol).2 else 0
noncomputable def findC (f : FsD) (u g : Int) (l : List UInt8) (fol : Bool) : Int := if askB4 f u g = true then (lkFind f.nodes u g l fol).1 else 0
theorem ask_good {f : FsD} {u g : Int} (h : askB4 f u g = true) : goodF f = true := by unfold askB4 at h; simp only [Bool.and_eq_true] at h; exact h.1
/-- A node's kind and text, found in memory. -/
theorem nod_cells {w w' : World} {o : Option Addr} {c : Nat} {f : FsD} {nd : Nat} (hH : ∀ i (h : i < f.nodes.length), ∃ g off lv, o = some ⟨g, off, none⟩ ∧ g < w.heap.size ∧ NodC w g (off + i * 7) lv f.nodes[i] ∧ EntsA w lv f.nodes[i].list ∧ f.nodes[i].data.length ≤ maxLen) (hn : nd < f.nodes.length) (hb : Below w.heap.size w w') :
    ∃ g off lv, o = some ⟨g, off, none⟩ ∧ NodC w' g (off + nd * 7) lv (nodeAt f.nodes nd) ∧ EntsA w' lv (nodeAt f.nodes nd).list := by
  obtain ⟨g, off, lv, e, hg, hc, he, -⟩ := hH nd hn
  have hq : f.nodes[nd] = nodeAt f.nodes nd := (getD_at hn).symm
  rw [hq] at hc he
  exact ⟨g, off, lv, e, hc.below hb hg, he.below hb⟩
/-- What ReadLink tells: a text and a code. -/
def rlF (ns : List Nod) (u g : Int) (l : List UInt8) : List UInt8 × Int :=
  if (lkFind ns u g l false).1 ≠ 0 then ([], (lkFind ns u g l false).1)
  else if (nodeAt ns (lkFind ns u g l false).2).kind ≠ 3 then ([], 2)
  else ((nodeAt ns (lkFind ns u g l false).2).data, 0)
noncomputable def rlT (f : FsD) (u g : Int) (l : List UInt8) : List UInt8 := if askB4 f u g = true then (rlF f.nodes u g l).1 else []
noncomputable def rlC (f : FsD) (u g : Int) (l : List UInt8) : Int := if askB4 f u g = true then (rlF f.nodes u g l).2 else 0
/-- What l4Dir finds: a code and a node. -/
def dirF (ns : List Nod) (u g : Int) (l : List UInt8) : Int × Nat :=
  if (lkFind ns u g l true).1 = 0 ∧ (nodeAt ns (lkFind ns u g l true).2).kind ≠ 2 then (3, 0) else lkFind ns u g l true
end Go.Proofs.YtpkmkpeabfmbiaaGreatDoor


/-
  The model's l6File and ReadFile.
  Conditions: at most 2^20 values and letters together; a text of at most 2^20 bytes.
-/
namespace Go.Proofs.YtpkmkpeabfmbiaaGreatDoor
open Go.ChangeShapes Go.WideShapes Go.ChangeAt Go.RowKit Go.Joins
set_option linter.unusedVariables false
set_option linter.unusedSimpArgs false

/-- What l6File finds: a code and a node. -/
def filW (ns : List Nod) (u g : Int) (l : List UInt8) (want : Int) : Int × Nat :=
  if (lkFind ns u g l true).1 ≠ 0 then ((lkFind ns u g l true).1, 0)
  else if (nodeAt ns (lkFind ns u g l true).2).kind = 2 then (7, 0)
  else if mayB u g (nodeAt ns (lkFind ns u g l true).2).mode (nodeAt ns (lkFind ns u g l true).2).uid (nodeAt ns (lkFind ns u g l true).2).gid want = false then (4, 0)
  else (0, (lkFind ns u g l true).2)
theorem filW_lt {f : FsD} (hF : LookFs f) (u g : Int) (l : List UInt8) (want : Int) : (filW f.nodes u g l want).2 < f.nodes.length := by
  unfold filW
  split
  · exact hF.pos
  · split
    · exact hF.pos
    · split
      · exact hF.pos
      · exact lkFind_lt hF u g l true
/-- A node of a good file system has a mode and owners within their limits. -/
theorem node_attr {f : FsD} (h : goodF f = true) {i : Nat} (hi : i < f.nodes.length) : inB 0 511 (nodeAt f.nodes i).mode = true ∧ inB 0 99 (nodeAt f.nodes i).uid = true ∧ inB 0 99 (nodeAt f.nodes i).gid = true := by
  have hG := goodF_G h
  have h1 := node_ok (fun n hn => (nodOk_iff.1 (hG.2.2.2.2.1 n hn)).1) hi
  unfold nodOkI at h1
  by_cases hk : (nodeAt f.nodes i).kind = 0
  · rw [if_pos hk] at h1
    simp only [Bool.and_eq_true, beq_iff_eq] at h1
    rw [h1.1, h1.2.1, h1.2.2.1]
    exact ⟨by decide, by decide, by decide⟩
  · rw [if_neg hk] at h1
    simp only [Bool.and_eq_true] at h1
    exact ⟨h1.1, h1.2.1, h1.2.2.1⟩
set_option maxHeartbeats 4000000 in
theorem l6File_any (f : FsD) (v : Value) (u g : Int) (s : ByteArray) (want : Int) (w : World) (hR : FsA w v f) (hs : szF f ≤ 1048576) (hss : s.size ≤ 1048576) (hg : goodF f = true) : Calls Tryz.prog 67 #[v, .agg #[.int .i64 u, .int .i64 g], .string s, .int .i64 want] w fun e w' => e = .returned (.tuple #[.int .i64 ((filW f.nodes u g s.data.toList want).2 : Nat), .int .i64 (filW f.nodes u g s.data.toList want).1]) ∧ Below w.heap.size w w' := by
  have HR := Lib.hid hR
  obtain ⟨nv, rfl, hN⟩ := hR
  have HN := Lib.hid hN
  obtain ⟨o, c, rfl, hm, hH⟩ := hN
  have HH := Lib.hid hH
  unfold maxLen at hm
  have HS := Lib.hid hs
  have hl : f.nodes.length ≤ 1048576 := (lists_small hs).1
  have HB0 : Hid (Below w.heap.size w ((w.alloc (.cells #[.slice o f.nodes.length c, .int .i64 f.room] 34)).alloc (.cells #[.int .i64 u, .int .i64 g] 36))) := Lib.hid (((Below.refl _ _).alloc (Nat.le_refl _) _).alloc (by simp) _)
  have KA0 := Lib.hid (alloc3_fst' w (.cells #[.slice o f.nodes.length c, .int .i64 f.room] 34) (.cells #[.int .i64 u, .int .i64 g] 36))
  have KB0 := Lib.hid (alloc3_snd' w (.cells #[.slice o f.nodes.length c, .int .i64 f.room] 34) (.cells #[.int .i64 u, .int .i64 g] 36))
  clear hH hs
  have HL := Lib.hid (look_of hg HS.out)
  obtain ⟨⟨cd, nd⟩, hfd⟩ : ∃ q, lkFind f.nodes u g s.data.toList true = q := ⟨_, rfl⟩
  have hlt : nd < f.nodes.length := by have h7 := lkFind_lt HL.out.1 u g s.data.toList true; rw [hfd] at h7; exact h7
  have HFD := Lib.hid hfd
  have HMO := Lib.hid (node_attr hg hlt).1
  clear hg
  by_cases hc : cd = 0
  · by_cases hk2 : (nodeAt f.nodes nd).kind = 2
    · have HV : Hid (filW f.nodes u g s.data.toList want = (7, 0)) := Lib.hid (by unfold filW; rw [hfd]; simp [hc, hk2])
      subst hc
      clear hfd
      go_enter Tryz.func67, Tryz.ntmps67
      go_wp2_with fail
      refine (l4Find_any f _ u g s true _ (HR.out.below HB0.out) HL.out.1 HL.out.2 (by omega)).mono ?_
      rintro e w1 ⟨rfl, hb1⟩
      rw [HFD.out]
      have HB1 := Lib.hid (HB0.out.trans (hb1.mono HB0.out.size))
      have KA1 := Lib.hid ((hb1.block w.heap.size (lt_of_heap KA0.out)).trans KA0.out)
      have KB1 := Lib.hid ((hb1.block (w.heap.size + 1) (lt_of_heap KB0.out)).trans KB0.out)
      have x1a : w1.cell? ⟨w.heap.size, 0, none⟩ = some (.slice o f.nodes.length c) := cell_blk KA1.out 0
      have x1b : w1.cell? ⟨w.heap.size, 1, none⟩ = some (.int .i64 f.room) := cell_blk KA1.out 1
      have y1a : w1.cell? ⟨w.heap.size + 1, 0, none⟩ = some (.int .i64 u) := cell_blk KB1.out 0
      have y1b : w1.cell? ⟨w.heap.size + 1, 1, none⟩ = some (.int .i64 g) := cell_blk KB1.out 1
      clear hb1
      obtain ⟨g3, f3, lv3, e3, hcc, hee⟩ := nod_cells (c := c) HH.out hlt HB1.out
      obtain ⟨d0, d1, d2, d3, d4, d5, d6⟩ := hcc
      subst e3
      rw [hk2] at d0
      clear hee
      go_wp2
      go_ret2
      exact ⟨by rw [HV.out]; rfl, HB1.out⟩
    · have kb : ((nodeAt f.nodes nd).kind == 2) = false := beq_eq_false_iff_ne.2 hk2
      cases hmy : mayB u g (nodeAt f.nodes nd).mode (nodeAt f.nodes nd).uid (nodeAt f.nodes nd).gid want with
      | false =>
        have HMY := Lib.hid hmy
        have HV : Hid (filW f.nodes u g s.data.toList want = (4, 0)) := Lib.hid (by unfold filW; rw [hfd]; simp [hc, hk2, hmy])
        subst hc
        clear hfd hmy
        go_enter Tryz.func67, Tryz.ntmps67
        go_wp2_with fail
        refine (l4Find_any f _ u g s true _ (HR.out.below HB0.out) HL.out.1 HL.out.2 (by omega)).mono ?_
        rintro e w1 ⟨rfl, hb1⟩
        rw [HFD.out]
        have HB1 := Lib.hid (HB0.out.trans (hb1.mono HB0.out.size))
        have KA1 := Lib.hid ((hb1.block w.heap.size (lt_of_heap KA0.out)).trans KA0.out)
        have KB1 := Lib.hid ((hb1.block (w.heap.size + 1) (lt_of_heap KB0.out)).trans KB0.out)
        have x1a : w1.cell? ⟨w.heap.size, 0, none⟩ = some (.slice o f.nodes.length c) := cell_blk KA1.out 0
        have x1b : w1.cell? ⟨w.heap.size, 1, none⟩ = some (.int .i64 f.room) := cell_blk KA1.out 1
        have y1a : w1.cell? ⟨w.heap.size + 1, 0, none⟩ = some (.int .i64 u) := cell_blk KB1.out 0
        have y1b : w1.cell? ⟨w.heap.size + 1, 1, none⟩ = some (.int .i64 g) := cell_blk KB1.out 1
        clear hb1
        obtain ⟨g3, f3, lv3, e3, hcc, hee⟩ := nod_cells (c := c) HH.out hlt HB1.out
        obtain ⟨d0, d1, d2, d3, d4, d5, d6⟩ := hcc
        subst e3
        clear hee
        go_wp2_with fail
        refine ((l4May_any f _ u g nd want _ (HR.out.below HB1.out) hlt HMO.out hl)).mono ?_
        rintro e w2 ⟨rfl, hb2⟩
        rw [HMY.out]
        have HB2 := Lib.hid (HB1.out.trans (hb2.mono HB1.out.size))
        have KA2 := Lib.hid ((hb2.block w.heap.size (lt_of_heap KA1.out)).trans KA1.out)
        have KB2 := Lib.hid ((hb2.block (w.heap.size + 1) (lt_of_heap KB1.out)).trans KB1.out)
        have x2a : w2.cell? ⟨w.heap.size, 0, none⟩ = some (.slice (some ⟨g3, f3, none⟩) f.nodes.length c) := cell_blk KA2.out 0
        have x2b : w2.cell? ⟨w.heap.size, 1, none⟩ = some (.int .i64 f.room) := cell_blk KA2.out 1
        have y2a : w2.cell? ⟨w.heap.size + 1, 0, none⟩ = some (.int .i64 u) := cell_blk KB2.out 0
        have y2b : w2.cell? ⟨w.heap.size + 1, 1, none⟩ = some (.int .i64 g) := cell_blk KB2.out 1
        clear hb2
        go_wp2
        go_ret2
        exact ⟨by rw [HV.out]; rfl, HB2.out⟩
      | true =>
        have HMY := Lib.hid hmy
        have HV : Hid (filW f.nodes u g s.data.toList want = (0, nd)) := Lib.hid (by unfold filW; rw [hfd]; simp [hc, hk2, hmy])
        subst hc
        clear hfd hmy
        go_enter Tryz.func67, Tryz.ntmps67
        go_wp2_with fail
        refine (l4Find_any f _ u g s true _ (HR.out.below HB0.out) HL.out.1 HL.out.2 (by omega)).mono ?_
        rintro e w1 ⟨rfl, hb1⟩
        rw [HFD.out]
        have HB1 := Lib.hid (HB0.out.trans (hb1.mono HB0.out.size))
        have KA1 := Lib.hid ((hb1.block w.heap.size (lt_of_heap KA0.out)).trans KA0.out)
        have KB1 := Lib.hid ((hb1.block (w.heap.size + 1) (lt_of_heap KB0.out)).trans KB0.out)
        have x1a : w1.cell? ⟨w.heap.size, 0, none⟩ = some (.slice o f.nodes.length c) := cell_blk KA1.out 0
        have x1b : w1.cell? ⟨w.heap.size, 1, none⟩ = some (.int .i64 f.room) := cell_blk KA1.out 1
        have y1a : w1.cell? ⟨w.heap.size + 1, 0, none⟩ = some (.int .i64 u) := cell_blk KB1.out 0
        have y1b : w1.cell? ⟨w.heap.size + 1, 1, none⟩ = some (.int .i64 g) := cell_blk KB1.out 1
        clear hb1
        obtain ⟨g3, f3, lv3, e3, hcc, hee⟩ := nod_cells (c := c) HH.out hlt HB1.out
        obtain ⟨d0, d1, d2, d3, d4, d5, d6⟩ := hcc
        subst e3
        clear hee
        go_wp2_with fail
        refine ((l4May_any f _ u g nd want _ (HR.out.below HB1.out) hlt HMO.out hl)).mono ?_
        rintro e w2 ⟨rfl, hb2⟩
        rw [HMY.out]
        have HB2 := Lib.hid (HB1.out.trans (hb2.mono HB1.out.size))
        have KA2 := Lib.hid ((hb2.block w.heap.size (lt_of_heap KA1.out)).trans KA1.out)
        have KB2 := Lib.hid ((hb2.block (w.heap.size + 1) (lt_of_heap KB1.out)).trans KB1.out)
        have x2a : w2.cell? ⟨w.heap.size, 0, none⟩ = some (.slice (some ⟨g3, f3, none⟩) f.nodes.length c) := cell_blk KA2.out 0
        have x2b : w2.cell? ⟨w.heap.size, 1, none⟩ = some (.int .i64 f.room) := cell_blk KA2.out 1
        have y2a : w2.cell? ⟨w.heap.size + 1, 0, none⟩ = some (.int .i64 u) := cell_blk KB2.out 0
        have y2b : w2.cell? ⟨w.heap.size + 1, 1, none⟩ = some (.int .i64 g) := cell_blk KB2.out 1
        clear hb2
        go_wp2
        go_ret2
        exact ⟨by rw [HV.out]; rfl, HB2.out⟩
  · have HV : Hid (filW f.nodes u g s.data.toList want = (cd, 0)) := Lib.hid (by unfold filW; rw [hfd]; simp [hc])
    have cb : (cd == 0) = false := beq_eq_false_iff_ne.2 hc
    have cc : (cd != 0) = true := by rw [bne_iff_ne]; exact hc
    clear hfd
    go_enter Tryz.func67, Tryz.ntmps67
    go_wp2_with fail
    refine (l4Find_any f _ u g s true _ (HR.out.below HB0.out) HL.out.1 HL.out.2 (by omega)).mono ?_
    rintro e w1 ⟨rfl, hb1⟩
    rw [HFD.out]
    have HB1 := Lib.hid (HB0.out.trans (hb1.mono HB0.out.size))
    have KA1 := Lib.hid ((hb1.block w.heap.size (lt_of_heap KA0.out)).trans KA0.out)
    have KB1 := Lib.hid ((hb1.block (w.heap.size + 1) (lt_of_heap KB0.out)).trans KB0.out)
    have x1a : w1.cell? ⟨w.heap.size, 0, none⟩ = some (.slice o f.nodes.length c) := cell_blk KA1.out 0
    have x1b : w1.cell? ⟨w.heap.size, 1, none⟩ = some (.int .i64 f.room) := cell_blk KA1.out 1
    have y1a : w1.cell? ⟨w.heap.size + 1, 0, none⟩ = some (.int .i64 u) := cell_blk KB1.out 0
    have y1b : w1.cell? ⟨w.heap.size + 1, 1, none⟩ = some (.int .i64 g) := cell_blk KB1.out 1
    clear hb1
    go_wp2
    go_ret2
    exact ⟨by rw [HV.out]; rfl, HB1.out⟩

/-- What ReadFile tells: a text and a code. -/
def rfT0 (ns : List Nod) (u g : Int) (l : List UInt8) : List UInt8 := if (filW ns u g l 4).1 = 0 then (nodeAt ns (filW ns u g l 4).2).data else []
noncomputable def rfT (f : FsD) (u g : Int) (l : List UInt8) : List UInt8 := if askB4 f u g = true then rfT0 f.nodes u g l else []
noncomputable def rfC (f : FsD) (u g : Int) (l : List UInt8) : Int := if askB4 f u g = true then (filW f.nodes u g l 4).1 else 0
end Go.Proofs.YtpkmkpeabfmbiaaGreatDoor
