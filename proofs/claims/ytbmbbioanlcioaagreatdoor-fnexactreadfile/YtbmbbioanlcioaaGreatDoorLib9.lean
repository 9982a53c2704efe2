/-
  Joined: LookI FileA IterD GoodC CollC InoA InoB.
  Conditions: as each states.
-/
import Derived.Laws.Cover1
import Derived.Test.YtbmbbioanlcioaaGreatDoorLib2
import Derived.Test.YtbmbbioanlcioaaGreatDoorLib3
import Derived.Test.YtbmbbioanlcioaaGreatDoorLib7
import Derived.Test.YtbmbbioanlcioaaGreatDoorLib8

/-
  The model's answers of chapter 4 out of what a look finds: l4Asked, FindNode, ReadLink, l4Dir.
  Conditions: at most 2^20 values and letters together; a text of at most 2^20 bytes.
-/
namespace Go.Proofs.YtbmbbioanlcioaaGreatDoor
open Go.ChangeShapes Go.WideShapes Go.ChangeAt Go.RowKit Go.Joins
set_option linter.unusedVariables false
set_option linter.unusedSimpArgs false

theorem goodF_G {f : FsD} (h : goodF f = true) : GoodF f := by unfold goodF at h; simpa using h
theorem node_ok {ns : List Nod} (h : ∀ n ∈ ns, nodOkI ns.length n = true) {i : Nat} (hi : i < ns.length) : nodOkI ns.length (nodeAt ns i) = true := by
  have e : nodeAt ns i = ns[i] := getD_at hi
  rw [e]; exact h _ (List.getElem_mem hi)
theorem look_of {f : FsD} (h : goodF f = true) (hs : szF f ≤ 1048576) : LookFs f ∧ LinkLen f.nodes := by
  have hG := goodF_G h
  have hall : ∀ n ∈ f.nodes, nodOkI f.nodes.length n = true := fun n hn => (nodOk_iff.1 (hG.2.2.2.2.1 n hn)).1
  refine ⟨⟨hs, leadI hall, linksFit_of hall, by have := inB_t hG.1; omega, fun i hi hk => ?_⟩, fun i hi hk => ?_⟩
  · have h1 := node_ok hall hi
    unfold nodOkI at h1
    rw [if_neg hk] at h1
    simp only [Bool.and_eq_true] at h1
    exact h1.1
  · have h1 := node_ok hall hi
    unfold nodOkI at h1
    rw [if_neg (by omega), if_neg (by omega), if_neg (by omega)] at h1
    simp only [Bool.and_eq_true] at h1
    have h2 : goodB (nodeAt f.nodes i).data = true := h1.2.2.2.2.2.1
    simp [goodB] at h2
    omega
theorem lkRun_lt {ns : List Nod} (hf : LinksFit ns) (hld : Lead ns) (hp : 0 < ns.length) (u g : Int) (fol : Bool) : ∀ (n : Nat) (s : Lk), LkInv ns s → (lkRun ns u g fol n s).2 < ns.length
  | 0, s, h => h.node
  | n + 1, ⟨node, [], hops⟩, h => h.node
  | n + 1, ⟨node, p :: r, hops⟩, h => by
    rw [lkRun]
    by_cases h0 : (lkStep ns u g fol node p r hops).1 = 0
    · rw [if_neg (by rw [h0]; simp)]
      exact lkRun_lt hf hld hp u g fol n _ (lkInv_step hf hld hp h h0)
    · rw [if_pos h0]; exact hp
theorem lkFind_lt {f : FsD} (hF : LookFs f) (u g : Int) (l : List UInt8) (fol : Bool) : (lkFind f.nodes u g l fol).2 < f.nodes.length := by
  unfold lkFind
  by_cases h : goodB l = true ∧ wholeB l = true
  · rw [if_pos h]
    have hl : l.length ≤ 60 := by
      have h1 := h.1
      simp [goodB] at h1
      omega
    have h1 : (lkGo f.nodes u g (fol || slashB l) ⟨0, parts l, 0⟩).2 < f.nodes.length := lkRun_lt hF.fit hF.lead hF.pos u g _ _ _ ⟨hF.pos, Nat.zero_le _, by have h7 := parts_le l; simp only; omega⟩
    split
    · exact hF.pos
    · split
      · exact hF.pos
      · exact h1
  · rw [if_neg h]; exact hF.pos

noncomputable def askB4 (f : FsD) (u g : Int) : Bool := goodF f && credB u g
set_option maxHeartbeats 2000000 in
theorem l4Asked_any (f : FsD) (v : Value) (u g : Int) (w : World) (hR : FsA w v f) (hs : szF f ≤ 1048576) : Calls Tryz.prog 29 #[v, .agg #[.int .i64 u, .int .i64 g]] w fun e w' => e = .returned (.bool (askB4 f u g)) ∧ Below w.heap.size w w' := by
  have HR := Lib.hid hR
  obtain ⟨nv, rfl, hN⟩ := hR
  have HN := Lib.hid hN
  obtain ⟨o, c, rfl, hm, hH⟩ := hN
  have HH := Lib.hid hH
  unfold maxLen at hm
  have HS := Lib.hid hs
  have hl : f.nodes.length ≤ 1048576 := (lists_small hs).1
  have HB0 : Hid (Below w.heap.size w ((w.alloc (.cells #[.slice o f.nodes.length c, .int .i64 f.room] 32)).alloc (.cells #[.int .i64 u, .int .i64 g] 34))) := Lib.hid (((Below.refl _ _).alloc (Nat.le_refl _) _).alloc (by simp) _)
  have KA0 := Lib.hid (alloc3_fst' w (.cells #[.slice o f.nodes.length c, .int .i64 f.room] 32) (.cells #[.int .i64 u, .int .i64 g] 34))
  have KB0 := Lib.hid (alloc3_snd' w (.cells #[.slice o f.nodes.length c, .int .i64 f.room] 32) (.cells #[.int .i64 u, .int .i64 g] 34))
  clear hH hs
  by_cases hg : goodF f = true
  · have HG := Lib.hid hg
    have HF : Hid (askB4 f u g = credB u g) := Lib.hid (by unfold askB4; rw [HG.out]; rfl)
    clear hg
    go_enter Tryz.func29, Tryz.ntmps29
    go_wp2_with fail
    refine (l3Good_any f _ _ (HR.out.below HB0.out) HS.out).mono ?_
    rintro e w1 ⟨rfl, hb1⟩
    rw [HG.out]
    have HB1 := Lib.hid (HB0.out.trans (hb1.mono HB0.out.size))
    have KA1 := Lib.hid ((hb1.block w.heap.size (lt_of_heap KA0.out)).trans KA0.out)
    have KB1 := Lib.hid ((hb1.block (w.heap.size + 1) (lt_of_heap KB0.out)).trans KB0.out)
    have x1a : w1.cell? ⟨w.heap.size, 0, none⟩ = some (.slice o f.nodes.length c) := cell_blk KA1.out 0
    have x1b : w1.cell? ⟨w.heap.size, 1, none⟩ = some (.int .i64 f.room) := cell_blk KA1.out 1
    have y1a : w1.cell? ⟨w.heap.size + 1, 0, none⟩ = some (.int .i64 u) := cell_blk KB1.out 0
    have y1b : w1.cell? ⟨w.heap.size + 1, 1, none⟩ = some (.int .i64 g) := cell_blk KB1.out 1
    clear hb1
    go_wp2_with fail
    refine (l1Cred_any u g _).mono ?_
    rintro e w2 ⟨rfl, hb2⟩
    have HB2 := Lib.hid (HB1.out.trans (hb2.mono HB1.out.size))
    have KA2 := Lib.hid ((hb2.block w.heap.size (lt_of_heap KA1.out)).trans KA1.out)
    have KB2 := Lib.hid ((hb2.block (w.heap.size + 1) (lt_of_heap KB1.out)).trans KB1.out)
    have x2a : w2.cell? ⟨w.heap.size, 0, none⟩ = some (.slice o f.nodes.length c) := cell_blk KA2.out 0
    have x2b : w2.cell? ⟨w.heap.size, 1, none⟩ = some (.int .i64 f.room) := cell_blk KA2.out 1
    have y2a : w2.cell? ⟨w.heap.size + 1, 0, none⟩ = some (.int .i64 u) := cell_blk KB2.out 0
    have y2b : w2.cell? ⟨w.heap.size + 1, 1, none⟩ = some (.int .i64 g) := cell_blk KB2.out 1
    clear hb2
    go_wp2
    go_ret
    exact ⟨ret_bool HF.out.symm, HB2.out⟩
  · have HG : Hid (goodF f = false) := Lib.hid (by simpa using hg)
    have HF : Hid (askB4 f u g = false) := Lib.hid (by unfold askB4; rw [HG.out]; rfl)
    clear hg
    go_enter Tryz.func29, Tryz.ntmps29
    go_wp2_with fail
    refine (l3Good_any f _ _ (HR.out.below HB0.out) HS.out).mono ?_
    rintro e w1 ⟨rfl, hb1⟩
    rw [HG.out]
    have HB1 := Lib.hid (HB0.out.trans (hb1.mono HB0.out.size))
    have KA1 := Lib.hid ((hb1.block w.heap.size (lt_of_heap KA0.out)).trans KA0.out)
    have KB1 := Lib.hid ((hb1.block (w.heap.size + 1) (lt_of_heap KB0.out)).trans KB0.out)
    have x1a : w1.cell? ⟨w.heap.size, 0, none⟩ = some (.slice o f.nodes.length c) := cell_blk KA1.out 0
    have x1b : w1.cell? ⟨w.heap.size, 1, none⟩ = some (.int .i64 f.room) := cell_blk KA1.out 1
    have y1a : w1.cell? ⟨w.heap.size + 1, 0, none⟩ = some (.int .i64 u) := cell_blk KB1.out 0
    have y1b : w1.cell? ⟨w.heap.size + 1, 1, none⟩ = some (.int .i64 g) := cell_blk KB1.out 1
    clear hb1
    go_wp2
    go_ret
    exact ⟨ret_bool HF.out.symm, HB1.out⟩

noncomputable def findN (f : FsD) (u g : Int) (l : List UInt8) (fol : Bool) : Nat := if askB4 f u g = true then (lkFind f.nodes u g l fol).2 else 0
noncomputable def findC (f : FsD) (u g : Int) (l : List UInt8) (fol : Bool) : Int := if askB4 f u g = true then (lkFind f.nodes u g l fol).1 else 0
theorem ask_good {f : FsD} {u g : Int} (h : askB4 f u g = true) : goodF f = true := by unfold askB4 at h; simp only [Bool.and_eq_true] at h; exact h.1
/-- A node's kind and text, found in memory. -/
theorem nod_cells {w w' : World} {o : Option Addr} {c : Nat} {f : FsD} {nd : Nat} (hH : ∀ i (h : i < f.nodes.length), ∃ g off lv, o = some ⟨g, off, none⟩ ∧ g < w.heap.size ∧ NodC w g (off + i * 7) lv f.nodes[i] ∧ EntsA w lv f.nodes[i].list ∧ f.nodes[i].data.length ≤ maxLen) (hn : nd < f.nodes.length) (hb : Below w.heap.size w w') :
    ∃ g off lv, o = some ⟨g, off, none⟩ ∧ NodC w' g (off + nd * 7) lv (nodeAt f.nodes nd) ∧ EntsA w' lv (nodeAt f.nodes nd).list := by
  obtain ⟨g, off, lv, e, hg, hc, he, -⟩ := hH nd hn
  have hq : f.nodes[nd] = nodeAt f.nodes nd := (getD_at hn).symm
  rw [hq] at hc he
  exact ⟨g, off, lv, e, hc.below hb hg, he.below hb⟩
/-- What ReadLink tells: a text and a code. -/
def rlF (ns : List Nod) (u g : Int) (l : List UInt8) : List UInt8 × Int :=
  if (lkFind ns u g l false).1 ≠ 0 then ([], (lkFind ns u g l false).1)
  else if (nodeAt ns (lkFind ns u g l false).2).kind ≠ 3 then ([], 2)
  else ((nodeAt ns (lkFind ns u g l false).2).data, 0)
noncomputable def rlT (f : FsD) (u g : Int) (l : List UInt8) : List UInt8 := if askB4 f u g = true then (rlF f.nodes u g l).1 else []
noncomputable def rlC (f : FsD) (u g : Int) (l : List UInt8) : Int := if askB4 f u g = true then (rlF f.nodes u g l).2 else 0
/-- What l4Dir finds: a code and a node. -/
def dirF (ns : List Nod) (u g : Int) (l : List UInt8) : Int × Nat :=
  if (lkFind ns u g l true).1 = 0 ∧ (nodeAt ns (lkFind ns u g l true).2).kind ≠ 2 then (3, 0) else lkFind ns u g l true
end Go.Proofs.YtbmbbioanlcioaaGreatDoor


/-
  The model's l6File and ReadFile.
  Conditions: at most 2^20 values and letters together; a text of at most 2^20 bytes.
-/
namespace Go.Proofs.YtbmbbioanlcioaaGreatDoor
open Go.ChangeShapes Go.WideShapes Go.ChangeAt Go.RowKit Go.Joins
set_option linter.unusedVariables false
set_option linter.unusedSimpArgs false

/-- What l6File finds: a code and a node. -/
def filW (ns : List Nod) (u g : Int) (l : List UInt8) (want : Int) : Int × Nat :=
  if (lkFind ns u g l true).1 ≠ 0 then ((lkFind ns u g l true).1, 0)
  else if (nodeAt ns (lkFind ns u g l true).2).kind = 2 then (7, 0)
  else if mayB u g (nodeAt ns (lkFind ns u g l true).2).mode (nodeAt ns (lkFind ns u g l true).2).uid (nodeAt ns (lkFind ns u g l true).2).gid want = false then (4, 0)
  else (0, (lkFind ns u g l true).2)
theorem filW_lt {f : FsD} (hF : LookFs f) (u g : Int) (l : List UInt8) (want : Int) : (filW f.nodes u g l want).2 < f.nodes.length := by
  unfold filW
  split
  · exact hF.pos
  · split
    · exact hF.pos
    · split
      · exact hF.pos
      · exact lkFind_lt hF u g l true
/-- A node of a good file system has a mode and owners within their limits. -/
theorem node_attr {f : FsD} (h : goodF f = true) {i : Nat} (hi : i < f.nodes.length) : inB 0 511 (nodeAt f.nodes i).mode = true ∧ inB 0 99 (nodeAt f.nodes i).uid = true ∧ inB 0 99 (nodeAt f.nodes i).gid = true := by
  have hG := goodF_G h
  have h1 := node_ok (fun n hn => (nodOk_iff.1 (hG.2.2.2.2.1 n hn)).1) hi
  unfold nodOkI at h1
  by_cases hk : (nodeAt f.nodes i).kind = 0
  · rw [if_pos hk] at h1
    simp only [Bool.and_eq_true, beq_iff_eq] at h1
    rw [h1.1, h1.2.1, h1.2.2.1]
    exact ⟨by decide, by decide, by decide⟩
  · rw [if_neg hk] at h1
    simp only [Bool.and_eq_true] at h1
    exact ⟨h1.1, h1.2.1, h1.2.2.1⟩
set_option maxHeartbeats 4000000 in
theorem l6File_any (f : FsD) (v : Value) (u g : Int) (s : ByteArray) (want : Int) (w : World) (hR : FsA w v f) (hs : szF f ≤ 1048576) (hss : s.size ≤ 1048576) (hg : goodF f = true) : Calls Tryz.prog 30 #[v, .agg #[.int .i64 u, .int .i64 g], .string s, .int .i64 want] w fun e w' => e = .returned (.tuple #[.int .i64 ((filW f.nodes u g s.data.toList want).2 : Nat), .int .i64 (filW f.nodes u g s.data.toList want).1]) ∧ Below w.heap.size w w' := by
  have HR := Lib.hid hR
  obtain ⟨nv, rfl, hN⟩ := hR
  have HN := Lib.hid hN
  obtain ⟨o, c, rfl, hm, hH⟩ := hN
  have HH := Lib.hid hH
  unfold maxLen at hm
  have HS := Lib.hid hs
  have hl : f.nodes.length ≤ 1048576 := (lists_small hs).1
  have HB0 : Hid (Below w.heap.size w ((w.alloc (.cells #[.slice o f.nodes.length c, .int .i64 f.room] 32)).alloc (.cells #[.int .i64 u, .int .i64 g] 34))) := Lib.hid (((Below.refl _ _).alloc (Nat.le_refl _) _).alloc (by simp) _)
  have KA0 := Lib.hid (alloc3_fst' w (.cells #[.slice o f.nodes.length c, .int .i64 f.room] 32) (.cells #[.int .i64 u, .int .i64 g] 34))
  have KB0 := Lib.hid (alloc3_snd' w (.cells #[.slice o f.nodes.length c, .int .i64 f.room] 32) (.cells #[.int .i64 u, .int .i64 g] 34))
  clear hH hs
  have HL := Lib.hid (look_of hg HS.out)
  obtain ⟨⟨cd, nd⟩, hfd⟩ : ∃ q, lkFind f.nodes u g s.data.toList true = q := ⟨_, rfl⟩
  have hlt : nd < f.nodes.length := by have h7 := lkFind_lt HL.out.1 u g s.data.toList true; rw [hfd] at h7; exact h7
  have HFD := Lib.hid hfd
  have HMO := Lib.hid (node_attr hg hlt).1
  clear hg
  by_cases hc : cd = 0
  · by_cases hk2 : (nodeAt f.nodes nd).kind = 2
    · have HV : Hid (filW f.nodes u g s.data.toList want = (7, 0)) := Lib.hid (by unfold filW; rw [hfd]; simp [hc, hk2])
      subst hc
      clear hfd
      go_enter Tryz.func30, Tryz.ntmps30
      go_wp2_with fail
      refine (l4Find_any f _ u g s true _ (HR.out.below HB0.out) HL.out.1 HL.out.2 (by omega)).mono ?_
      rintro e w1 ⟨rfl, hb1⟩
      rw [HFD.out]
      have HB1 := Lib.hid (HB0.out.trans (hb1.mono HB0.out.size))
      have KA1 := Lib.hid ((hb1.block w.heap.size (lt_of_heap KA0.out)).trans KA0.out)
      have KB1 := Lib.hid ((hb1.block (w.heap.size + 1) (lt_of_heap KB0.out)).trans KB0.out)
      have x1a : w1.cell? ⟨w.heap.size, 0, none⟩ = some (.slice o f.nodes.length c) := cell_blk KA1.out 0
      have x1b : w1.cell? ⟨w.heap.size, 1, none⟩ = some (.int .i64 f.room) := cell_blk KA1.out 1
      have y1a : w1.cell? ⟨w.heap.size + 1, 0, none⟩ = some (.int .i64 u) := cell_blk KB1.out 0
      have y1b : w1.cell? ⟨w.heap.size + 1, 1, none⟩ = some (.int .i64 g) := cell_blk KB1.out 1
      clear hb1
      obtain ⟨g3, f3, lv3, e3, hcc, hee⟩ := nod_cells (c := c) HH.out hlt HB1.out
      obtain ⟨d0, d1, d2, d3, d4, d5, d6⟩ := hcc
      subst e3
      rw [hk2] at d0
      clear hee
      go_wp2
      go_ret2
      exact ⟨by rw [HV.out]; rfl, HB1.out⟩
    · have kb : ((nodeAt f.nodes nd).kind == 2) = false := beq_eq_false_iff_ne.2 hk2
      cases hmy : mayB u g (nodeAt f.nodes nd).mode (nodeAt f.nodes nd).uid (nodeAt f.nodes nd).gid want with
      | false =>
        have HMY := Lib.hid hmy
        have HV : Hid (filW f.nodes u g s.data.toList want = (4, 0)) := Lib.hid (by unfold filW; rw [hfd]; simp [hc, hk2, hmy])
        subst hc
        clear hfd hmy
        go_enter Tryz.func30, Tryz.ntmps30
        go_wp2_with fail
        refine (l4Find_any f _ u g s true _ (HR.out.below HB0.out) HL.out.1 HL.out.2 (by omega)).mono ?_
        rintro e w1 ⟨rfl, hb1⟩
        rw [HFD.out]
        have HB1 := Lib.hid (HB0.out.trans (hb1.mono HB0.out.size))
        have KA1 := Lib.hid ((hb1.block w.heap.size (lt_of_heap KA0.out)).trans KA0.out)
        have KB1 := Lib.hid ((hb1.block (w.heap.size + 1) (lt_of_heap KB0.out)).trans KB0.out)
        have x1a : w1.cell? ⟨w.heap.size, 0, none⟩ = some (.slice o f.nodes.length c) := cell_blk KA1.out 0
        have x1b : w1.cell? ⟨w.heap.size, 1, none⟩ = some (.int .i64 f.room) := cell_blk KA1.out 1
        have y1a : w1.cell? ⟨w.heap.size + 1, 0, none⟩ = some (.int .i64 u) := cell_blk KB1.out 0
        have y1b : w1.cell? ⟨w.heap.size + 1, 1, none⟩ = some (.int .i64 g) := cell_blk KB1.out 1
        clear hb1
        obtain ⟨g3, f3, lv3, e3, hcc, hee⟩ := nod_cells (c := c) HH.out hlt HB1.out
        obtain ⟨d0, d1, d2, d3, d4, d5, d6⟩ := hcc
        subst e3
        clear hee
        go_wp2_with fail
        refine ((l4May_any f _ u g nd want _ (HR.out.below HB1.out) hlt HMO.out hl)).mono ?_
        rintro e w2 ⟨rfl, hb2⟩
        rw [HMY.out]
        have HB2 := Lib.hid (HB1.out.trans (hb2.mono HB1.out.size))
        have KA2 := Lib.hid ((hb2.block w.heap.size (lt_of_heap KA1.out)).trans KA1.out)
        have KB2 := Lib.hid ((hb2.block (w.heap.size + 1) (lt_of_heap KB1.out)).trans KB1.out)
        have x2a : w2.cell? ⟨w.heap.size, 0, none⟩ = some (.slice (some ⟨g3, f3, none⟩) f.nodes.length c) := cell_blk KA2.out 0
        have x2b : w2.cell? ⟨w.heap.size, 1, none⟩ = some (.int .i64 f.room) := cell_blk KA2.out 1
        have y2a : w2.cell? ⟨w.heap.size + 1, 0, none⟩ = some (.int .i64 u) := cell_blk KB2.out 0
        have y2b : w2.cell? ⟨w.heap.size + 1, 1, none⟩ = some (.int .i64 g) := cell_blk KB2.out 1
        clear hb2
        go_wp2
        go_ret2
        exact ⟨by rw [HV.out]; rfl, HB2.out⟩
      | true =>
        have HMY := Lib.hid hmy
        have HV : Hid (filW f.nodes u g s.data.toList want = (0, nd)) := Lib.hid (by unfold filW; rw [hfd]; simp [hc, hk2, hmy])
        subst hc
        clear hfd hmy
        go_enter Tryz.func30, Tryz.ntmps30
        go_wp2_with fail
        refine (l4Find_any f _ u g s true _ (HR.out.below HB0.out) HL.out.1 HL.out.2 (by omega)).mono ?_
        rintro e w1 ⟨rfl, hb1⟩
        rw [HFD.out]
        have HB1 := Lib.hid (HB0.out.trans (hb1.mono HB0.out.size))
        have KA1 := Lib.hid ((hb1.block w.heap.size (lt_of_heap KA0.out)).trans KA0.out)
        have KB1 := Lib.hid ((hb1.block (w.heap.size + 1) (lt_of_heap KB0.out)).trans KB0.out)
        have x1a : w1.cell? ⟨w.heap.size, 0, none⟩ = some (.slice o f.nodes.length c) := cell_blk KA1.out 0
        have x1b : w1.cell? ⟨w.heap.size, 1, none⟩ = some (.int .i64 f.room) := cell_blk KA1.out 1
        have y1a : w1.cell? ⟨w.heap.size + 1, 0, none⟩ = some (.int .i64 u) := cell_blk KB1.out 0
        have y1b : w1.cell? ⟨w.heap.size + 1, 1, none⟩ = some (.int .i64 g) := cell_blk KB1.out 1
        clear hb1
        obtain ⟨g3, f3, lv3, e3, hcc, hee⟩ := nod_cells (c := c) HH.out hlt HB1.out
        obtain ⟨d0, d1, d2, d3, d4, d5, d6⟩ := hcc
        subst e3
        clear hee
        go_wp2_with fail
        refine ((l4May_any f _ u g nd want _ (HR.out.below HB1.out) hlt HMO.out hl)).mono ?_
        rintro e w2 ⟨rfl, hb2⟩
        rw [HMY.out]
        have HB2 := Lib.hid (HB1.out.trans (hb2.mono HB1.out.size))
        have KA2 := Lib.hid ((hb2.block w.heap.size (lt_of_heap KA1.out)).trans KA1.out)
        have KB2 := Lib.hid ((hb2.block (w.heap.size + 1) (lt_of_heap KB1.out)).trans KB1.out)
        have x2a : w2.cell? ⟨w.heap.size, 0, none⟩ = some (.slice (some ⟨g3, f3, none⟩) f.nodes.length c) := cell_blk KA2.out 0
        have x2b : w2.cell? ⟨w.heap.size, 1, none⟩ = some (.int .i64 f.room) := cell_blk KA2.out 1
        have y2a : w2.cell? ⟨w.heap.size + 1, 0, none⟩ = some (.int .i64 u) := cell_blk KB2.out 0
        have y2b : w2.cell? ⟨w.heap.size + 1, 1, none⟩ = some (.int .i64 g) := cell_blk KB2.out 1
        clear hb2
        go_wp2
        go_ret2
        exact ⟨by rw [HV.out]; rfl, HB2.out⟩
  · have HV : Hid (filW f.nodes u g s.data.toList want = (cd, 0)) := Lib.hid (by unfold filW; rw [hfd]; simp [hc])
    have cb : (cd == 0) = false := beq_eq_false_iff_ne.2 hc
    have cc : (cd != 0) = true := by rw [bne_iff_ne]; exact hc
    clear hfd
    go_enter Tryz.func30, Tryz.ntmps30
    go_wp2_with fail
    refine (l4Find_any f _ u g s true _ (HR.out.below HB0.out) HL.out.1 HL.out.2 (by omega)).mono ?_
    rintro e w1 ⟨rfl, hb1⟩
    rw [HFD.out]
    have HB1 := Lib.hid (HB0.out.trans (hb1.mono HB0.out.size))
    have KA1 := Lib.hid ((hb1.block w.heap.size (lt_of_heap KA0.out)).trans KA0.out)
    have KB1 := Lib.hid ((hb1.block (w.heap.size + 1) (lt_of_heap KB0.out)).trans KB0.out)
    have x1a : w1.cell? ⟨w.heap.size, 0, none⟩ = some (.slice o f.nodes.length c) := cell_blk KA1.out 0
    have x1b : w1.cell? ⟨w.heap.size, 1, none⟩ = some (.int .i64 f.room) := cell_blk KA1.out 1
    have y1a : w1.cell? ⟨w.heap.size + 1, 0, none⟩ = some (.int .i64 u) := cell_blk KB1.out 0
    have y1b : w1.cell? ⟨w.heap.size + 1, 1, none⟩ = some (.int .i64 g) := cell_blk KB1.out 1
    clear hb1
    go_wp2
    go_ret2
    exact ⟨by rw [HV.out]; rfl, HB1.out⟩

/-- What ReadFile tells: a text and a code. -/
def rfT0 (ns : List Nod) (u g : Int) (l : List UInt8) : List UInt8 := if (filW ns u g l 4).1 = 0 then (nodeAt ns (filW ns u g l 4).2).data else []
noncomputable def rfT (f : FsD) (u g : Int) (l : List UInt8) : List UInt8 := if askB4 f u g = true then rfT0 f.nodes u g l else []
noncomputable def rfC (f : FsD) (u g : Int) (l : List UInt8) : Int := if askB4 f u g = true then (filW f.nodes u g l 4).1 else 0
set_option maxHeartbeats 4000000 in
theorem specReadFile_any (f : FsD) (v : Value) (u g : Int) (s : ByteArray) (w : World) (hR : FsA w v f) (hs : szF f ≤ 1048576) (hss : s.size ≤ 1048576) : Calls Tryz.prog 10 #[v, .agg #[.int .i64 u, .int .i64 g], .string s] w fun e w' => e = .returned (.tuple #[.string (bs (rfT f u g s.data.toList)), .int .i64 (rfC f u g s.data.toList), .bool (askB4 f u g)]) ∧ Below w.heap.size w w' := by
  have HR := Lib.hid hR
  obtain ⟨nv, rfl, hN⟩ := hR
  have HN := Lib.hid hN
  obtain ⟨o, c, rfl, hm, hH⟩ := hN
  have HH := Lib.hid hH
  unfold maxLen at hm
  have HS := Lib.hid hs
  have hl : f.nodes.length ≤ 1048576 := (lists_small hs).1
  have HB0 : Hid (Below w.heap.size w ((w.alloc (.cells #[.slice o f.nodes.length c, .int .i64 f.room] 32)).alloc (.cells #[.int .i64 u, .int .i64 g] 34))) := Lib.hid (((Below.refl _ _).alloc (Nat.le_refl _) _).alloc (by simp) _)
  have KA0 := Lib.hid (alloc3_fst' w (.cells #[.slice o f.nodes.length c, .int .i64 f.room] 32) (.cells #[.int .i64 u, .int .i64 g] 34))
  have KB0 := Lib.hid (alloc3_snd' w (.cells #[.slice o f.nodes.length c, .int .i64 f.room] 32) (.cells #[.int .i64 u, .int .i64 g] 34))
  clear hH hs
  by_cases hk : askB4 f u g = true
  · have HK := Lib.hid hk
    have HGD := Lib.hid (ask_good hk)
    have HL := Lib.hid (look_of (ask_good hk) HS.out)
    obtain ⟨⟨cd, nd⟩, hfd⟩ : ∃ q, filW f.nodes u g s.data.toList 4 = q := ⟨_, rfl⟩
    have hlt : nd < f.nodes.length := by have h7 := filW_lt HL.out.1 u g s.data.toList 4; rw [hfd] at h7; exact h7
    have HFD := Lib.hid hfd
    by_cases hc : cd = 0
    · have HV : Hid (rfT f u g s.data.toList = (nodeAt f.nodes nd).data ∧ rfC f u g s.data.toList = 0) := Lib.hid (by unfold rfT rfC rfT0; rw [if_pos hk, if_pos hk, hfd]; simp [hc])
      subst hc
      clear hk hfd
      go_enter Tryz.func10, Tryz.ntmps10
      go_wp2_with fail
      refine (l4Asked_any f _ u g _ (HR.out.below HB0.out) HS.out).mono ?_
      rintro e w1 ⟨rfl, hb1⟩
      rw [HK.out]
      have HB1 := Lib.hid (HB0.out.trans (hb1.mono HB0.out.size))
      have KA1 := Lib.hid ((hb1.block w.heap.size (lt_of_heap KA0.out)).trans KA0.out)
      have KB1 := Lib.hid ((hb1.block (w.heap.size + 1) (lt_of_heap KB0.out)).trans KB0.out)
      have x1a : w1.cell? ⟨w.heap.size, 0, none⟩ = some (.slice o f.nodes.length c) := cell_blk KA1.out 0
      have x1b : w1.cell? ⟨w.heap.size, 1, none⟩ = some (.int .i64 f.room) := cell_blk KA1.out 1
      have y1a : w1.cell? ⟨w.heap.size + 1, 0, none⟩ = some (.int .i64 u) := cell_blk KB1.out 0
      have y1b : w1.cell? ⟨w.heap.size + 1, 1, none⟩ = some (.int .i64 g) := cell_blk KB1.out 1
      clear hb1
      go_wp2_with fail
      refine (l6File_any f _ u g s 4 _ (HR.out.below HB1.out) HS.out hss HGD.out).mono ?_
      rintro e w2 ⟨rfl, hb2⟩
      rw [HFD.out]
      have HB2 := Lib.hid (HB1.out.trans (hb2.mono HB1.out.size))
      have KA2 := Lib.hid ((hb2.block w.heap.size (lt_of_heap KA1.out)).trans KA1.out)
      have KB2 := Lib.hid ((hb2.block (w.heap.size + 1) (lt_of_heap KB1.out)).trans KB1.out)
      have x2a : w2.cell? ⟨w.heap.size, 0, none⟩ = some (.slice o f.nodes.length c) := cell_blk KA2.out 0
      have x2b : w2.cell? ⟨w.heap.size, 1, none⟩ = some (.int .i64 f.room) := cell_blk KA2.out 1
      have y2a : w2.cell? ⟨w.heap.size + 1, 0, none⟩ = some (.int .i64 u) := cell_blk KB2.out 0
      have y2b : w2.cell? ⟨w.heap.size + 1, 1, none⟩ = some (.int .i64 g) := cell_blk KB2.out 1
      clear hb2
      obtain ⟨g3, f3, lv3, e3, hcc, hee⟩ := nod_cells (c := c) HH.out hlt HB2.out
      obtain ⟨d0, d1, d2, d3, d4, d5, d6⟩ := hcc
      subst e3
      clear hee
      go_wp2
      go_ret3
      exact ⟨by rw [HV.out.1, HV.out.2, HK.out]; rfl, HB2.out⟩
    · have HV : Hid (rfT f u g s.data.toList = [] ∧ rfC f u g s.data.toList = cd) := Lib.hid (by unfold rfT rfC rfT0; rw [if_pos hk, if_pos hk, hfd]; simp [hc])
      have cb : (cd == 0) = false := beq_eq_false_iff_ne.2 hc
      have cc : (cd != 0) = true := by rw [bne_iff_ne]; exact hc
      clear hk hfd
      go_enter Tryz.func10, Tryz.ntmps10
      go_wp2_with fail
      refine (l4Asked_any f _ u g _ (HR.out.below HB0.out) HS.out).mono ?_
      rintro e w1 ⟨rfl, hb1⟩
      rw [HK.out]
      have HB1 := Lib.hid (HB0.out.trans (hb1.mono HB0.out.size))
      have KA1 := Lib.hid ((hb1.block w.heap.size (lt_of_heap KA0.out)).trans KA0.out)
      have KB1 := Lib.hid ((hb1.block (w.heap.size + 1) (lt_of_heap KB0.out)).trans KB0.out)
      have x1a : w1.cell? ⟨w.heap.size, 0, none⟩ = some (.slice o f.nodes.length c) := cell_blk KA1.out 0
      have x1b : w1.cell? ⟨w.heap.size, 1, none⟩ = some (.int .i64 f.room) := cell_blk KA1.out 1
      have y1a : w1.cell? ⟨w.heap.size + 1, 0, none⟩ = some (.int .i64 u) := cell_blk KB1.out 0
      have y1b : w1.cell? ⟨w.heap.size + 1, 1, none⟩ = some (.int .i64 g) := cell_blk KB1.out 1
      clear hb1
      go_wp2_with fail
      refine (l6File_any f _ u g s 4 _ (HR.out.below HB1.out) HS.out hss HGD.out).mono ?_
      rintro e w2 ⟨rfl, hb2⟩
      rw [HFD.out]
      have HB2 := Lib.hid (HB1.out.trans (hb2.mono HB1.out.size))
      have KA2 := Lib.hid ((hb2.block w.heap.size (lt_of_heap KA1.out)).trans KA1.out)
      have KB2 := Lib.hid ((hb2.block (w.heap.size + 1) (lt_of_heap KB1.out)).trans KB1.out)
      have x2a : w2.cell? ⟨w.heap.size, 0, none⟩ = some (.slice o f.nodes.length c) := cell_blk KA2.out 0
      have x2b : w2.cell? ⟨w.heap.size, 1, none⟩ = some (.int .i64 f.room) := cell_blk KA2.out 1
      have y2a : w2.cell? ⟨w.heap.size + 1, 0, none⟩ = some (.int .i64 u) := cell_blk KB2.out 0
      have y2b : w2.cell? ⟨w.heap.size + 1, 1, none⟩ = some (.int .i64 g) := cell_blk KB2.out 1
      clear hb2
      go_wp2
      go_ret3
      exact ⟨by rw [HV.out.1, HV.out.2, HK.out]; rfl, HB2.out⟩
  · have HK : Hid (askB4 f u g = false) := Lib.hid (by simpa using hk)
    have HV : Hid (rfT f u g s.data.toList = [] ∧ rfC f u g s.data.toList = 0) := Lib.hid (by unfold rfT rfC; rw [HK.out]; exact ⟨rfl, rfl⟩)
    clear hk
    go_enter Tryz.func10, Tryz.ntmps10
    go_wp2_with fail
    refine (l4Asked_any f _ u g _ (HR.out.below HB0.out) HS.out).mono ?_
    rintro e w1 ⟨rfl, hb1⟩
    rw [HK.out]
    have HB1 := Lib.hid (HB0.out.trans (hb1.mono HB0.out.size))
    have KA1 := Lib.hid ((hb1.block w.heap.size (lt_of_heap KA0.out)).trans KA0.out)
    have KB1 := Lib.hid ((hb1.block (w.heap.size + 1) (lt_of_heap KB0.out)).trans KB0.out)
    have x1a : w1.cell? ⟨w.heap.size, 0, none⟩ = some (.slice o f.nodes.length c) := cell_blk KA1.out 0
    have x1b : w1.cell? ⟨w.heap.size, 1, none⟩ = some (.int .i64 f.room) := cell_blk KA1.out 1
    have y1a : w1.cell? ⟨w.heap.size + 1, 0, none⟩ = some (.int .i64 u) := cell_blk KB1.out 0
    have y1b : w1.cell? ⟨w.heap.size + 1, 1, none⟩ = some (.int .i64 g) := cell_blk KB1.out 1
    clear hb1
    go_wp2
    go_ret3
    exact ⟨by rw [HV.out.1, HV.out.2, HK.out]; rfl, HB1.out⟩
end Go.Proofs.YtbmbbioanlcioaaGreatDoor


/-
  The walks of impl.partsIn and of its closure.
  Conditions: a text's length is a length.
-/
namespace Go.Proofs.YtbmbbioanlcioaaGreatDoor
open Go.RowKit Go.Shelf
set_option linter.unusedVariables false
attribute [local go_sem] Oper.semAt_some

set_option maxHeartbeats 1000000 in
theorem partsIn_in (F : Fence) (n : Nat) (hf : F.fn 114) (hro : F.round = none) (s : ByteArray) (w : World) :
    CallsIn F n Tryz.prog 114 #[.string s] w fun e w' => e = .returned (.func (.func 135) #[] #[.pointer (some ⟨w.heap.size, 0, none⟩)]) ∧ w' = w.alloc (.cells #[.string s] 9) := by
  refine callsIn_of_wp Tryz.func114 rfl hf ?_ hro
  simp only [Tryz.ntmps114, List.size_toArray, List.length_cons, List.length_nil, Nat.reduceAdd, Nat.reduceSub, Array.replicate_succ, Array.replicate_zero, List.push_toArray, List.append_toArray, List.nil_append, List.cons_append]
  gi_wp2
  go_ret
  exact ⟨rfl, rfl⟩

set_option maxRecDepth 100000 in
set_option maxHeartbeats 2000000 in
theorem iter_in (F : Fence) (n : Nat) (hf : F.fn 135) (hro : F.round = none) (hn : 1 ≤ n) (l b : Nat) (s : ByteArray) (hs : s.size ≤ maxLen) (J Jx : List ByteArray → World → Prop) (W : World) (hJ : AbidesFrom W.heap.size J)
    (hY : ∀ pre x W1, J pre W1 → pre.length < (parts s.data.toList).length → YieldAt F (n - 1) Tryz.prog l #[.string x] W1 fun e W' =>
      (e = .returned (.bool true) ∧ J (pre ++ [x]) W' ∧ KpB b W1 W') ∨ (e = .returned (.bool false) ∧ Jx (pre ++ [x]) W'))
    (hB : W.cell? ⟨b, 0, none⟩ = some (.string s)) (h0 : J [] W) :
    CallsIn F n Tryz.prog 135 #[.func (.yield l) #[] #[], .pointer (some ⟨b, 0, none⟩)] W fun e W' => (∃ v, e = .returned v) ∧
      ((∃ ys, ys = (parts s.data.toList).map bs ∧ J ys W') ∨ (∃ pre, pre <+: (parts s.data.toList).map bs ∧ Jx pre W')) := by
  unfold maxLen at hs
  refine callsIn_of_wp Tryz.func135 rfl hf ?_ hro
  simp only [Tryz.ntmps135, List.size_toArray, List.length_cons, List.length_nil, Nat.reduceAdd, Nat.reduceSub, Array.replicate_succ, Array.replicate_zero, List.push_toArray, List.append_toArray, List.nil_append, List.cons_append]
  gi_wp2
  gi_loopw [3] (fun f wr => ∃ (pos frm : Nat), f = .int .i64 frm ∧ Cut s pos frm ∧ wr.heap[W.heap.size]? = some (.stringIter s pos) ∧ wr.cell? ⟨b, 0, none⟩ = some (.string s) ∧ J ((given s pos).map bs) wr)
    (fun _ wr => s.size - wr.iterPos W.heap.size)
  case atStart =>
    refine ⟨0, 0, rfl, Cut.start s, ?_, ?_, ?_⟩
    · exact World.iter_heap W s 0
    · exact (World.cell?_of_block (a := ⟨b, 0, none⟩) (Below.heap_alloc W _ b (World.block_lt_of_cell? W _ hB))).trans hB
    · rw [given_start]
      exact hJ [] W _ none h0 (World.grownBy_alloc W _ none) (fun r e => by cases e)
  case round =>
    obtain ⟨pos, frm, rfl, hC, hit, hcell, hj⟩ := hrel
    have HC := Lib.hid hC
    have htop := hC.top
    have hle := hC.le
    clear hC
    by_cases hp : pos < s.size
    · by_cases h47 : (Utf8.decode s pos).1 = 47
      · obtain ⟨hb47, hw1⟩ := slash_byte hp h47
        have hnx : ∀ ty, (Instr.next (.pointer (some ⟨W.heap.size, 0, none⟩)) true ty).run Tryz.prog wr = .ok (.tuple #[.bool true, .int .i64 pos, .int .i32 47]) (wr.iterAt W.heap.size s (pos + 1)) := by
          intro ty
          rw [Lib.run_next_any_at wr W.heap.size s pos ty hit hp, h47, hw1]
          rfl
        have hit2 := Lib.iterAt_heap wr W.heap.size s pos (pos + 1) hit
        have hcell2 := cell_iterAt hit hcell (pos + 1)
        have hj2 := abides_next hJ hj hit (Nat.le_refl _) (pos + 1)
        have HS := Lib.hid (HC.out.slash hp hb47).1
        have HM : Hid (wr.iterPos W.heap.size = pos) := Lib.hid (by simp [World.iterPos, hit])
        by_cases hlt : frm < pos
        · have HG := Lib.hid (HC.out.gives hp hb47 hlt)
          have hpre : (given s pos).length < (parts s.data.toList).length := len_of_prefix (by rw [← HG.out]; exact given_prefix s (pos + 1))
          have HX : Hid (s.extract frm pos = bs ((s.data.toList.take pos).drop frm)) := Lib.hid (bs_ext s frm pos)
          obtain ⟨fn, tmps, assign, body, hy, hR⟩ := hY ((given s pos).map bs) (s.extract frm pos) _ hj2 (by simpa using hpre)
          clear hb47 hw1 h47
          have HIT := Lib.hid hit2
          clear hit hit2
          gi_wp2
          refine hR.mono ?_
          rintro e W3 (⟨rfl, hJ3, hk3⟩ | ⟨rfl, hJx3⟩)
          · have hc3 : W3.cell? ⟨b, 0, none⟩ = some (.string s) := hk3.2.trans hcell2
            gi_wp2
            go_roundw
            case rel =>
              refine ⟨pos + 1, pos + 1, by go_num, HS.out, hk3.1.same _ _ HIT.out rfl, hc3, ?_⟩
              rw [HG.out, List.map_append, List.map_cons, List.map_nil, ← HX.out]
              exact hJ3
            case measure =>
              have : W3.iterPos W.heap.size = pos + 1 := by simp [World.iterPos, hk3.1.same _ _ HIT.out rfl]
              rw [HM.out, this]; omega
          · gi_wp2
            refine bodyPost_ret (results_none rfl _ _ _) rfl ?_
            refine ⟨⟨_, rfl⟩, .inr ⟨_, ?_, hJx3⟩⟩
            have := map_prefix (given_prefix s (pos + 1))
            rw [HG.out, List.map_append, List.map_cons, List.map_nil, ← HX.out] at this
            exact this
        · have HG := Lib.hid (HC.out.skips hp hb47 hlt)
          clear hb47 hw1 h47
          have HIT := Lib.hid hit2
          clear hit hit2
          gi_wp2
          refine ⟨fun _ h => (by cases h), ?_⟩
          gi_wp2
          go_roundw
          case rel => exact ⟨pos + 1, pos + 1, by go_num, HS.out, HIT.out, hcell2, by rw [HG.out]; exact hj2⟩
          case measure =>
            have : (wr.iterAt W.heap.size s (pos + 1)).iterPos W.heap.size = pos + 1 := by simp [World.iterPos, HIT.out]
            rw [HM.out, this]; omega
      · obtain ⟨HR, HG⟩ := HC.out.rune hp h47
        have hd := decode_bytes s pos hp
        have hdl := decode_le s pos
        obtain ⟨r, hr⟩ : ∃ r, r = (Utf8.decode s pos).1 := ⟨_, rfl⟩
        obtain ⟨wd, hwd⟩ : ∃ wd, wd = (Utf8.decode s pos).2 := ⟨_, rfl⟩
        have hnx : ∀ ty, (Instr.next (.pointer (some ⟨W.heap.size, 0, none⟩)) true ty).run Tryz.prog wr = .ok (.tuple #[.bool true, .int .i64 pos, .int .i32 (r : Int)]) (wr.iterAt W.heap.size s (pos + wd)) := by
          intro ty
          rw [hr, hwd]
          exact Lib.run_next_any_at wr W.heap.size s pos ty hit hp
        rw [← hr] at h47 hdl
        rw [← hwd] at HR HG hd
        have hne : ((r : Int) != 47) = true := by simp; omega
        have HR' := Lib.hid HR
        have HG' := Lib.hid HG
        obtain ⟨hd1, hd2, _⟩ := hd
        clear HR HG hr hwd
        have hit2 := Lib.iterAt_heap wr W.heap.size s pos (pos + wd) hit
        have hcell2 := cell_iterAt hit hcell (pos + wd)
        have hj2 := abides_next hJ hj hit (Nat.le_refl _) (pos + wd)
        have HM : Hid (wr.iterPos W.heap.size = pos) := Lib.hid (by simp [World.iterPos, hit])
        have HIT := Lib.hid hit2
        clear hit hit2
        gi_wp2
        go_roundw
        case rel => exact ⟨pos + wd, frm, rfl, HR'.out, HIT.out, hcell2, by rw [HG'.out]; exact hj2⟩
        case measure =>
          have : (wr.iterAt W.heap.size s (pos + wd)).iterPos W.heap.size = pos + wd := by simp [World.iterPos, HIT.out]
          rw [HM.out, this]; omega
    · obtain rfl : pos = s.size := by omega
      have hnx : ∀ ty, (Instr.next (.pointer (some ⟨W.heap.size, 0, none⟩)) true ty).run Tryz.prog wr = _ := fun ty => Lib.run_next_end_at wr W.heap.size s s.size ty hit hp
      clear hit
      by_cases hlt : frm < s.size
      · have HG := Lib.hid (HC.out.last hlt)
        have hpre : (given s s.size).length < (parts s.data.toList).length := by rw [HG.out]; simp
        have HX : Hid (s.extract frm s.size = bs ((s.data.toList.take s.size).drop frm)) := Lib.hid (bs_ext s frm s.size)
        obtain ⟨fn, tmps, assign, body, hy, hR⟩ := hY ((given s s.size).map bs) (s.extract frm s.size) _ hj (by simpa using hpre)
        gi_wp2
        refine hR.mono ?_
        rintro e W3 (⟨rfl, hJ3, hk3⟩ | ⟨rfl, hJx3⟩)
        · gi_wp2
          go_end0
          refine ⟨⟨_, rfl⟩, .inl ⟨_, rfl, ?_⟩⟩
          rw [HG.out, List.map_append, List.map_cons, List.map_nil, ← HX.out]
          exact hJ3
        · gi_wp2
          go_end0
          refine ⟨⟨_, rfl⟩, .inr ⟨_, ?_, hJx3⟩⟩
          rw [HG.out, List.map_append, List.map_cons, List.map_nil, ← HX.out]
          exact List.prefix_refl _
      · have HG := Lib.hid (HC.out.ended hlt)
        gi_wp2
        go_end0
        exact ⟨⟨_, rfl⟩, .inl ⟨_, rfl, by rw [HG.out]; exact hj⟩⟩

theorem iter_stops (F : Fence) (n : Nat) (hf : F.fn 135) (hro : F.round = none) (hn : 1 ≤ n) (b : Nat) (s : ByteArray) (hs : s.size ≤ maxLen) (w : World) (hb : b < w.heap.size) (hc : w.cell? ⟨b, 0, none⟩ = some (.string s)) :
    SeqStopsK F n Tryz.prog 135 #[.pointer (some ⟨b, 0, none⟩)] (fun x : ByteArray => #[Value.string x]) (KpB b) (fun ys => ys = (parts s.data.toList).map bs) (fun pre => pre <+: (parts s.data.toList).map bs) (parts s.data.toList).length w := fun l J Jx W hW hJ _ hY h0 =>
  iter_in F n hf hro hn l b s hs J Jx W hJ hY ((hW.cell (p := ⟨b, 0, none⟩) hb).trans hc) h0
end Go.Proofs.YtbmbbioanlcioaaGreatDoor


/-
  The contract of impl.GoodPath.
  Conditions: a text's length is a length.
-/
namespace Go.Proofs.YtbmbbioanlcioaaGreatDoor
open Go.RowKit Go.Shelf
set_option linter.unusedVariables false
attribute [local go_sem] Oper.semAt_some

theorem good_no {l : List UInt8} (h : ¬ (1 ≤ l.length ∧ l.length ≤ 60)) : goodB l = false := by simp [goodB, h]
theorem good_in {l : List UInt8} (h : 1 ≤ l.length ∧ l.length ≤ 60) : goodB l = (parts l).all partB := by simp [goodB, h]
theorem boxed_below {W W' : World} {b : Nat} {t : TypeId} {v : Value} (h : Boxed W b t v) (hb : Below W.heap.size W W') : Boxed W' b t v := (hb.block b h.lt).trans h
theorem all_bs (ps : List (List UInt8)) : (ps.map bs).all (fun x => partB x.data.toList) = ps.all partB := by
  induction ps with
  | nil => rfl
  | cons p r ih => simp only [List.map_cons, List.all_cons, ih, bs_list]

set_option maxRecDepth 100000 in
set_option maxHeartbeats 2000000 in
theorem goodPath_any (s : ByteArray) (w : World) (hs : s.size ≤ maxLen) : Calls Tryz.prog 111 #[.string s] w fun e w' => e = .returned (.bool (goodB s.data.toList)) ∧ Below w.heap.size w w' := by
  have hl : s.data.toList.length = s.size := len_size s
  have HS := Lib.hid hs
  unfold maxLen at hs
  refine (callsIn_wide (n := 6)).1 ?_
  by_cases h1 : 1 ≤ s.size
  · by_cases h60 : s.size ≤ 60
    · have e0 : ¬ ((s.size : Int) < 1) := by omega
      have e8 : ¬ (60 < (s.size : Int)) := by omega
      have HP := Lib.hid (good_in (l := s.data.toList) (by omega))
      clear hl
      refine callsIn_of_wp_marks Tryz.func111 rfl trivial ?_ rfl
      simp only [Tryz.ntmps111, List.size_toArray, List.length_cons, List.length_nil, Nat.reduceAdd, Nat.reduceSub, Array.replicate_succ, Array.replicate_zero, List.push_toArray, List.append_toArray, List.nil_append, List.cons_append]
      gi_wp2_with (refine ⟨trivial, ?_⟩; gi_at_call 114; refine (partsIn_in Fence.wide _ trivial rfl _ _).mono ?_; rintro e w' ⟨rfl, rfl⟩)
      have bR := Boxed.new w 4 (.bool false)
      have bS := Boxed.new (w.alloc (.cells #[.bool false] 4)) 9 (.string s)
      rw [World.size_alloc] at bS
      have hB0 : Below w.heap.size w ((w.alloc (.cells #[.bool false] 4)).alloc (.cells #[.string s] 9)) := ((Below.refl _ w).alloc (Nat.le_refl _) _).alloc (by simp) _
      refine wpIn_rangeFunc_ownF rfl (by omega) (gf := 135) (lb := #[.pointer (some ⟨w.heap.size + 1, 0, none⟩)]) rfl trivial (enters_of Tryz.func135 (by kernel_rfl) rfl)
        (iter_stops Fence.wide (6 - 1) trivial rfl (by omega) (w.heap.size + 1) s HS.out _ (by simp) bS.cell) kpB_t (kpB_b (by simp)) (Below.refl _ _) (fun _ => rfl)
        (fun pre W => ((pre.all fun x => partB x.data.toList) = true ∧ Boxed W w.heap.size 4 (.bool false) ∧ Boxed W (w.heap.size + 1) 9 (.string s)) ∧ Below w.heap.size w W)
        (fun c pre W => (c = .ret ∧ (pre.all fun x => partB x.data.toList) = false ∧ Boxed W w.heap.size 4 (.bool false)) ∧ Below w.heap.size w W)
        (OwnFrom.and (OwnFrom.and (ownFrom_pure _ _) (OwnFrom.and (Own.from (boxed_own _ _ _) _) (Own.from (boxed_own _ _ _) _))) (ownFrom_below (Nat.le_refl _) (by simp; omega)))
        (fun c => OwnFrom.and (OwnFrom.and (ownFrom_pure _ (fun _ => c = .ret)) (OwnFrom.and (ownFrom_pure _ _) (Own.from (boxed_own _ _ _) _))) (ownFrom_below (Nat.le_refl _) (by simp; omega)))
        ⟨⟨rfl, bR.alloc _, bS⟩, hB0⟩
        ?a1 ?assign ?body ?done ?stop
      case assign =>
        intro l x W K hK
        gi_wp2
        exact hK
      case body =>
        rintro l pre x W ⟨⟨hp, hbx, hbs⟩, hB⟩ _
        have HPr := Lib.hid hp
        clear hp
        by_cases hx : partB x.data.toList = true
        · have HX := Lib.hid hx
          clear hx
          gi_wp2_with (refine ⟨trivial, ?_⟩; gi_at_call 133; refine (CallsIn.inRound l (callsIn_wide.2 (isPart_any _ _))).mono ?_; rintro e w' ⟨rfl, hb⟩; rw [HX.out])
          exact ⟨others_below hb, kpB_below (others_below hb) hb hbs.lt, ⟨by rw [List.all_append, HPr.out]; simp [HX.out], boxed_below hbx hb, boxed_below hbs hb⟩, hB.trans (hb.mono hB.size)⟩
        · have HX := Lib.hid (show partB x.data.toList = false by simpa using hx)
          clear hx
          gi_wp2_with (refine ⟨trivial, ?_⟩; gi_at_call 133; refine (CallsIn.inRound l (callsIn_wide.2 (isPart_any _ _))).mono ?_; rintro e w' ⟨rfl, hb⟩; rw [HX.out]; have hbx2 := boxed_below hbx hb; have hc := hbx2.cell; have hf := hbx2.frozen)
          exact ⟨(others_below hb).trans (KeepsOthers.setCell _ _ _), ⟨rfl, by rw [List.all_append]; simp [HX.out], (boxed_below hbx hb).set _⟩, (hB.trans (hb.mono hB.size)).setCell (p := ⟨w.heap.size, 0, none⟩) (Nat.le_refl _) _⟩
      case done =>
        rintro D ys W hD rfl ⟨⟨hp, hbx, hbs⟩, hB⟩ hK
        have HPr := Lib.hid hp
        clear hp
        have hc := hbx.cell
        have hf := hbx.frozen
        gi_wp2
        have hK' := (KeepsOthers.setCell W ⟨w.heap.size, 0, none⟩ (.bool true)).same D _ hK rfl
        refine ⟨by simp, .inl ⟨_, _, rfl, run_takeDeferred hK', ?_⟩⟩
        have hc5 := cell_kept (hbx.set (.bool true)).cell (grownBy_putObj' _ D (.deferred none)) (fun r e => by cases e; exact ⟨_, hK', rfl⟩)
        refine ⟨.bool true, ?_, ret_bool ?_, (hB.setCell (p := ⟨w.heap.size, 0, none⟩) (Nat.le_refl _) _).trans (belowK_b (w := w) (Nat.le_refl _) _ D _ _ (by simp at hD; omega) hK' rfl rfl)⟩
        · simp [results, Tryz.f111, go_sem, hc5]
        · rw [HP.out, ← all_bs, HPr.out]
      case stop =>
        rintro D c pre W hD hpre ⟨⟨rfl, hp, hbx⟩, hB⟩ hK
        have HPr := Lib.hid hp
        have HPx := Lib.hid hpre
        clear hp hpre
        gi_wp2
        refine ⟨by simp, .inl ⟨_, _, rfl, run_takeDeferred hK, ?_⟩⟩
        have hc5 := cell_kept hbx.cell (grownBy_putObj' _ D (.deferred none)) (fun r e => by cases e; exact ⟨_, hK, rfl⟩)
        refine ⟨.bool false, ?_, ret_bool ?_, hB.trans (belowK_b (w := w) (Nat.le_refl _) W D _ _ (by simp at hD; omega) hK rfl rfl)⟩
        · simp [results, Tryz.f111, go_sem, hc5]
        · rw [HP.out, ← all_bs]
          obtain ⟨t, ht⟩ := HPx.out
          rw [← ht, List.all_append, HPr.out, Bool.false_and]
    · have e0 : ¬ ((s.size : Int) < 1) := by omega
      have e8 : 60 < (s.size : Int) := by omega
      have HP := Lib.hid (good_no (l := s.data.toList) (by omega))
      clear hl
      refine callsIn_of_wp Tryz.func111 rfl trivial ?_ rfl
      simp only [Tryz.ntmps111, List.size_toArray, List.length_cons, List.length_nil, Nat.reduceAdd, Nat.reduceSub, Array.replicate_succ, Array.replicate_zero, List.push_toArray, List.append_toArray, List.nil_append, List.cons_append]
      gi_wp2
      exact bodyPost_ret (v := .bool false) (by simp [results, Tryz.results111, go_sem]) rfl ⟨ret_bool HP.out.symm, (Below.refl _ _).alloc (Nat.le_refl _) _⟩
  · have HP := Lib.hid (good_no (l := s.data.toList) (by omega))
    clear hl
    refine callsIn_of_wp Tryz.func111 rfl trivial ?_ rfl
    simp only [Tryz.ntmps111, List.size_toArray, List.length_cons, List.length_nil, Nat.reduceAdd, Nat.reduceSub, Array.replicate_succ, Array.replicate_zero, List.push_toArray, List.append_toArray, List.nil_append, List.cons_append]
    gi_wp2
    exact bodyPost_ret (v := .bool false) (by simp [results, Tryz.results111, go_sem]) rfl ⟨ret_bool HP.out.symm, (Below.refl _ _).alloc (Nat.le_refl _) _⟩
end Go.Proofs.YtbmbbioanlcioaaGreatDoor


/-
  Contracts of slices.AppendSeq and slices.Collect over impl.partsIn; of impl.isWhole, isWholePath, strings.HasSuffix at a slash.
  Conditions: a text of at most 2^30 bytes.
-/
namespace Go.Proofs.YtbmbbioanlcioaaGreatDoor
open Go.RowKit Go.Shelf
set_option linter.unusedVariables false
set_option linter.unusedSimpArgs false
attribute [local go_sem] Oper.semAt_some

def got (xs : List ByteArray) : List (List UInt8) := xs.map fun x => x.data.toList
theorem got_snoc (xs : List ByteArray) (x : ByteArray) : got (xs ++ [x]) = got xs ++ [x.data.toList] := by simp [got]
theorem got_parts (ps : List (List UInt8)) : got (ps.map bs) = ps := by
  unfold got
  rw [List.map_map]
  conv => rhs; rw [← List.map_id ps]
  exact List.map_congr_left fun p _ => bs_list p
theorem got_len (xs : List ByteArray) : (got xs).length = xs.length := by simp [got]

set_option maxRecDepth 100000 in
set_option maxHeartbeats 4000000 in
theorem appendSeq_any (s : ByteArray) (b : Nat) (w : World) (hs : s.size ≤ 1073741824) (hb : b < w.heap.size) (hc : w.cell? ⟨b, 0, none⟩ = some (.string s)) :
    Calls Tryz.prog 134 #[.slice none 0 0, .func (.func 135) #[] #[.pointer (some ⟨b, 0, none⟩)]] w fun e w' => ∃ v, e = .returned v ∧ Lst w' w.heap.size v (parts s.data.toList) ∧ Below w.heap.size w w' := by
  obtain ⟨i0, hi, hz0, hz1, hz2⟩ := info_parts strInfo
  have hpl := parts_le s.data.toList
  rw [len_size] at hpl
  refine (callsIn_wide (n := 6)).1 ?_
  refine callsIn_of_wp_marks Tryz.func134 rfl trivial ?_ rfl
  simp only [Tryz.ntmps134, List.size_toArray, List.length_cons, List.length_nil, Nat.reduceAdd, Nat.reduceSub, Array.replicate_succ, Array.replicate_zero, List.push_toArray, List.append_toArray, List.nil_append, List.cons_append]
  gi_wp2
  have bK := Boxed.new w 110 (.slice none 0 0)
  have hB0 : Below w.heap.size w (w.alloc (.cells #[.slice none 0 0] 110)) := (Below.refl _ w).alloc (Nat.le_refl _) _
  have hc0 : (w.alloc (.cells #[.slice none 0 0] 110)).cell? ⟨b, 0, none⟩ = some (.string s) := (hB0.cell (p := ⟨b, 0, none⟩) hb).trans hc
  refine wpIn_rangeFunc_ownF rfl (by omega) (gf := 135) (lb := #[.pointer (some ⟨b, 0, none⟩)]) rfl trivial (enters_of Tryz.func135 (by kernel_rfl) rfl)
    (iter_stops Fence.wide (6 - 1) trivial rfl (by omega) b s (by unfold maxLen; omega) _ (by simp; omega) hc0) kpB_t (kpB_b (by simp; omega)) (Below.refl _ _) (fun _ => rfl)
    (fun pre W => (∃ v, Boxed W w.heap.size 110 v ∧ W.ownsRow w.heap.size 9 1 v (got pre).length (strs (got pre)) ∧ True) ∧ Below w.heap.size w W)
    (fun _ _ _ => False)
    (OwnFrom.and (Own.from (holdsRow_own w.heap.size w.heap.size 110 9 1 (fun pre => (got pre).length) (fun pre => strs (got pre)) (fun _ _ => True)) _) (ownFrom_below (Nat.le_refl _) (by simp)))
    (fun _ _ _ _ _ hs _ _ => hs)
    ⟨⟨_, bK, World.ownsRow_nil _ _ _ _, trivial⟩, hB0⟩
    ?a1 ?assign ?body ?done ?stop
  case assign =>
    intro l x W K hK
    gi_wp2
    exact hK
  case body =>
    rintro l pre x W ⟨⟨v, hv, hrow, _⟩, hB⟩ hlt
    have hgl := got_len pre
    have HE := Lib.hid (got_snoc pre x)
    have hcK := hv.cell
    have hsW := hB.size
    obtain ⟨cs, hcs⟩ : ∃ cs, cs = got pre := ⟨_, rfl⟩
    rw [← hcs] at hrow hgl HE
    have hgl' : cs.length ≤ pre.length := by omega
    clear hgl hcs
    gi_wp2_with (gi_at_builtin; refine wpListIn_append_own _ rfl _ _ 110 rfl w.heap.size 9 i0 (.string ⟨#[]⟩) 1 16 Tryz.underlying110 hi hz0 hz1 hz2 rfl (by decide) _ _ _ rfl (hrow.alloc _) ⟨W.heap.size, 0, none⟩ 1 1 [.string x] rfl rfl (cell_one_new _ _ _) (by simp [Value.oneCell']) (by unfold maxLen; omega) (by omega) (by simp; omega) ?_; intro v' w1 hown' hgrow _; obtain ⟨g', cap', rfl⟩ := ownsRow_succ hown'; obtain ⟨hv1, hv2, hr2, hk2, hb2⟩ := hv.appended (by decide) hrow hB.size (Nat.le_refl _) hown' hgrow; have hcK1 := hv1.cell; have hfK1 := hv1.frozen)
    exact ⟨hk2, ⟨hk2.walks, hb2.cell (p := ⟨b, 0, none⟩) hb⟩, ⟨_, hv2, by rw [HE.out]; exact Lst.snoc (bs_of x).symm hr2, trivial⟩, hB.trans hb2⟩
  case done =>
    rintro D ys W hD rfl ⟨⟨v, hv, hrow, _⟩, hB⟩ hK
    have HR : Lst W w.heap.size v (parts s.data.toList) := by
      have h0 : Lst W w.heap.size v (got ((parts s.data.toList).map bs)) := hrow
      rwa [got_parts] at h0
    clear hrow
    have hc := hv.cell
    gi_wp2
    refine ⟨by simp, .inl ⟨_, _, rfl, run_takeDeferred hK, ?_⟩⟩
    exact ⟨_, results_tmp rfl _ _ _, v, rfl, ownsRow_putObj HR _ hK rfl, hB.trans (belowK_b (w := w) (Nat.le_refl _) W D _ _ (by simp at hD; omega) hK rfl rfl)⟩
  case stop =>
    rintro D c pre W _ _ h _
    exact h.elim

set_option maxHeartbeats 400000 in
theorem collect_any (s : ByteArray) (b : Nat) (w : World) (hs : s.size ≤ 1073741824) (hb : b < w.heap.size) (hc : w.cell? ⟨b, 0, none⟩ = some (.string s)) :
    Calls Tryz.prog 113 #[.func (.func 135) #[] #[.pointer (some ⟨b, 0, none⟩)]] w fun e w' => ∃ v, e = .returned v ∧ Lst w' w.heap.size v (parts s.data.toList) ∧ Below w.heap.size w w' := by
  go_enter Tryz.func113, Tryz.ntmps113
  go_wp2_with fail
  refine (appendSeq_any s b w hs hb hc).mono ?_
  rintro e w1 ⟨v, rfl, hL, hb1⟩
  go_wp2
  go_ret
  exact ⟨v, rfl, hL, hb1⟩


theorem whole_size {s : ByteArray} (h : 0 < s.size) : wholeB s.data.toList = decide ((s[0]'h) = 47) := by
  have hl := len_size s
  unfold wholeB
  have : s.data.toList.head? = some (s[0]'h) := by
    rw [List.head?_eq_getElem?, List.getElem?_eq_getElem (by omega)]
    rfl
  rw [this, Bool.eq_iff_iff]
  simp
theorem cut_one {s : ByteArray} (h : 0 < s.size) : ((s.extract 0 1).toList == [47]) = wholeB s.data.toList := by
  rw [whole_size h, ByteArray.toList_eq, Bool.eq_iff_iff]
  have hs : s.data.toList.length = s.size := len_size s
  have : (s.extract 0 1).data.toList = [s[0]'h] := by
    apply List.ext_getElem?
    intro i
    rcases i with _ | i
    · simp [ByteArray.data_extract, h]; rfl
    · simp [ByteArray.data_extract]; omega
  rw [this]
  simp
set_option maxHeartbeats 1000000 in
theorem isWhole_any (s : ByteArray) (w : World) : Calls Tryz.prog 110 #[.string s] w fun e w' => e = .returned (.bool (wholeB s.data.toList)) ∧ w = w' := by
  by_cases h0 : 0 < s.size
  · have HC := Lib.hid (cut_one h0)
    have h1 : (1 : Int) ≤ (s.size : Int) := by omega
    go_enter Tryz.func110, Tryz.ntmps110
    go_wp2
    go_ret
    exact ⟨by rw [← HC.out]; rfl, rfl⟩
  · have HE : Hid (wholeB s.data.toList = false) := Lib.hid (by
      have : s.data.toList = [] := List.eq_nil_of_length_eq_zero (by rw [len_size]; omega)
      rw [this]; rfl)
    have h1 : ¬ (1 : Int) ≤ (s.size : Int) := by omega
    go_enter Tryz.func110, Tryz.ntmps110
    go_wp2
    go_ret
    exact ⟨by rw [HE.out]; rfl, rfl⟩

set_option maxHeartbeats 400000 in
theorem isWholePath_any (s : ByteArray) (w : World) (hs : s.size ≤ 1073741824) : Calls Tryz.prog 81 #[.string s] w fun e w' => e = .returned (.bool (wgB s.data.toList)) ∧ Below w.heap.size w w' := by
  by_cases hw : wholeB s.data.toList = true
  · have HW := Lib.hid hw
    have HE : Hid (wgB s.data.toList = goodB s.data.toList) := Lib.hid (by simp [wgB, hw])
    clear hw
    go_enter Tryz.func81, Tryz.ntmps81
    go_wp2_with fail
    refine (isWhole_any _ _).mono ?_
    rintro e w1 ⟨rfl, rfl⟩
    rw [HW.out]
    go_wp2_with fail
    refine (goodPath_any _ _ (by unfold maxLen; omega)).mono ?_
    rintro e w2 ⟨rfl, hb⟩
    go_wp2
    go_ret
    exact ⟨ret_bool HE.out.symm, hb⟩
  · have HW := Lib.hid (show wholeB s.data.toList = false by simpa using hw)
    have HE : Hid (wgB s.data.toList = false) := Lib.hid (by simp [wgB, HW.out])
    clear hw
    go_enter Tryz.func81, Tryz.ntmps81
    go_wp2_with fail
    refine (isWhole_any _ _).mono ?_
    rintro e w1 ⟨rfl, rfl⟩
    rw [HW.out]
    go_wp2
    go_ret
    exact ⟨ret_bool HE.out.symm, Below.refl _ _⟩

theorem cut_last {s : ByteArray} (h : 0 < s.size) : ((s.extract (s.size - 1) s.size).toList == [47]) = slashB s.data.toList := by
  rw [slash_at h, ByteArray.toList_eq, Bool.eq_iff_iff]
  have hs : s.data.toList.length = s.size := len_size s
  have : (s.extract (s.size - 1) s.size).data.toList = [s[s.size - 1]'(by omega)] := by
    apply List.ext_getElem?
    intro i
    rcases i with _ | i
    · have h2 : s.size - 1 < s.data.size := by have : s.data.size = s.size := rfl; omega
      have h3 : (s[s.size - 1]'(by omega)) = s.data.toList[s.size - 1]'(by omega) := rfl
      rw [h3]
      simp [ByteArray.data_extract, List.getElem?_take, List.getElem?_drop, h]
      omega
    · have h2 : s.data.size = s.size := rfl
      simp [ByteArray.data_extract]; omega
  rw [this]
  simp
set_option maxHeartbeats 1000000 in
theorem hasSlash_any (s : ByteArray) (w : World) (h0 : 0 < s.size) (hs : s.size ≤ 1073741824) : Calls Tryz.prog 82 #[.string s, .string ⟨#[47]⟩] w fun e w' => e = .returned (.bool (slashB s.data.toList)) ∧ w = w' := by
  have HC := Lib.hid (cut_last h0)
  have h1 : (1 : Int) ≤ (s.size : Int) := by omega
  go_enter Tryz.func82, Tryz.ntmps82
  go_wp2
  go_ret
  exact ⟨by rw [← HC.out]; rfl, rfl⟩
end Go.Proofs.YtbmbbioanlcioaaGreatDoor


/-
  Contracts of the program's tests of one node: isRoom, isTime, isMode, isId, what all inodes have, the four kinds' isGood, isGoodEntry, isGoodNode.
  Conditions: the node's cells read as plain data; a list of at most 2^20 entries.
-/
namespace Go.Proofs.YtbmbbioanlcioaaGreatDoor
open Go.ChangeShapes Go.WideShapes Go.ChangeAt Go.RowKit Go.Joins
set_option linter.unusedVariables false
set_option linter.unusedSimpArgs false

section
set_option maxHeartbeats 400000
theorem isRoom_any (n : Int) (w : World) : Calls Tryz.prog 96 #[.int .i64 n] w fun e w' => e = .returned (.bool (inB 0 1000 n)) ∧ w = w' := by
  by_cases h0 : 0 ≤ n
  · by_cases h1 : n ≤ 1000
    · go_enter Tryz.func96, Tryz.ntmps96
      go_wp2
      go_ret
      exact ⟨ret_bool (inB_mk h0 h1), rfl⟩
    · go_enter Tryz.func96, Tryz.ntmps96
      go_wp2
      go_ret
      exact ⟨ret_bool (inB_no (by omega)), rfl⟩
  · go_enter Tryz.func96, Tryz.ntmps96
    go_wp2
    go_ret
    exact ⟨ret_bool (inB_no (by omega)), rfl⟩
theorem isTime_any (n : Int) (w : World) : Calls Tryz.prog 59 #[.int .i64 n] w fun e w' => e = .returned (.bool (inB 0 1000000 n)) ∧ w = w' := by
  by_cases h0 : 0 ≤ n
  · by_cases h1 : n ≤ 1000000
    · go_enter Tryz.func59, Tryz.ntmps59
      go_wp2
      go_ret
      exact ⟨ret_bool (inB_mk h0 h1), rfl⟩
    · go_enter Tryz.func59, Tryz.ntmps59
      go_wp2
      go_ret
      exact ⟨ret_bool (inB_no (by omega)), rfl⟩
  · go_enter Tryz.func59, Tryz.ntmps59
    go_wp2
    go_ret
    exact ⟨ret_bool (inB_no (by omega)), rfl⟩
theorem isModeN_any (n : Int) (w : World) : Calls Tryz.prog 49 #[.int .i64 n] w fun e w' => e = .returned (.bool (inB 0 511 n)) ∧ w = w' := by
  by_cases h0 : 0 ≤ n
  · by_cases h1 : n ≤ 511
    · go_enter Tryz.func49, Tryz.ntmps49
      go_wp2
      go_ret
      exact ⟨ret_bool (inB_mk h0 h1), rfl⟩
    · go_enter Tryz.func49, Tryz.ntmps49
      go_wp2
      go_ret
      exact ⟨ret_bool (inB_no (by omega)), rfl⟩
  · go_enter Tryz.func49, Tryz.ntmps49
    go_wp2
    go_ret
    exact ⟨ret_bool (inB_no (by omega)), rfl⟩
theorem isIdN_any (n : Int) (w : World) : Calls Tryz.prog 88 #[.int .i64 n] w fun e w' => e = .returned (.bool (inB 0 99 n)) ∧ w = w' := by
  by_cases h0 : 0 ≤ n
  · by_cases h1 : n ≤ 99
    · go_enter Tryz.func88, Tryz.ntmps88
      go_wp2
      go_ret
      exact ⟨ret_bool (inB_mk h0 h1), rfl⟩
    · go_enter Tryz.func88, Tryz.ntmps88
      go_wp2
      go_ret
      exact ⟨ret_bool (inB_no (by omega)), rfl⟩
  · go_enter Tryz.func88, Tryz.ntmps88
    go_wp2
    go_ret
    exact ⟨ret_bool (inB_no (by omega)), rfl⟩
end

def attrB (q : Nod) : Bool := inB 0 511 q.mode && (inB 0 99 q.uid && (inB 0 99 q.gid && inB 0 1000000 q.time))
def noneB (q : Nod) : Bool := q.mode == 0 && (q.uid == 0 && (q.gid == 0 && q.time == 0))

set_option maxHeartbeats 1000000 in
theorem hasAttr_any (q : Nod) (lv : Value) (g p : Nat) (w : World) (hg : g < w.heap.size) (hc : NodC w g p lv q) : Calls Tryz.prog 140 #[.agg #[.pointer (some ⟨g, p, none⟩)]] w fun e w' => e = .returned (.bool (attrB q)) ∧ Below w.heap.size w w' := by
  have hB : ∀ o, Below w.heap.size w (w.alloc o) := fun o => (Below.refl _ _).alloc (Nat.le_refl _) _
  have HB := Lib.hid hB
  obtain ⟨d0, d1, d2, d3, d4, d5, d6⟩ := hc.below (hB (.cells #[.pointer (some ⟨g, p, none⟩)] 168)) hg
  clear hB
  go_enter Tryz.func140, Tryz.ntmps140
  go_wp2_with (first | (go_at_call 49; refine (isModeN_any _ _).mono ?_; rintro e w' ⟨rfl, rfl⟩) | (go_at_call 88; refine (isIdN_any _ _).mono ?_; rintro e w' ⟨rfl, rfl⟩) | (go_at_call 59; refine (isTime_any _ _).mono ?_; rintro e w' ⟨rfl, rfl⟩))
  all_goals
    go_ret
    refine ⟨ret_bool ?_, HB.out _⟩
    simp [attrB, *]

set_option maxHeartbeats 1000000 in
theorem hasNone_any (q : Nod) (lv : Value) (g p : Nat) (w : World) (hg : g < w.heap.size) (hc : NodC w g p lv q) : Calls Tryz.prog 137 #[.agg #[.pointer (some ⟨g, p, none⟩)]] w fun e w' => e = .returned (.bool (noneB q)) ∧ Below w.heap.size w w' := by
  have hB : ∀ o, Below w.heap.size w (w.alloc o) := fun o => (Below.refl _ _).alloc (Nat.le_refl _) _
  have HB := Lib.hid hB
  obtain ⟨d0, d1, d2, d3, d4, d5, d6⟩ := hc.below (hB (.cells #[.pointer (some ⟨g, p, none⟩)] 168)) hg
  clear hB
  go_enter Tryz.func137, Tryz.ntmps137
  go_wp2
  all_goals
    go_ret
    refine ⟨ret_bool ?_, HB.out _⟩
    simp [noneB, *]

theorem len_pos {l : List UInt8} : (decide (0 < (bs l).size)) = !l.isEmpty := by
  rw [bs_size]
  cases l <;> simp

set_option maxHeartbeats 1000000 in
theorem hasData_any (q : Nod) (lv : Value) (g p : Nat) (w : World) (hg : g < w.heap.size) (hc : NodC w g p lv q) : Calls Tryz.prog 138 #[.agg #[.pointer (some ⟨g, p, none⟩)]] w fun e w' => e = .returned (.bool (!q.data.isEmpty)) ∧ Below w.heap.size w w' := by
  have hB : ∀ o, Below w.heap.size w (w.alloc o) := fun o => (Below.refl _ _).alloc (Nat.le_refl _) _
  have HB := Lib.hid hB
  obtain ⟨d0, d1, d2, d3, d4, d5, d6⟩ := hc.below (hB (.cells #[.pointer (some ⟨g, p, none⟩)] 168)) hg
  have HL := Lib.hid (len_pos (l := q.data))
  clear hB
  go_enter Tryz.func138, Tryz.ntmps138
  go_wp2
  all_goals
    go_ret
    refine ⟨ret_bool ?_, HB.out _⟩
    rw [← HL.out]

set_option maxHeartbeats 1000000 in
theorem hasList_any (q : Nod) (lv : Value) (g p : Nat) (w : World) (hg : g < w.heap.size) (hc : NodC w g p lv q) (hE : EntsA w lv q.list) : Calls Tryz.prog 139 #[.agg #[.pointer (some ⟨g, p, none⟩)]] w fun e w' => e = .returned (.bool (!q.list.isEmpty)) ∧ Below w.heap.size w w' := by
  have hB : ∀ o, Below w.heap.size w (w.alloc o) := fun o => (Below.refl _ _).alloc (Nat.le_refl _) _
  have HB := Lib.hid hB
  obtain ⟨o2, c2, rfl, -, -⟩ := hE
  obtain ⟨d0, d1, d2, d3, d4, d5, d6⟩ := hc.below (hB (.cells #[.pointer (some ⟨g, p, none⟩)] 168)) hg
  have HL : Hid (decide (0 < q.list.length) = !q.list.isEmpty) := Lib.hid (by cases q.list <;> simp)
  clear hB
  go_enter Tryz.func139, Tryz.ntmps139
  go_wp2
  all_goals
    go_ret
    refine ⟨ret_bool ?_, HB.out _⟩
    rw [← HL.out]
end Go.Proofs.YtbmbbioanlcioaaGreatDoor


/-
  Contracts of the program's isGoodEntry, of the four kinds' isGood, of isGoodNode.
  Conditions: the node's cells read as plain data; a list of at most 2^20 entries.
-/

namespace Go.Proofs.YtbmbbioanlcioaaGreatDoor
open Go.ChangeShapes Go.WideShapes Go.ChangeAt Go.RowKit Go.Joins
set_option linter.unusedVariables false
set_option linter.unusedSimpArgs false

theorem goodName_is {l : List UInt8} {b : Bool} (h : nameB l = b) (s : ByteArray) (hs : s = bs l) (w : World) : Calls Tryz.prog 148 #[.string s] w fun e w' => e = .returned (.bool b) ∧ Below w.heap.size w w' :=
  (goodName_any s w).mono fun e w' ⟨h1, h2⟩ => ⟨by rw [h1, hs, ← h]; simp [bs], h2⟩

set_option maxHeartbeats 1000000 in
theorem isGoodEntry_any (e : Ent) (count : Int) (s : ByteArray) (w : World) (hs : s = bs e.name) : Calls Tryz.prog 141 #[.agg #[.string s, .int .i64 e.node], .int .i64 count] w fun x w' => x = .returned (.bool (nameB e.name && inB 0 (count - 1) e.node)) ∧ Below w.heap.size w w' := by
  obtain ⟨nm, r⟩ := e
  simp only at hs ⊢
  have HS := Lib.hid hs
  have hb0 : Below w.heap.size w (w.alloc (.cells #[.string s, .int .i64 r] 152)) := (Below.refl _ _).alloc (Nat.le_refl _) _
  have HB := Lib.hid hb0
  have HK := Lib.hid (heap_alloc_new w (.cells #[.string s, .int .i64 r] 152))
  clear hs hb0
  by_cases hn : nameB nm = true
  · have HN := Lib.hid hn
    by_cases h0 : 0 ≤ r
    · by_cases h1 : r < count
      · have HF : Hid (true = (nameB nm && inB 0 (count - 1) r)) := Lib.hid (by rw [hn, ← inB_mk h0 (by omega)]; rfl)
        clear hn
        go_enter Tryz.func141, Tryz.ntmps141
        go_wp2_with fail
        refine (goodName_is HN.out _ HS.out _).mono ?_
        rintro e w1 ⟨rfl, hb1⟩
        have HB1 := Lib.hid (HB.out.trans (hb1.mono HB.out.size))
        have k1 := (hb1.block w.heap.size (lt_of_heap HK.out)).trans HK.out
        have x1 := (cell_blk k1 1).trans rfl
        clear hb1 k1
        go_wp2
        go_ret
        exact ⟨ret_bool HF.out, HB1.out⟩
      · have HF : Hid (false = (nameB nm && inB 0 (count - 1) r)) := Lib.hid (by rw [hn, ← inB_no (.inr (by omega))]; rfl)
        clear hn
        go_enter Tryz.func141, Tryz.ntmps141
        go_wp2_with fail
        refine (goodName_is HN.out _ HS.out _).mono ?_
        rintro e w1 ⟨rfl, hb1⟩
        have HB1 := Lib.hid (HB.out.trans (hb1.mono HB.out.size))
        have k1 := (hb1.block w.heap.size (lt_of_heap HK.out)).trans HK.out
        have x1 := (cell_blk k1 1).trans rfl
        clear hb1 k1
        go_wp2
        go_ret
        exact ⟨ret_bool (by rw [← HF.out]; simp [h1]), HB1.out⟩
    · have HF : Hid (false = (nameB nm && inB 0 (count - 1) r)) := Lib.hid (by rw [hn, ← inB_no (.inl (by omega))]; rfl)
      clear hn
      go_enter Tryz.func141, Tryz.ntmps141
      go_wp2_with fail
      refine (goodName_is HN.out _ HS.out _).mono ?_
      rintro e w1 ⟨rfl, hb1⟩
      have HB1 := Lib.hid (HB.out.trans (hb1.mono HB.out.size))
      have k1 := (hb1.block w.heap.size (lt_of_heap HK.out)).trans HK.out
      have x1 := (cell_blk k1 1).trans rfl
      clear hb1 k1
      go_wp2
      go_ret
      exact ⟨ret_bool HF.out, HB1.out⟩
  · have HN : Hid (nameB nm = false) := Lib.hid (by simpa using hn)
    have HF : Hid (false = (nameB nm && inB 0 (count - 1) r)) := Lib.hid (by rw [HN.out]; rfl)
    clear hn
    go_enter Tryz.func141, Tryz.ntmps141
    go_wp2_with fail
    refine (goodName_is HN.out _ HS.out _).mono ?_
    rintro e w1 ⟨rfl, hb1⟩
    have HB1 := Lib.hid (HB.out.trans (hb1.mono HB.out.size))
    clear hb1
    go_wp2
    go_ret
    exact ⟨ret_bool HF.out, HB1.out⟩

set_option maxHeartbeats 2000000 in
theorem freeGood_any (q : Nod) (lv : Value) (g p : Nat) (w : World) (hg : g < w.heap.size) (hc : NodC w g p lv q) (hE : EntsA w lv q.list) : Calls Tryz.prog 120 #[.agg #[.pointer (some ⟨g, p, none⟩)]] w fun e w' => e = .returned (.bool (noneB q && (q.data.isEmpty && q.list.isEmpty))) ∧ Below w.heap.size w w' := by
  have hb0 : Below w.heap.size w (w.alloc (.cells #[.pointer (some ⟨g, p, none⟩)] 170)) := (Below.refl _ _).alloc (Nat.le_refl _) _
  have HB := Lib.hid hb0
  have HK := Lib.hid (heap_alloc_new w (.cells #[.pointer (some ⟨g, p, none⟩)] 170))
  have HC := Lib.hid hc
  have HE := Lib.hid hE
  clear hb0 hc hE
  by_cases h1 : noneB q = true
  · have H1 := Lib.hid h1
    by_cases h2 : q.data.isEmpty = true
    · have H2 : Hid ((!q.data.isEmpty) = false) := Lib.hid (by rw [h2]; rfl)
      have HF : Hid ((noneB q && (q.data.isEmpty && q.list.isEmpty)) = q.list.isEmpty) := Lib.hid (by rw [h1, h2]; rfl)
      clear h1 h2
      go_enter Tryz.func120, Tryz.ntmps120
      go_wp2_with fail
      refine (hasNone_any q lv g p _ (Nat.lt_of_lt_of_le hg HB.out.size) (HC.out.below HB.out hg)).mono ?_
      rintro e w1 ⟨rfl, hb1⟩
      rw [H1.out]
      have HB1 := Lib.hid (HB.out.trans (hb1.mono HB.out.size))
      have HK1 := Lib.hid ((hb1.block w.heap.size (lt_of_heap HK.out)).trans HK.out)
      have x1 := (cell_blk HK1.out 0).trans rfl
      clear hb1
      go_wp2_with fail
      refine (hasData_any q lv g p _ (Nat.lt_of_lt_of_le hg HB1.out.size) (HC.out.below HB1.out hg)).mono ?_
      rintro e w2 ⟨rfl, hb2⟩
      rw [H2.out]
      have HB2 := Lib.hid (HB1.out.trans (hb2.mono HB1.out.size))
      have HK2 := Lib.hid ((hb2.block w.heap.size (lt_of_heap HK1.out)).trans HK1.out)
      have x2 := (cell_blk HK2.out 0).trans rfl
      clear hb2
      go_wp2_with fail
      refine (hasList_any q lv g p _ (Nat.lt_of_lt_of_le hg HB2.out.size) (HC.out.below HB2.out hg) (HE.out.below HB2.out)).mono ?_
      rintro e w3 ⟨rfl, hb3⟩
      have HB3 := Lib.hid (HB2.out.trans (hb3.mono HB2.out.size))
      clear hb3
      go_wp2
      go_ret
      exact ⟨ret_bool (by rw [HF.out]), HB3.out⟩
    · have H2 : Hid ((!q.data.isEmpty) = true) := Lib.hid (by simpa using h2)
      have HF : Hid ((noneB q && (q.data.isEmpty && q.list.isEmpty)) = false) := Lib.hid (by rw [h1, show q.data.isEmpty = false by simpa using h2]; rfl)
      clear h1 h2
      go_enter Tryz.func120, Tryz.ntmps120
      go_wp2_with fail
      refine (hasNone_any q lv g p _ (Nat.lt_of_lt_of_le hg HB.out.size) (HC.out.below HB.out hg)).mono ?_
      rintro e w1 ⟨rfl, hb1⟩
      rw [H1.out]
      have HB1 := Lib.hid (HB.out.trans (hb1.mono HB.out.size))
      have HK1 := Lib.hid ((hb1.block w.heap.size (lt_of_heap HK.out)).trans HK.out)
      have x1 := (cell_blk HK1.out 0).trans rfl
      clear hb1
      go_wp2_with fail
      refine (hasData_any q lv g p _ (Nat.lt_of_lt_of_le hg HB1.out.size) (HC.out.below HB1.out hg)).mono ?_
      rintro e w2 ⟨rfl, hb2⟩
      rw [H2.out]
      have HB2 := Lib.hid (HB1.out.trans (hb2.mono HB1.out.size))
      clear hb2
      go_wp2
      go_ret
      exact ⟨ret_bool HF.out.symm, HB2.out⟩
  · have H1 : Hid (noneB q = false) := Lib.hid (by simpa using h1)
    have HF : Hid ((noneB q && (q.data.isEmpty && q.list.isEmpty)) = false) := Lib.hid (by rw [H1.out]; rfl)
    clear h1
    go_enter Tryz.func120, Tryz.ntmps120
    go_wp2_with fail
    refine (hasNone_any q lv g p _ (Nat.lt_of_lt_of_le hg HB.out.size) (HC.out.below HB.out hg)).mono ?_
    rintro e w1 ⟨rfl, hb1⟩
    rw [H1.out]
    have HB1 := Lib.hid (HB.out.trans (hb1.mono HB.out.size))
    clear hb1
    go_wp2
    go_ret
    exact ⟨ret_bool HF.out.symm, HB1.out⟩
end Go.Proofs.YtbmbbioanlcioaaGreatDoor
