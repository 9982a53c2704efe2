/-
  Joined: LookI SrcB InoE InoF.
  Conditions: as each states.
-/
import Derived.Test.YtgmkfhhlnhgkhaaGreatDoorLib10
import Derived.Test.YtgmkfhhlnhgkhaaGreatDoorLib11

/-
  The model's answers of chapter 4 out of what a look finds: l4Asked, FindNode, ReadLink, l4Dir.
  Conditions: at most 2^20 values and letters together; a text of at most 2^20 bytes.
-/
namespace Go.Proofs.YtgmkfhhlnhgkhaaGreatDoor
open Go.ChangeShapes Go.WideShapes Go.ChangeAt Go.RowKit Go.Joins
set_option linter.unusedVariables false
set_option linter.unusedSimpArgs false

theorem goodF_G {f : FsD} (h : goodF f = true) : GoodF f := by unfold goodF at h; simpa using h
theorem node_ok {ns : List Nod} (h : ∀ n ∈ ns, nodOkI ns.length n = true) {i : Nat} (hi : i < ns.length) : nodOkI ns.length (nodeAt ns i) = true := by
  have e : nodeAt ns i = ns[i] := getD_at hi
  rw [e]; exact h _ (List.getElem_mem hi)
theorem look_of {f : FsD} (h : goodF f = true) (hs : szF f ≤ 1048576) : LookFs f ∧ LinkLen f.nodes := by
  have hG := goodF_G h
  have hall : ∀ n ∈ f.nodes, nodOkI f.nodes.length n = true := fun n hn => (nodOk_iff.1 (hG.2.2.2.2.1 n hn)).1
  refine ⟨⟨hs, leadI hall, linksFit_of hall, by have := inB_t hG.1; omega, fun i hi hk => ?_⟩, fun i hi hk => ?_⟩
  · have h1 := node_ok hall hi
    unfold nodOkI at h1
    rw [if_neg hk] at h1
    simp only [Bool.and_eq_true] at h1
    exact h1.1
  · have h1 := node_ok hall hi
    unfold nodOkI at h1
    rw [if_neg (by omega), if_neg (by omega), if_neg (by omega)] at h1
    simp only [Bool.and_eq_true] at h1
    have h2 : goodB (nodeAt f.nodes i).data = true := h1.2.2.2.2.2.1
    simp [goodB] at h2
    omega
theorem lkRun_lt {ns : List Nod} (hf : LinksFit ns) (hld : Lead ns) (hp : 0 < ns.length) (u g : Int) (fol : Bool) : ∀ (n : Nat) (s : Lk), LkInv ns s → (lkRun ns u g fol n s).2 < ns.length
  | 0, s, h => h.node
  | n + 1, ⟨node, [], hops⟩, h => h.node
  | n + 1, ⟨node, p :: r, hops⟩, h => by
    rw [lkRun]
    by_cases h0 : (lkStep ns u g fol node p r hops).1 = 0
    · rw [if_neg (by rw [h0]; simp)]
      exact lkRun_lt hf hld hp u g fol n _ (lkInv_step hf hld hp h h0)
    · rw [if_pos h0]; exact hp
theorem lkFind_lt {f : FsD} (hF : LookFs f) (u g : Int) (l : List UInt8) (fol : Bool) : (lkFind f.nodes u g l fol).2 < f.nodes.length := by
  unfold lkFind
  by_cases h : goodB l = true ∧ wholeB l = true
  · rw [if_pos h]
    have hl : l.length ≤ 60 := by
      have h1 := h.1
      simp [goodB] at h1
      omega
    have h1 : (lkGo f.nodes u g (fol || slashB l) ⟨0, parts l, 0⟩).2 < f.nodes.length := lkRun_lt hF.fit hF.lead hF.pos u g _ _ _ ⟨hF.pos, Nat.zero_le _, by have h7 := parts_le l; simp only; omega⟩
    split
    · exact hF.pos
    · split
      · exact hF.pos
      · exact h1
  · rw [if_neg h]; exact hF.pos

noncomputable def askB4 (f : FsD) (u g : Int) : Bool := goodF f && credB u g
set_option maxHeartbeats 2000000 in
theorem l4Asked_any (f : FsD) (v : Value) (u g : Int) (w : World) (hR : FsA w v f) (hs : szF f ≤ 1048576) : Calls Tryz.prog 92 #[v, .agg #[.int .i64 u, .int .i64 g]] w fun e w' => e = .returned (.bool (askB4 f u g)) ∧ Below w.heap.size w w' := by
  have HR := Lib.hid hR
  obtain ⟨nv, rfl, hN⟩ := hR
  have HN := Lib.hid hN
  obtain ⟨o, c, rfl, hm, hH⟩ := hN
  have HH := Lib.hid hH
  unfold maxLen at hm
  have HS := Lib.hid hs
  have hl : f.nodes.length ≤ 1048576 := (lists_small hs).1
  have HB0 : Hid (Below w.heap.size w ((w.alloc (.cells #[.slice o f.nodes.length c, .int .i64 f.room] 26)).alloc (.cells #[.int .i64 u, .int .i64 g] 37))) := Lib.hid (((Below.refl _ _).alloc (Nat.le_refl _) _).alloc (by simp) _)
  have KA0 := Lib.hid (alloc3_fst' w (.cells #[.slice o f.nodes.length c, .int .i64 f.room] 26) (.cells #[.int .i64 u, .int .i64 g] 37))
  have KB0 := Lib.hid (alloc3_snd' w (.cells #[.slice o f.nodes.length c, .int .i64 f.room] 26) (.cells #[.int .i64 u, .int .i64 g] 37))
  clear hH hs
  by_cases hg : goodF f = true
  · have HG := Lib.hid hg
    have HF : Hid (askB4 f u g = credB u g) := Lib.hid (by unfold askB4; rw [HG.out]; rfl)
    clear hg
    go_enter Tryz.func92, Tryz.ntmps92
    go_wp2_with fail
    refine (l3Good_any f _ _ (HR.out.below HB0.out) HS.out).mono ?_
    rintro e w1 ⟨rfl, hb1⟩
    rw [HG.out]
    have HB1 := Lib.hid (HB0.out.trans (hb1.mono HB0.out.size))
    have KA1 := Lib.hid ((hb1.block w.heap.size (lt_of_heap KA0.out)).trans KA0.out)
    have KB1 := Lib.hid ((hb1.block (w.heap.size + 1) (lt_of_heap KB0.out)).trans KB0.out)
    have x1a : w1.cell? ⟨w.heap.size, 0, none⟩ = some (.slice o f.nodes.length c) := cell_blk KA1.out 0
    have x1b : w1.cell? ⟨w.heap.size, 1, none⟩ = some (.int .i64 f.room) := cell_blk KA1.out 1
    have y1a : w1.cell? ⟨w.heap.size + 1, 0, none⟩ = some (.int .i64 u) := cell_blk KB1.out 0
    have y1b : w1.cell? ⟨w.heap.size + 1, 1, none⟩ = some (.int .i64 g) := cell_blk KB1.out 1
    clear hb1
    go_wp2_with fail
    refine (l1Cred_any u g _).mono ?_
    rintro e w2 ⟨rfl, hb2⟩
    have HB2 := Lib.hid (HB1.out.trans (hb2.mono HB1.out.size))
    have KA2 := Lib.hid ((hb2.block w.heap.size (lt_of_heap KA1.out)).trans KA1.out)
    have KB2 := Lib.hid ((hb2.block (w.heap.size + 1) (lt_of_heap KB1.out)).trans KB1.out)
    have x2a : w2.cell? ⟨w.heap.size, 0, none⟩ = some (.slice o f.nodes.length c) := cell_blk KA2.out 0
    have x2b : w2.cell? ⟨w.heap.size, 1, none⟩ = some (.int .i64 f.room) := cell_blk KA2.out 1
    have y2a : w2.cell? ⟨w.heap.size + 1, 0, none⟩ = some (.int .i64 u) := cell_blk KB2.out 0
    have y2b : w2.cell? ⟨w.heap.size + 1, 1, none⟩ = some (.int .i64 g) := cell_blk KB2.out 1
    clear hb2
    go_wp2
    go_ret
    exact ⟨ret_bool HF.out.symm, HB2.out⟩
  · have HG : Hid (goodF f = false) := Lib.hid (by simpa using hg)
    have HF : Hid (askB4 f u g = false) := Lib.hid (by unfold askB4; rw [HG.out]; rfl)
    clear hg
    go_enter Tryz.func92, Tryz.ntmps92
    go_wp2_with fail
    refine (l3Good_any f _ _ (HR.out.below HB0.out) HS.out).mono ?_
    rintro e w1 ⟨rfl, hb1⟩
    rw [HG.out]
    have HB1 := Lib.hid (HB0.out.trans (hb1.mono HB0.out.size))
    have KA1 := Lib.hid ((hb1.block w.heap.size (lt_of_heap KA0.out)).trans KA0.out)
    have KB1 := Lib.hid ((hb1.block (w.heap.size + 1) (lt_of_heap KB0.out)).trans KB0.out)
    have x1a : w1.cell? ⟨w.heap.size, 0, none⟩ = some (.slice o f.nodes.length c) := cell_blk KA1.out 0
    have x1b : w1.cell? ⟨w.heap.size, 1, none⟩ = some (.int .i64 f.room) := cell_blk KA1.out 1
    have y1a : w1.cell? ⟨w.heap.size + 1, 0, none⟩ = some (.int .i64 u) := cell_blk KB1.out 0
    have y1b : w1.cell? ⟨w.heap.size + 1, 1, none⟩ = some (.int .i64 g) := cell_blk KB1.out 1
    clear hb1
    go_wp2
    go_ret
    exact ⟨ret_bool HF.out.symm, HB1.out⟩

noncomputable def findN (f : FsD) (u g : Int) (l : List UInt8) (fol : Bool) : Nat := if askB4 f u g = true then (lkFind f.nodes u g l fol).2 else 0
noncomputable def findC (f : FsD) (u g : Int) (l : List UInt8) (fol : Bool) : Int := if askB4 f u g = true then (lkFind f.nodes u g l fol).1 else 0
theorem ask_good {f : FsD} {u g : Int} (h : askB4 f u g = true) : goodF f = true := by unfold askB4 at h; simp only [Bool.and_eq_true] at h; exact h.1
set_option maxHeartbeats 2000000 in
theorem specFindNode_any (f : FsD) (v : Value) (u g : Int) (s : ByteArray) (w : World) (hR : FsA w v f) (hs : szF f ≤ 1048576) (hss : s.size ≤ 1048576) (fol : Bool) : Calls Tryz.prog 35 #[v, .agg #[.int .i64 u, .int .i64 g], .string s, .bool fol] w fun e w' => e = .returned (.tuple #[.int .i64 (findN f u g s.data.toList fol : Nat), .int .i64 (findC f u g s.data.toList fol), .bool (askB4 f u g)]) ∧ Below w.heap.size w w' := by
  have HR := Lib.hid hR
  obtain ⟨nv, rfl, hN⟩ := hR
  have HN := Lib.hid hN
  obtain ⟨o, c, rfl, hm, hH⟩ := hN
  have HH := Lib.hid hH
  unfold maxLen at hm
  have HS := Lib.hid hs
  have hl : f.nodes.length ≤ 1048576 := (lists_small hs).1
  have HB0 : Hid (Below w.heap.size w ((w.alloc (.cells #[.slice o f.nodes.length c, .int .i64 f.room] 26)).alloc (.cells #[.int .i64 u, .int .i64 g] 37))) := Lib.hid (((Below.refl _ _).alloc (Nat.le_refl _) _).alloc (by simp) _)
  have KA0 := Lib.hid (alloc3_fst' w (.cells #[.slice o f.nodes.length c, .int .i64 f.room] 26) (.cells #[.int .i64 u, .int .i64 g] 37))
  have KB0 := Lib.hid (alloc3_snd' w (.cells #[.slice o f.nodes.length c, .int .i64 f.room] 26) (.cells #[.int .i64 u, .int .i64 g] 37))
  clear hH hs
  by_cases hk : askB4 f u g = true
  · have HK := Lib.hid hk
    have HL := Lib.hid (look_of (ask_good hk) HS.out)
    obtain ⟨⟨cd, nd⟩, hfd⟩ : ∃ q, lkFind f.nodes u g s.data.toList fol = q := ⟨_, rfl⟩
    have hlt : nd < f.nodes.length := by have h7 := lkFind_lt HL.out.1 u g s.data.toList fol; rw [hfd] at h7; exact h7
    have HFD := Lib.hid hfd
    have HV : Hid (findN f u g s.data.toList fol = nd ∧ findC f u g s.data.toList fol = cd) := Lib.hid (by unfold findN findC; rw [if_pos hk, if_pos hk, hfd]; exact ⟨rfl, rfl⟩)
    clear hk hfd
    go_enter Tryz.func35, Tryz.ntmps35
    go_wp2_with fail
    refine (l4Asked_any f _ u g _ (HR.out.below HB0.out) HS.out).mono ?_
    rintro e w1 ⟨rfl, hb1⟩
    rw [HK.out]
    have HB1 := Lib.hid (HB0.out.trans (hb1.mono HB0.out.size))
    have KA1 := Lib.hid ((hb1.block w.heap.size (lt_of_heap KA0.out)).trans KA0.out)
    have KB1 := Lib.hid ((hb1.block (w.heap.size + 1) (lt_of_heap KB0.out)).trans KB0.out)
    have x1a : w1.cell? ⟨w.heap.size, 0, none⟩ = some (.slice o f.nodes.length c) := cell_blk KA1.out 0
    have x1b : w1.cell? ⟨w.heap.size, 1, none⟩ = some (.int .i64 f.room) := cell_blk KA1.out 1
    have y1a : w1.cell? ⟨w.heap.size + 1, 0, none⟩ = some (.int .i64 u) := cell_blk KB1.out 0
    have y1b : w1.cell? ⟨w.heap.size + 1, 1, none⟩ = some (.int .i64 g) := cell_blk KB1.out 1
    clear hb1
    go_wp2_with fail
    refine (l4Find_any f _ u g s fol _ (HR.out.below HB1.out) HL.out.1 HL.out.2 (by omega)).mono ?_
    rintro e w2 ⟨rfl, hb2⟩
    rw [HFD.out]
    have HB2 := Lib.hid (HB1.out.trans (hb2.mono HB1.out.size))
    have KA2 := Lib.hid ((hb2.block w.heap.size (lt_of_heap KA1.out)).trans KA1.out)
    have KB2 := Lib.hid ((hb2.block (w.heap.size + 1) (lt_of_heap KB1.out)).trans KB1.out)
    have x2a : w2.cell? ⟨w.heap.size, 0, none⟩ = some (.slice o f.nodes.length c) := cell_blk KA2.out 0
    have x2b : w2.cell? ⟨w.heap.size, 1, none⟩ = some (.int .i64 f.room) := cell_blk KA2.out 1
    have y2a : w2.cell? ⟨w.heap.size + 1, 0, none⟩ = some (.int .i64 u) := cell_blk KB2.out 0
    have y2b : w2.cell? ⟨w.heap.size + 1, 1, none⟩ = some (.int .i64 g) := cell_blk KB2.out 1
    clear hb2
    go_wp2
    go_ret3
    exact ⟨by rw [HV.out.1, HV.out.2, HK.out]; rfl, HB2.out⟩
  · have HK : Hid (askB4 f u g = false) := Lib.hid (by simpa using hk)
    have HV : Hid (findN f u g s.data.toList fol = 0 ∧ findC f u g s.data.toList fol = 0) := Lib.hid (by unfold findN findC; rw [HK.out]; exact ⟨rfl, rfl⟩)
    clear hk
    go_enter Tryz.func35, Tryz.ntmps35
    go_wp2_with fail
    refine (l4Asked_any f _ u g _ (HR.out.below HB0.out) HS.out).mono ?_
    rintro e w1 ⟨rfl, hb1⟩
    rw [HK.out]
    have HB1 := Lib.hid (HB0.out.trans (hb1.mono HB0.out.size))
    have KA1 := Lib.hid ((hb1.block w.heap.size (lt_of_heap KA0.out)).trans KA0.out)
    have KB1 := Lib.hid ((hb1.block (w.heap.size + 1) (lt_of_heap KB0.out)).trans KB0.out)
    have x1a : w1.cell? ⟨w.heap.size, 0, none⟩ = some (.slice o f.nodes.length c) := cell_blk KA1.out 0
    have x1b : w1.cell? ⟨w.heap.size, 1, none⟩ = some (.int .i64 f.room) := cell_blk KA1.out 1
    have y1a : w1.cell? ⟨w.heap.size + 1, 0, none⟩ = some (.int .i64 u) := cell_blk KB1.out 0
    have y1b : w1.cell? ⟨w.heap.size + 1, 1, none⟩ = some (.int .i64 g) := cell_blk KB1.out 1
    clear hb1
    go_wp2
    go_ret3
    exact ⟨by rw [HV.out.1, HV.out.2, HK.out]; rfl, HB1.out⟩

/-- A node's kind and text, found in memory. -/
theorem nod_cells {w w' : World} {o : Option Addr} {c : Nat} {f : FsD} {nd : Nat} (hH : ∀ i (h : i < f.nodes.length), ∃ g off lv, o = some ⟨g, off, none⟩ ∧ g < w.heap.size ∧ NodC w g (off + i * 7) lv f.nodes[i] ∧ EntsA w lv f.nodes[i].list ∧ f.nodes[i].data.length ≤ maxLen) (hn : nd < f.nodes.length) (hb : Below w.heap.size w w') :
    ∃ g off lv, o = some ⟨g, off, none⟩ ∧ NodC w' g (off + nd * 7) lv (nodeAt f.nodes nd) ∧ EntsA w' lv (nodeAt f.nodes nd).list := by
  obtain ⟨g, off, lv, e, hg, hc, he, -⟩ := hH nd hn
  have hq : f.nodes[nd] = nodeAt f.nodes nd := (getD_at hn).symm
  rw [hq] at hc he
  exact ⟨g, off, lv, e, hc.below hb hg, he.below hb⟩
/-- What ReadLink tells: a text and a code. -/
def rlF (ns : List Nod) (u g : Int) (l : List UInt8) : List UInt8 × Int :=
  if (lkFind ns u g l false).1 ≠ 0 then ([], (lkFind ns u g l false).1)
  else if (nodeAt ns (lkFind ns u g l false).2).kind ≠ 3 then ([], 2)
  else ((nodeAt ns (lkFind ns u g l false).2).data, 0)
noncomputable def rlT (f : FsD) (u g : Int) (l : List UInt8) : List UInt8 := if askB4 f u g = true then (rlF f.nodes u g l).1 else []
noncomputable def rlC (f : FsD) (u g : Int) (l : List UInt8) : Int := if askB4 f u g = true then (rlF f.nodes u g l).2 else 0
/-- What l4Dir finds: a code and a node. -/
def dirF (ns : List Nod) (u g : Int) (l : List UInt8) : Int × Nat :=
  if (lkFind ns u g l true).1 = 0 ∧ (nodeAt ns (lkFind ns u g l true).2).kind ≠ 2 then (3, 0) else lkFind ns u g l true
set_option maxHeartbeats 4000000 in
theorem specReadLink_any (f : FsD) (v : Value) (u g : Int) (s : ByteArray) (w : World) (hR : FsA w v f) (hs : szF f ≤ 1048576) (hss : s.size ≤ 1048576) : Calls Tryz.prog 48 #[v, .agg #[.int .i64 u, .int .i64 g], .string s] w fun e w' => e = .returned (.tuple #[.string (bs (rlT f u g s.data.toList)), .int .i64 (rlC f u g s.data.toList), .bool (askB4 f u g)]) ∧ Below w.heap.size w w' := by
  have HR := Lib.hid hR
  obtain ⟨nv, rfl, hN⟩ := hR
  have HN := Lib.hid hN
  obtain ⟨o, c, rfl, hm, hH⟩ := hN
  have HH := Lib.hid hH
  unfold maxLen at hm
  have HS := Lib.hid hs
  have hl : f.nodes.length ≤ 1048576 := (lists_small hs).1
  have HB0 : Hid (Below w.heap.size w ((w.alloc (.cells #[.slice o f.nodes.length c, .int .i64 f.room] 26)).alloc (.cells #[.int .i64 u, .int .i64 g] 37))) := Lib.hid (((Below.refl _ _).alloc (Nat.le_refl _) _).alloc (by simp) _)
  have KA0 := Lib.hid (alloc3_fst' w (.cells #[.slice o f.nodes.length c, .int .i64 f.room] 26) (.cells #[.int .i64 u, .int .i64 g] 37))
  have KB0 := Lib.hid (alloc3_snd' w (.cells #[.slice o f.nodes.length c, .int .i64 f.room] 26) (.cells #[.int .i64 u, .int .i64 g] 37))
  clear hH hs
  by_cases hk : askB4 f u g = true
  · have HK := Lib.hid hk
    have HL := Lib.hid (look_of (ask_good hk) HS.out)
    obtain ⟨⟨cd, nd⟩, hfd⟩ : ∃ q, lkFind f.nodes u g s.data.toList false = q := ⟨_, rfl⟩
    have hlt : nd < f.nodes.length := by have h7 := lkFind_lt HL.out.1 u g s.data.toList false; rw [hfd] at h7; exact h7
    have HFD := Lib.hid hfd
    by_cases hc : cd = 0
    · by_cases hk3 : (nodeAt f.nodes nd).kind = 3
      · have HV : Hid (rlT f u g s.data.toList = (nodeAt f.nodes nd).data ∧ rlC f u g s.data.toList = 0) := Lib.hid (by unfold rlT rlC rlF; rw [if_pos hk, if_pos hk, hfd]; simp [hc, hk3])
        subst hc
        clear hk hfd
        go_enter Tryz.func48, Tryz.ntmps48
        go_wp2_with fail
        refine (l4Asked_any f _ u g _ (HR.out.below HB0.out) HS.out).mono ?_
        rintro e w1 ⟨rfl, hb1⟩
        rw [HK.out]
        have HB1 := Lib.hid (HB0.out.trans (hb1.mono HB0.out.size))
        have KA1 := Lib.hid ((hb1.block w.heap.size (lt_of_heap KA0.out)).trans KA0.out)
        have KB1 := Lib.hid ((hb1.block (w.heap.size + 1) (lt_of_heap KB0.out)).trans KB0.out)
        have x1a : w1.cell? ⟨w.heap.size, 0, none⟩ = some (.slice o f.nodes.length c) := cell_blk KA1.out 0
        have x1b : w1.cell? ⟨w.heap.size, 1, none⟩ = some (.int .i64 f.room) := cell_blk KA1.out 1
        have y1a : w1.cell? ⟨w.heap.size + 1, 0, none⟩ = some (.int .i64 u) := cell_blk KB1.out 0
        have y1b : w1.cell? ⟨w.heap.size + 1, 1, none⟩ = some (.int .i64 g) := cell_blk KB1.out 1
        clear hb1
        go_wp2_with fail
        refine (l4Find_any f _ u g s false _ (HR.out.below HB1.out) HL.out.1 HL.out.2 (by omega)).mono ?_
        rintro e w2 ⟨rfl, hb2⟩
        rw [HFD.out]
        have HB2 := Lib.hid (HB1.out.trans (hb2.mono HB1.out.size))
        have KA2 := Lib.hid ((hb2.block w.heap.size (lt_of_heap KA1.out)).trans KA1.out)
        have KB2 := Lib.hid ((hb2.block (w.heap.size + 1) (lt_of_heap KB1.out)).trans KB1.out)
        have x2a : w2.cell? ⟨w.heap.size, 0, none⟩ = some (.slice o f.nodes.length c) := cell_blk KA2.out 0
        have x2b : w2.cell? ⟨w.heap.size, 1, none⟩ = some (.int .i64 f.room) := cell_blk KA2.out 1
        have y2a : w2.cell? ⟨w.heap.size + 1, 0, none⟩ = some (.int .i64 u) := cell_blk KB2.out 0
        have y2b : w2.cell? ⟨w.heap.size + 1, 1, none⟩ = some (.int .i64 g) := cell_blk KB2.out 1
        clear hb2
        obtain ⟨g3, f3, lv3, e3, hcc, hee⟩ := nod_cells (c := c) HH.out hlt HB2.out
        obtain ⟨d0, d1, d2, d3, d4, d5, d6⟩ := hcc
        subst e3
        rw [hk3] at d0
        clear hee
        go_wp2
        go_ret3
        exact ⟨by rw [HV.out.1, HV.out.2, HK.out]; rfl, HB2.out⟩
      · have HV : Hid (rlT f u g s.data.toList = [] ∧ rlC f u g s.data.toList = 2) := Lib.hid (by unfold rlT rlC rlF; rw [if_pos hk, if_pos hk, hfd]; simp [hc, hk3])
        have kb : ((nodeAt f.nodes nd).kind == 3) = false := beq_eq_false_iff_ne.2 hk3
        have kc : ((nodeAt f.nodes nd).kind != 3) = true := by rw [bne_iff_ne]; exact hk3
        subst hc
        clear hk hfd
        go_enter Tryz.func48, Tryz.ntmps48
        go_wp2_with fail
        refine (l4Asked_any f _ u g _ (HR.out.below HB0.out) HS.out).mono ?_
        rintro e w1 ⟨rfl, hb1⟩
        rw [HK.out]
        have HB1 := Lib.hid (HB0.out.trans (hb1.mono HB0.out.size))
        have KA1 := Lib.hid ((hb1.block w.heap.size (lt_of_heap KA0.out)).trans KA0.out)
        have KB1 := Lib.hid ((hb1.block (w.heap.size + 1) (lt_of_heap KB0.out)).trans KB0.out)
        have x1a : w1.cell? ⟨w.heap.size, 0, none⟩ = some (.slice o f.nodes.length c) := cell_blk KA1.out 0
        have x1b : w1.cell? ⟨w.heap.size, 1, none⟩ = some (.int .i64 f.room) := cell_blk KA1.out 1
        have y1a : w1.cell? ⟨w.heap.size + 1, 0, none⟩ = some (.int .i64 u) := cell_blk KB1.out 0
        have y1b : w1.cell? ⟨w.heap.size + 1, 1, none⟩ = some (.int .i64 g) := cell_blk KB1.out 1
        clear hb1
        go_wp2_with fail
        refine (l4Find_any f _ u g s false _ (HR.out.below HB1.out) HL.out.1 HL.out.2 (by omega)).mono ?_
        rintro e w2 ⟨rfl, hb2⟩
        rw [HFD.out]
        have HB2 := Lib.hid (HB1.out.trans (hb2.mono HB1.out.size))
        have KA2 := Lib.hid ((hb2.block w.heap.size (lt_of_heap KA1.out)).trans KA1.out)
        have KB2 := Lib.hid ((hb2.block (w.heap.size + 1) (lt_of_heap KB1.out)).trans KB1.out)
        have x2a : w2.cell? ⟨w.heap.size, 0, none⟩ = some (.slice o f.nodes.length c) := cell_blk KA2.out 0
        have x2b : w2.cell? ⟨w.heap.size, 1, none⟩ = some (.int .i64 f.room) := cell_blk KA2.out 1
        have y2a : w2.cell? ⟨w.heap.size + 1, 0, none⟩ = some (.int .i64 u) := cell_blk KB2.out 0
        have y2b : w2.cell? ⟨w.heap.size + 1, 1, none⟩ = some (.int .i64 g) := cell_blk KB2.out 1
        clear hb2
        obtain ⟨g3, f3, lv3, e3, hcc, hee⟩ := nod_cells (c := c) HH.out hlt HB2.out
        obtain ⟨d0, d1, d2, d3, d4, d5, d6⟩ := hcc
        subst e3
        clear hee
        go_wp2
        go_ret3
        exact ⟨by rw [HV.out.1, HV.out.2, HK.out]; rfl, HB2.out⟩
    · have HV : Hid (rlT f u g s.data.toList = [] ∧ rlC f u g s.data.toList = cd) := Lib.hid (by unfold rlT rlC rlF; rw [if_pos hk, if_pos hk, hfd]; simp [hc])
      have cb : (cd == 0) = false := beq_eq_false_iff_ne.2 hc
      have cc : (cd != 0) = true := by rw [bne_iff_ne]; exact hc
      clear hk hfd
      go_enter Tryz.func48, Tryz.ntmps48
      go_wp2_with fail
      refine (l4Asked_any f _ u g _ (HR.out.below HB0.out) HS.out).mono ?_
      rintro e w1 ⟨rfl, hb1⟩
      rw [HK.out]
      have HB1 := Lib.hid (HB0.out.trans (hb1.mono HB0.out.size))
      have KA1 := Lib.hid ((hb1.block w.heap.size (lt_of_heap KA0.out)).trans KA0.out)
      have KB1 := Lib.hid ((hb1.block (w.heap.size + 1) (lt_of_heap KB0.out)).trans KB0.out)
      have x1a : w1.cell? ⟨w.heap.size, 0, none⟩ = some (.slice o f.nodes.length c) := cell_blk KA1.out 0
      have x1b : w1.cell? ⟨w.heap.size, 1, none⟩ = some (.int .i64 f.room) := cell_blk KA1.out 1
      have y1a : w1.cell? ⟨w.heap.size + 1, 0, none⟩ = some (.int .i64 u) := cell_blk KB1.out 0
      have y1b : w1.cell? ⟨w.heap.size + 1, 1, none⟩ = some (.int .i64 g) := cell_blk KB1.out 1
      clear hb1
      go_wp2_with fail
      refine (l4Find_any f _ u g s false _ (HR.out.below HB1.out) HL.out.1 HL.out.2 (by omega)).mono ?_
      rintro e w2 ⟨rfl, hb2⟩
      rw [HFD.out]
      have HB2 := Lib.hid (HB1.out.trans (hb2.mono HB1.out.size))
      have KA2 := Lib.hid ((hb2.block w.heap.size (lt_of_heap KA1.out)).trans KA1.out)
      have KB2 := Lib.hid ((hb2.block (w.heap.size + 1) (lt_of_heap KB1.out)).trans KB1.out)
      have x2a : w2.cell? ⟨w.heap.size, 0, none⟩ = some (.slice o f.nodes.length c) := cell_blk KA2.out 0
      have x2b : w2.cell? ⟨w.heap.size, 1, none⟩ = some (.int .i64 f.room) := cell_blk KA2.out 1
      have y2a : w2.cell? ⟨w.heap.size + 1, 0, none⟩ = some (.int .i64 u) := cell_blk KB2.out 0
      have y2b : w2.cell? ⟨w.heap.size + 1, 1, none⟩ = some (.int .i64 g) := cell_blk KB2.out 1
      clear hb2
      go_wp2
      go_ret3
      exact ⟨by rw [HV.out.1, HV.out.2, HK.out]; rfl, HB2.out⟩
  · have HK : Hid (askB4 f u g = false) := Lib.hid (by simpa using hk)
    have HV : Hid (rlT f u g s.data.toList = [] ∧ rlC f u g s.data.toList = 0) := Lib.hid (by unfold rlT rlC; rw [HK.out]; exact ⟨rfl, rfl⟩)
    clear hk
    go_enter Tryz.func48, Tryz.ntmps48
    go_wp2_with fail
    refine (l4Asked_any f _ u g _ (HR.out.below HB0.out) HS.out).mono ?_
    rintro e w1 ⟨rfl, hb1⟩
    rw [HK.out]
    have HB1 := Lib.hid (HB0.out.trans (hb1.mono HB0.out.size))
    have KA1 := Lib.hid ((hb1.block w.heap.size (lt_of_heap KA0.out)).trans KA0.out)
    have KB1 := Lib.hid ((hb1.block (w.heap.size + 1) (lt_of_heap KB0.out)).trans KB0.out)
    have x1a : w1.cell? ⟨w.heap.size, 0, none⟩ = some (.slice o f.nodes.length c) := cell_blk KA1.out 0
    have x1b : w1.cell? ⟨w.heap.size, 1, none⟩ = some (.int .i64 f.room) := cell_blk KA1.out 1
    have y1a : w1.cell? ⟨w.heap.size + 1, 0, none⟩ = some (.int .i64 u) := cell_blk KB1.out 0
    have y1b : w1.cell? ⟨w.heap.size + 1, 1, none⟩ = some (.int .i64 g) := cell_blk KB1.out 1
    clear hb1
    go_wp2
    go_ret3
    exact ⟨by rw [HV.out.1, HV.out.2, HK.out]; rfl, HB1.out⟩

set_option maxHeartbeats 4000000 in
theorem l4Dir_any (f : FsD) (v : Value) (u g : Int) (s : ByteArray) (w : World) (hR : FsA w v f) (hs : szF f ≤ 1048576) (hss : s.size ≤ 1048576) (hg : goodF f = true) : Calls Tryz.prog 99 #[v, .agg #[.int .i64 u, .int .i64 g], .string s] w fun e w' => e = .returned (.tuple #[.int .i64 ((dirF f.nodes u g s.data.toList).2 : Nat), .int .i64 (dirF f.nodes u g s.data.toList).1]) ∧ Below w.heap.size w w' := by
  have HR := Lib.hid hR
  obtain ⟨nv, rfl, hN⟩ := hR
  have HN := Lib.hid hN
  obtain ⟨o, c, rfl, hm, hH⟩ := hN
  have HH := Lib.hid hH
  unfold maxLen at hm
  have HS := Lib.hid hs
  have hl : f.nodes.length ≤ 1048576 := (lists_small hs).1
  have HB0 : Hid (Below w.heap.size w ((w.alloc (.cells #[.slice o f.nodes.length c, .int .i64 f.room] 26)).alloc (.cells #[.int .i64 u, .int .i64 g] 37))) := Lib.hid (((Below.refl _ _).alloc (Nat.le_refl _) _).alloc (by simp) _)
  have KA0 := Lib.hid (alloc3_fst' w (.cells #[.slice o f.nodes.length c, .int .i64 f.room] 26) (.cells #[.int .i64 u, .int .i64 g] 37))
  have KB0 := Lib.hid (alloc3_snd' w (.cells #[.slice o f.nodes.length c, .int .i64 f.room] 26) (.cells #[.int .i64 u, .int .i64 g] 37))
  clear hH hs
  have HL := Lib.hid (look_of hg HS.out)
  obtain ⟨⟨cd, nd⟩, hfd⟩ : ∃ q, lkFind f.nodes u g s.data.toList true = q := ⟨_, rfl⟩
  have hlt : nd < f.nodes.length := by have h7 := lkFind_lt HL.out.1 u g s.data.toList true; rw [hfd] at h7; exact h7
  have HFD := Lib.hid hfd
  by_cases hc : cd = 0
  · by_cases hk2 : (nodeAt f.nodes nd).kind = 2
    · have HV : Hid (dirF f.nodes u g s.data.toList = (0, nd)) := Lib.hid (by unfold dirF; rw [hfd]; simp [hc, hk2])
      subst hc
      clear hfd
      go_enter Tryz.func99, Tryz.ntmps99
      go_wp2_with fail
      refine (l4Find_any f _ u g s true _ (HR.out.below HB0.out) HL.out.1 HL.out.2 (by omega)).mono ?_
      rintro e w1 ⟨rfl, hb1⟩
      rw [HFD.out]
      have HB1 := Lib.hid (HB0.out.trans (hb1.mono HB0.out.size))
      have KA1 := Lib.hid ((hb1.block w.heap.size (lt_of_heap KA0.out)).trans KA0.out)
      have KB1 := Lib.hid ((hb1.block (w.heap.size + 1) (lt_of_heap KB0.out)).trans KB0.out)
      have x1a : w1.cell? ⟨w.heap.size, 0, none⟩ = some (.slice o f.nodes.length c) := cell_blk KA1.out 0
      have x1b : w1.cell? ⟨w.heap.size, 1, none⟩ = some (.int .i64 f.room) := cell_blk KA1.out 1
      have y1a : w1.cell? ⟨w.heap.size + 1, 0, none⟩ = some (.int .i64 u) := cell_blk KB1.out 0
      have y1b : w1.cell? ⟨w.heap.size + 1, 1, none⟩ = some (.int .i64 g) := cell_blk KB1.out 1
      clear hb1
      obtain ⟨g3, f3, lv3, e3, hcc, hee⟩ := nod_cells (c := c) HH.out hlt HB1.out
      obtain ⟨d0, d1, d2, d3, d4, d5, d6⟩ := hcc
      subst e3
      rw [hk2] at d0
      clear hee
      go_wp2
      go_ret2
      exact ⟨by rw [HV.out]; rfl, HB1.out⟩
    · have HV : Hid (dirF f.nodes u g s.data.toList = (3, 0)) := Lib.hid (by unfold dirF; rw [hfd]; simp [hc, hk2])
      have kb : ((nodeAt f.nodes nd).kind == 2) = false := beq_eq_false_iff_ne.2 hk2
      have kc : ((nodeAt f.nodes nd).kind != 2) = true := by rw [bne_iff_ne]; exact hk2
      subst hc
      clear hfd
      go_enter Tryz.func99, Tryz.ntmps99
      go_wp2_with fail
      refine (l4Find_any f _ u g s true _ (HR.out.below HB0.out) HL.out.1 HL.out.2 (by omega)).mono ?_
      rintro e w1 ⟨rfl, hb1⟩
      rw [HFD.out]
      have HB1 := Lib.hid (HB0.out.trans (hb1.mono HB0.out.size))
      have KA1 := Lib.hid ((hb1.block w.heap.size (lt_of_heap KA0.out)).trans KA0.out)
      have KB1 := Lib.hid ((hb1.block (w.heap.size + 1) (lt_of_heap KB0.out)).trans KB0.out)
      have x1a : w1.cell? ⟨w.heap.size, 0, none⟩ = some (.slice o f.nodes.length c) := cell_blk KA1.out 0
      have x1b : w1.cell? ⟨w.heap.size, 1, none⟩ = some (.int .i64 f.room) := cell_blk KA1.out 1
      have y1a : w1.cell? ⟨w.heap.size + 1, 0, none⟩ = some (.int .i64 u) := cell_blk KB1.out 0
      have y1b : w1.cell? ⟨w.heap.size + 1, 1, none⟩ = some (.int .i64 g) := cell_blk KB1.out 1
      clear hb1
      obtain ⟨g3, f3, lv3, e3, hcc, hee⟩ := nod_cells (c := c) HH.out hlt HB1.out
      obtain ⟨d0, d1, d2, d3, d4, d5, d6⟩ := hcc
      subst e3
      clear hee
      go_wp2
      go_ret2
      exact ⟨by rw [HV.out]; rfl, HB1.out⟩
  · have HV : Hid (dirF f.nodes u g s.data.toList = (cd, nd)) := Lib.hid (by unfold dirF; rw [hfd]; simp [hc])
    have cb : (cd == 0) = false := beq_eq_false_iff_ne.2 hc
    clear hfd
    go_enter Tryz.func99, Tryz.ntmps99
    go_wp2_with fail
    refine (l4Find_any f _ u g s true _ (HR.out.below HB0.out) HL.out.1 HL.out.2 (by omega)).mono ?_
    rintro e w1 ⟨rfl, hb1⟩
    rw [HFD.out]
    have HB1 := Lib.hid (HB0.out.trans (hb1.mono HB0.out.size))
    have KA1 := Lib.hid ((hb1.block w.heap.size (lt_of_heap KA0.out)).trans KA0.out)
    have KB1 := Lib.hid ((hb1.block (w.heap.size + 1) (lt_of_heap KB0.out)).trans KB0.out)
    have x1a : w1.cell? ⟨w.heap.size, 0, none⟩ = some (.slice o f.nodes.length c) := cell_blk KA1.out 0
    have x1b : w1.cell? ⟨w.heap.size, 1, none⟩ = some (.int .i64 f.room) := cell_blk KA1.out 1
    have y1a : w1.cell? ⟨w.heap.size + 1, 0, none⟩ = some (.int .i64 u) := cell_blk KB1.out 0
    have y1b : w1.cell? ⟨w.heap.size + 1, 1, none⟩ = some (.int .i64 g) := cell_blk KB1.out 1
    clear hb1
    go_wp2
    go_ret2
    exact ⟨by rw [HV.out]; rfl, HB1.out⟩
end Go.Proofs.YtgmkfhhlnhgkhaaGreatDoor


/-
  The search of chapter 4: hop, enter, step.
  Conditions: a good file system of at most 2^20 values and letters together; a node that is there; at most eight links met, at most 1000 parts to come.
-/
namespace Go.Proofs.YtgmkfhhlnhgkhaaGreatDoor
open Go.ChangeShapes Go.WideShapes Go.ChangeAt Go.RowKit Go.Joins
set_option linter.unusedVariables false
set_option linter.unusedSimpArgs false

/-- What a hop does. -/
def hopR (node : Nat) (d : List UInt8) (r : List (List UInt8)) (hops : Nat) : Int × Lk :=
  if hops = 8 then (5, ⟨0, [], 0⟩) else (0, ⟨if wholeB d = true then 0 else node, parts d ++ r, hops + 1⟩)
theorem isWhole_is {s : ByteArray} {b : Bool} {w : World} (h : wholeB s.data.toList = b) : Calls Tryz.prog 155 #[.string s] w fun e w' => e = .returned (.bool b) ∧ w = w' := by
  rw [← h]; exact isWhole_any s w
set_option maxHeartbeats 2000000 in
theorem hop_any (s : ByteArray) (b : Nat) (o : Option Addr) (n c G k : Nat) (u g : Int) (fol : Bool) (node : Nat) (r : List (List UInt8)) (hops : Nat) (w : World) (hs : s.size ≤ 1048576) (hrl : r.length ≤ 1000) (hh : hops ≤ 8) (h : SkAt w b o n c G k u g fol ⟨node, r, hops⟩) :
    Calls Tryz.prog 189 #[.pointer (some ⟨b, 0, none⟩), .string s] w fun e w' => e = .returned (errC (hopR node s.data.toList r hops).1) ∧ OnlyG w w' b ∧ Below b w w' ∧ ((hopR node s.data.toList r hops).1 = 0 → SkAt w' b o n c G k u g fol (hopR node s.data.toList r hops).2) := by
  obtain ⟨pv, hb, hR, hoff⟩ := h
  simp only at hb hR
  have x7 : w.cell? ⟨b, 7, none⟩ = some (.int .i64 (hops : Int)) := cell_blk hb 7
  have f7 := frozen_blk hb 7
  by_cases h8 : hops = 8
  · have HX : Hid (hopR node s.data.toList r hops = (5, ⟨0, [], 0⟩)) := Lib.hid (by unfold hopR; rw [if_pos h8])
    subst h8
    clear hb hR hoff
    go_enter Tryz.func189, Tryz.ntmps189
    go_wp2
    go_ret
    rw [HX.out]
    exact ⟨rfl, OnlyG.below b (Below.refl _ _), Below.refl _ _, fun e => absurd e (by decide)⟩
  · have h8b : ((hops : Int) == 8) = false := by rw [beq_eq_false_iff_ne]; omega
    have hhw : (hops : Int) + 1 ≤ 100 := by omega
    obtain ⟨wb, hwb⟩ : ∃ wb, wholeB s.data.toList = wb := ⟨_, rfl⟩
    have HWB := Lib.hid hwb
    have HX : Hid (hopR node s.data.toList r hops = (0, ⟨if wb = true then 0 else node, parts s.data.toList ++ r, hops + 1⟩)) := Lib.hid (by unfold hopR; rw [if_neg h8, hwb])
    have hO1 := (OnlyG.below b (Below.refl _ w)).set 7 (.int .i64 ((hops : Int) + 1))
    have hB1 := (Below.refl b w).setCell (p := ⟨b, 7, none⟩) (Nat.le_refl _) (.int .i64 ((hops : Int) + 1))
    have hb1 : (w.setCell ⟨b, 7, none⟩ (.int .i64 ((hops : Int) + 1))).heap[b]? = some (.cells (skCells o n c G k u g fol node pv (hops + 1)) 148 (0, 0)) := heap_setCell_same w b 7 _ _ (.int .i64 ((hops : Int) + 1)) hb
    have HSK : Hid (SkAt (w.setCell ⟨b, 7, none⟩ (.int .i64 ((hops : Int) + 1))) b o n c G k u g fol ⟨node, r, hops + 1⟩) := Lib.hid ⟨pv, hb1, rd_keptV hR hO1 hoff, hoff⟩
    have HO1 := Lib.hid hO1
    have HB1 := Lib.hid hB1
    have y5 : (w.setCell ⟨b, 7, none⟩ (.int .i64 ((hops : Int) + 1))).cell? ⟨b, 5, none⟩ = some (.int .i64 (node : Int)) := cell_blk hb1 5
    have f5 := frozen_blk hb1 5
    have HK1 := Lib.hid hb1
    have HR := Lib.hid hR
    have HOF := Lib.hid hoff
    clear hb hR hoff hO1 hB1 hb1 h8 hwb
    cases wb with
    | false =>
      go_enter Tryz.func189, Tryz.ntmps189
      go_wp2_with fail
      refine (isWhole_is HWB.out).mono ?_
      rintro e w2 ⟨rfl, rfl⟩
      go_wp2_with fail
      refine (putAhead_any s b o n c G k u g fol ⟨node, r, hops + 1⟩ _ hs hrl HSK.out).mono ?_
      rintro e w3 ⟨⟨x, rfl⟩, hS3, hO3, hB3⟩
      have HS3 := Lib.hid hS3
      have HO3 := Lib.hid (HO1.out.trans hO3)
      have HB3 := Lib.hid (HB1.out.trans hB3)
      clear hS3 hO3 hB3
      go_wp2
      go_ret
      rw [HX.out]
      exact ⟨rfl, HO3.out, HB3.out, fun _ => HS3.out⟩
    | true =>
      have hO2 := HO1.out.set 5 (.int .i64 0)
      have HO2 := Lib.hid hO2
      have HB2 := Lib.hid (HB1.out.setCell (p := ⟨b, 5, none⟩) (Nat.le_refl _) (.int .i64 0))
      have hb2 : ((w.setCell ⟨b, 7, none⟩ (.int .i64 ((hops : Int) + 1))).setCell ⟨b, 5, none⟩ (.int .i64 0)).heap[b]? = some (.cells (skCells o n c G k u g fol 0 pv (hops + 1)) 148 (0, 0)) := heap_setCell_same _ b 5 _ _ (.int .i64 0) HK1.out
      have HSK2 : Hid (SkAt ((w.setCell ⟨b, 7, none⟩ (.int .i64 ((hops : Int) + 1))).setCell ⟨b, 5, none⟩ (.int .i64 0)) b o n c G k u g fol ⟨0, r, hops + 1⟩) := Lib.hid ⟨pv, hb2, rd_keptV HR.out hO2 HOF.out, HOF.out⟩
      clear hb2 hO2
      go_enter Tryz.func189, Tryz.ntmps189
      go_wp2_with fail
      refine (isWhole_is HWB.out).mono ?_
      rintro e w2 ⟨rfl, rfl⟩
      go_wp2_with fail
      refine (putAhead_any s b o n c G k u g fol ⟨0, r, hops + 1⟩ _ hs hrl HSK2.out).mono ?_
      rintro e w3 ⟨⟨x, rfl⟩, hS3, hO3, hB3⟩
      have HS3 := Lib.hid hS3
      have HO3 := Lib.hid (HO2.out.trans hO3)
      have HB3 := Lib.hid (HB2.out.trans hB3)
      clear hS3 hO3 hB3
      go_wp2
      go_ret
      rw [HX.out]
      exact ⟨rfl, HO3.out, HB3.out, fun _ => HS3.out⟩
end Go.Proofs.YtgmkfhhlnhgkhaaGreatDoor


/-
  Contracts of the program's comesFromRoot, isWellPlaced, areWellPlaced.
  Conditions: at most 2^20 values and letters together; every entry leads to a node.
-/
namespace Go.Proofs.YtgmkfhhlnhgkhaaGreatDoor
open Go.ChangeShapes Go.WideShapes Go.ChangeAt Go.RowKit Go.Joins
set_option linter.unusedVariables false
set_option linter.unusedSimpArgs false

set_option maxHeartbeats 2000000 in
theorem comesFromRoot_any (n : Nat) (P : Int → Pl) (B : Nat) (v : Value) (i : Int) (w : World) (hR : PlsA w B v n P) (hn : n ≤ 1048576) (hin : ∀ k, 0 ≤ upN P k i ∧ upN P k i < n) : Calls Tryz.prog 153 #[v, .int .i64 i] w fun e w' => e = .returned (.bool (upN P n i == 0)) ∧ w = w' := by
  obtain ⟨G, c, rfl, h1, h2, -, hr⟩ := hR
  have HR := Lib.hid hr
  have HI := Lib.hid hin
  clear hr hin
  unfold maxLen at h2
  go_enter Tryz.func153, Tryz.ntmps153
  go_wp2
  go_loop [1, 7] (fun t x => ∃ k : Nat, k ≤ n ∧ x = .int .i64 k ∧ t = .int .i64 (upN P k i)) (fun _ x => n - (intOf x).toNat)
  case atStart => exact ⟨0, Nat.zero_le _, rfl, rfl⟩
  case round =>
    obtain ⟨k, hk, rfl, rfl⟩ := hrel
    by_cases hlt : k < n
    · obtain ⟨u0, u1⟩ := HI.out k
      have HNX : Hid (upN P (k + 1) i = ((P (upN P k i)).dir : Int)) := Lib.hid rfl
      obtain ⟨m, hm⟩ : ∃ m : Nat, upN P k i = m := ⟨(upN P k i).toNat, by omega⟩
      rw [hm] at u0 u1 HNX ⊢
      have hm2 : m < n := by omega
      have b1 := HR.out.cell (j := m * 3 + 1) (by omega)
      rw [plF1] at b1
      clear hm
      go_wp2
      go_round
      case rel => exact ⟨k + 1, hlt, by go_num, by rw [HNX.out]⟩
      case measure => simp [intOf]; omega
    · obtain rfl : k = n := by omega
      go_wp2
      go_ret
      exact ⟨rfl, rfl⟩

def wellV (kind : Int) (node : Nat) (n : Nat) (P : Int → Pl) : Bool :=
  if node = 0 ∨ kind = 0 then (P node).links == 0
  else if kind = 2 then (P node).links == 1 && upN P n node == 0
  else decide (1 ≤ (P node).links)
theorem comes_is {n : Nat} {P : Int → Pl} {B : Nat} {v : Value} {i : Int} {w : World} {b : Bool} (h : (upN P n i == 0) = b) (hR : PlsA w B v n P) (hn : n ≤ 1048576) (hin : ∀ k, 0 ≤ upN P k i ∧ upN P k i < n) : Calls Tryz.prog 153 #[v, .int .i64 i] w fun e w' => e = .returned (.bool b) ∧ w = w' :=
  (comesFromRoot_any n P B v i w hR hn hin).mono fun e w' ⟨h1, h2⟩ => ⟨by rw [h1, h], h2⟩

set_option maxHeartbeats 2000000 in
theorem isWellPlaced_any (kind : Int) (m n : Nat) (P : Int → Pl) (B : Nat) (v : Value) (w : World) (hR : PlsA w B v n P) (hn : n ≤ 1048576) (hm : m < n) (hlk : (P m).links ≤ 1048576) (hin : ∀ k, 0 ≤ upN P k (m : Int) ∧ upN P k (m : Int) < n) : Calls Tryz.prog 115 #[.int .i64 kind, .int .i64 (m : Int), v] w fun e w' => e = .returned (.bool (wellV kind m n P)) ∧ w = w' := by
  have HP := Lib.hid hR
  obtain ⟨G, c, rfl, h1, h2, -, hr⟩ := hR
  have HI := Lib.hid hin
  have b0 := hr.cell (j := m * 3) (by omega)
  rw [plF0] at b0
  unfold maxLen at h2
  have HW : Hid (wellV kind m n P = if m = 0 ∨ kind = 0 then (P m).links == 0 else if kind = 2 then (P m).links == 1 && upN P n m == 0 else decide (1 ≤ (P m).links)) := Lib.hid rfl
  obtain ⟨N, hN⟩ : ∃ N, N = (P m).links := ⟨_, rfl⟩
  rw [← hN] at b0 hlk HW
  clear hr hin hN
  by_cases ha : m = 0
  · subst ha
    rw [if_pos (.inl rfl)] at HW
    go_enter Tryz.func115, Tryz.ntmps115
    go_wp2
    all_goals
      go_ret
      exact ⟨ret_bool (by rw [HW.out, Bool.eq_iff_iff]; simp), rfl⟩
  have hm0 : ¬ ((m : Int) = 0) := by omega
  by_cases hb : kind = 0
  · subst hb
    rw [if_pos (.inr rfl)] at HW
    go_enter Tryz.func115, Tryz.ntmps115
    go_wp2
    all_goals
      go_ret
      exact ⟨ret_bool (by rw [HW.out, Bool.eq_iff_iff]; simp), rfl⟩
  rw [if_neg (by rintro (h | h) <;> contradiction)] at HW
  by_cases hc : kind = 2
  · subst hc
    rw [if_pos rfl] at HW
    by_cases hd : N = 1
    · subst hd
      obtain ⟨bb, hbb⟩ : ∃ bb, (upN P n (m : Int) == 0) = bb := ⟨_, rfl⟩
      have HBB := Lib.hid hbb
      rw [hbb] at HW
      clear hbb
      go_enter Tryz.func115, Tryz.ntmps115
      go_wp2_with (go_at_call 153; refine (comes_is HBB.out HP.out hn HI.out).mono ?_; rintro e w' ⟨rfl, rfl⟩)
      all_goals
        go_ret
        exact ⟨ret_bool (by rw [HW.out]; simp), rfl⟩
    · have hd1 : ((N : Int) == 1) = false := by rw [beq_eq_false_iff_ne]; omega
      go_enter Tryz.func115, Tryz.ntmps115
      go_wp2
      all_goals
        go_ret
        exact ⟨ret_bool (by rw [HW.out]; simp [hd]), rfl⟩
  · rw [if_neg hc] at HW
    have kb : (kind == 0) = false := beq_eq_false_iff_ne.2 hb
    have kc : (kind == 2) = false := beq_eq_false_iff_ne.2 hc
    go_enter Tryz.func115, Tryz.ntmps115
    go_wp2
    all_goals
      go_ret
      refine ⟨ret_bool ?_, rfl⟩
      rw [HW.out, Bool.eq_iff_iff]
      simp
      try omega
theorem well_is {kind : Int} {m n : Nat} {P : Int → Pl} {B : Nat} {v : Value} {w : World} {b : Bool} (h : wellV kind m n P = b) (hR : PlsA w B v n P) (hn : n ≤ 1048576) (hm : m < n) (hlk : (P m).links ≤ 1048576) (hin : ∀ k, 0 ≤ upN P k (m : Int) ∧ upN P k (m : Int) < n) : Calls Tryz.prog 115 #[.int .i64 kind, .int .i64 (m : Int), v] w fun e w' => e = .returned (.bool b) ∧ w = w' :=
  (isWellPlaced_any kind m n P B v w hR hn hm hlk hin).mono fun e w' ⟨h1, h2⟩ => ⟨by rw [h1, h], h2⟩

/-- All nodes are where they may be. -/
def WellP (ns : List Nod) : Prop := kindAt ns 0 = 2 ∧ ∀ k, k < ns.length → wellB ns (placesF ns) k = true
open Classical in
noncomputable def wellF (ns : List Nod) : Bool := decide (WellP ns)
theorem wellF_no {ns : List Nod} (h : ¬ WellP ns) : false = wellF ns := by unfold wellF; simp [h]
theorem wellF_yes {ns : List Nod} (h : WellP ns) : true = wellF ns := by unfold wellF; simp [h]

set_option maxHeartbeats 2000000 in
theorem areWellPlaced_any (ns : List Nod) (v : Value) (w : World) (hR : NodsA w v ns) (hs : szNs ns ≤ 1048576) (hl : ns.length ≤ 1048576) (hpos : 0 < ns.length) (hld : Lead ns) : Calls Tryz.prog 73 #[v] w fun e w' => e = .returned (.bool (wellF ns)) ∧ Below w.heap.size w w' := by
  have HR := Lib.hid hR
  obtain ⟨o, c, rfl, hm, hH⟩ := hR
  have HH := Lib.hid hH
  clear hH
  unfold maxLen at hm
  obtain ⟨g, off, lv0, rfl, hg, hcc, -, -⟩ := HH.out 0 hpos
  have d0 := hcc.c0
  rw [Nat.zero_mul, Nat.add_zero] at d0
  obtain ⟨kd, hkd⟩ : ∃ kd, kd = ns[0].kind := ⟨_, rfl⟩
  rw [← hkd] at d0
  have HKD : Hid (kindAt ns 0 = kd) := Lib.hid (by rw [hkd]; simp [kindAt, List.getD, hpos])
  clear hcc hkd
  by_cases c4 : kd = 2
  · subst c4
    have HI : Hid (∀ m : Nat, m < ns.length → ∀ k, 0 ≤ upN (placesF ns) k (m : Int) ∧ upN (placesF ns) k (m : Int) < ns.length) := Lib.hid (fun m hm k => upN_in hpos (by omega) (by omega) k)
    have HLK : Hid (∀ i, (placesF ns i).links ≤ 1048576) := Lib.hid (fun i => by have := links_le i ns; rw [pl_links]; omega)
    go_enter Tryz.func73, Tryz.ntmps73
    go_wp2_with fail
    refine (placesIn_any ns _ _ HR.out hs hl hld).mono ?_
    rintro e w1 ⟨u, rfl, hp, hb1⟩
    have HP := Lib.hid hp
    have HB1 := Lib.hid hb1
    obtain ⟨G, cp, rfl, -, -, -, -⟩ := hp
    clear hb1 d0
    go_wp2
    go_loop [14] (fun i => ∃ k : Nat, k ≤ ns.length ∧ i = .int .i64 k ∧ ∀ j, j < k → wellB ns (placesF ns) j = true) (fun i => ns.length - (intOf i).toNat)
    case atStart => exact ⟨0, Nat.zero_le _, rfl, fun j h => absurd h (Nat.not_lt_zero _)⟩
    case round =>
      obtain ⟨k, hk, rfl, hJ⟩ := hrel
      have HJ := Lib.hid hJ
      clear hJ
      by_cases hlt : k < ns.length
      · obtain ⟨g3, f3, lv, e3, hg3, hcc, -, -⟩ := HH.out k hlt
        obtain ⟨rfl, rfl⟩ : g = g3 ∧ off = f3 := by simpa using e3
        have d0 := (hcc.below HB1.out hg3).c0
        obtain ⟨kq, hkq⟩ : ∃ kq, kq = ns[k].kind := ⟨_, rfl⟩
        rw [← hkq] at d0
        have HW : Hid (wellB ns (placesF ns) k = wellV kq k ns.length (placesF ns)) := Lib.hid (by
          have : kindAt ns (k : Int) = kq := by rw [hkq]; simp [kindAt, List.getD, hlt]
          unfold wellB wellV
          rw [this])
        clear hcc hkq e3
        by_cases hw : wellV kq k ns.length (placesF ns) = true
        · have HWV := Lib.hid hw
          have HJ2 : Hid (∀ j, j < k + 1 → wellB ns (placesF ns) j = true) := Lib.hid (by
            intro j h
            rcases Nat.lt_succ_iff_lt_or_eq.1 h with h1 | rfl
            · exact HJ.out j h1
            · rw [HW.out, hw])
          go_wp2_with (go_at_call 115; refine (well_is HWV.out HP.out hl hlt (HLK.out _) (HI.out _ hlt)).mono ?_; rintro e w' ⟨rfl, rfl⟩)
          go_round
          case rel => exact ⟨k + 1, hlt, by go_num, HJ2.out⟩
          case measure => simp [intOf]; omega
        · have HWV : Hid (wellV kq k ns.length (placesF ns) = false) := Lib.hid (by simpa using hw)
          have HF : Hid (¬ WellP ns) := Lib.hid (fun h => hw (by rw [← HW.out]; exact h.2 k hlt))
          go_wp2_with (go_at_call 115; refine (well_is HWV.out HP.out hl hlt (HLK.out _) (HI.out _ hlt)).mono ?_; rintro e w' ⟨rfl, rfl⟩)
          go_ret
          exact ⟨ret_bool (wellF_no HF.out), HB1.out⟩
      · go_wp2
        go_ret
        exact ⟨ret_bool (wellF_yes ⟨HKD.out, fun k h => HJ.out k (by omega)⟩), HB1.out⟩
  · have HF : Hid (¬ WellP ns) := Lib.hid (fun h => c4 (by rw [← HKD.out]; exact h.1))
    have c4b : (kd == 2) = false := beq_eq_false_iff_ne.2 c4
    have c4d : (kd != 2) = true := by simpa using c4
    go_enter Tryz.func73, Tryz.ntmps73
    go_wp2
    go_ret
    exact ⟨ret_bool (wellF_no HF.out), Below.refl _ _⟩
end Go.Proofs.YtgmkfhhlnhgkhaaGreatDoor


/-
  Contracts of the program's GoodFs, isUsedNode, isDirNode, BytesIn, FreeNode, LinksOf, ParentOf: the model's answers.
  Conditions: at most 2^20 values and letters together.
-/
namespace Go.Proofs.YtgmkfhhlnhgkhaaGreatDoor
open Go.ChangeShapes Go.WideShapes Go.ChangeAt Go.RowKit Go.Joins
set_option linter.unusedVariables false
set_option linter.unusedSimpArgs false

theorem isRoom_is {n : Int} {b : Bool} (h : inB 0 1000 n = b) (w : World) : Calls Tryz.prog 71 #[.int .i64 n] w fun e w' => e = .returned (.bool b) ∧ w = w' :=
  (isRoom_any n w).mono fun e w' ⟨h1, h2⟩ => ⟨by rw [h1, h], h2⟩
theorem isGoodNode_at {q : Nod} {lv : Value} {g p : Nat} {count : Int} {W w : World} {b : Bool} (h : nodOkI count q = b) (hg : g < W.heap.size) (hc : NodC W g p lv q) (hE : EntsA W lv q.list) (hs : q.list.length ≤ 1048576) (hd : q.data.length ≤ 1048576) (hb : Below W.heap.size W w) : Calls Tryz.prog 72 #[.pointer (some ⟨g, p, none⟩), .int .i64 count] w fun e w' => e = .returned (.bool b) ∧ Below w.heap.size w w' :=
  (isGoodNode_any q lv g p count w (Nat.lt_of_lt_of_le hg hb.size) (hc.below hb hg) (hE.below hb) hs hd).mono fun e w' ⟨h1, h2⟩ => ⟨by rw [h1, h], h2⟩
theorem areWell_is {ns : List Nod} {v : Value} {w : World} {b : Bool} (h : wellF ns = b) (hR : NodsA w v ns) (hs : szNs ns ≤ 1048576) (hl : ns.length ≤ 1048576) (hpos : 0 < ns.length) (hld : Lead ns) : Calls Tryz.prog 73 #[v] w fun e w' => e = .returned (.bool b) ∧ Below w.heap.size w w' :=
  (areWellPlaced_any ns v w hR hs hl hpos hld).mono fun e w' ⟨h1, h2⟩ => ⟨by rw [h1, h], h2⟩
theorem bytesOf_b {ns : List Nod} {v : Value} {w : World} (hR : NodsA w v ns) (hs : szNs ns ≤ 1048576) (hl : ns.length ≤ 1048576) : Calls Tryz.prog 74 #[v] w fun e w' => e = .returned (.int .i64 (sumD ns : Nat)) ∧ Below w.heap.size w w' :=
  (bytesOf_any ns v w hR hs hl).mono fun e w' ⟨h1, h2⟩ => ⟨h1, by rw [← h2]; exact Below.refl _ _⟩
theorem wellP_of {ns : List Nod} (h : wellF ns = true) : WellP ns := by unfold wellF at h; simpa using h
theorem wellP_not {ns : List Nod} (h : wellF ns = false) : ¬ WellP ns := by unfold wellF at h; simpa using h

set_option maxHeartbeats 8000000 in
theorem goodFs_any (f : FsD) (v : Value) (w : World) (hR : FsA w v f) (hs : szF f ≤ 1048576) : Calls Tryz.prog 19 #[v] w fun e w' => e = .returned (.bool (goodF f)) ∧ Below w.heap.size w w' := by
  obtain ⟨nv, rfl, hN⟩ := hR
  have HN := Lib.hid hN
  obtain ⟨o, c, rfl, hm, hH⟩ := hN
  have HH := Lib.hid hH
  clear hH
  unfold maxLen at hm
  have hl : f.nodes.length ≤ 1048576 := (lists_small hs).1
  have HL : Hid (∀ n ∈ f.nodes, n.list.length ≤ 1048576 ∧ n.data.length ≤ 1048576 ∧ lensE n.list ≤ 1048576) := Lib.hid (lists_small hs).2
  have HSZ : Hid (szNs f.nodes ≤ 1048576) := Lib.hid (by unfold szF at hs; omega)
  have hsum : sumD f.nodes ≤ 1048576 := by have := sumD_le f.nodes; unfold szF at hs; omega
  have hbw : Below w.heap.size w (w.alloc (.cells #[.slice o f.nodes.length c, .int .i64 f.room] 26)) := (Below.refl _ _).alloc (Nat.le_refl _) _
  have hk0 := heap_alloc_new w (.cells #[.slice o f.nodes.length c, .int .i64 f.room] 26)
  have HB1 := Lib.hid hbw
  have HK1 := Lib.hid hk0
  clear hs hbw hk0
  by_cases c2 : inB 0 1000 f.room = true
  · have HC2 := Lib.hid c2
    by_cases a1 : f.nodes.length < 1
    · have HF : Hid (¬ GoodI f) := Lib.hid (fun h => by have := inB_t h.1; omega)
      have a1' : (f.nodes.length : Int) < 1 := by omega
      go_enter Tryz.func19, Tryz.ntmps19
      go_wp2_with (go_at_call 71; refine (isRoom_is HC2.out _).mono ?_; rintro e w' ⟨rfl, rfl⟩)
      go_ret
      exact ⟨ret_bool (goodF_not HF.out), HB1.out⟩
    have hpos : 0 < f.nodes.length := by omega
    have a1' : ¬ ((f.nodes.length : Int) < 1) := by omega
    by_cases a2 : 40 < f.nodes.length
    · have HF : Hid (¬ GoodI f) := Lib.hid (fun h => by have := inB_t h.1; omega)
      have a2' : (40 : Int) < (f.nodes.length : Int) := by omega
      go_enter Tryz.func19, Tryz.ntmps19
      go_wp2_with (go_at_call 71; refine (isRoom_is HC2.out _).mono ?_; rintro e w' ⟨rfl, rfl⟩)
      go_ret
      exact ⟨ret_bool (goodF_not HF.out), HB1.out⟩
    have a2' : ¬ ((40 : Int) < (f.nodes.length : Int)) := by omega
    have HC1 : Hid (inB 1 40 (f.nodes.length : Int) = true) := Lib.hid (inB_mk (by omega) (by omega)).symm
    go_enter Tryz.func19, Tryz.ntmps19
    go_wp2_with (go_at_call 71; refine (isRoom_is HC2.out _).mono ?_; rintro e w' ⟨rfl, rfl⟩)
    go_loopw [23] (fun i wr => ∃ k : Nat, k ≤ f.nodes.length ∧ i = .int .i64 k ∧ Below w.heap.size w wr ∧ wr.heap[w.heap.size]? = some (.cells #[.slice o f.nodes.length c, .int .i64 f.room] 26) ∧ ∀ j (hj : j < f.nodes.length), j < k → nodOkI f.nodes.length f.nodes[j] = true) (fun i _ => f.nodes.length - (intOf i).toNat)
    case atStart => exact ⟨0, Nat.zero_le _, rfl, HB1.out, HK1.out, fun j hj h => absurd h (Nat.not_lt_zero _)⟩
    case round =>
      obtain ⟨k, hk, rfl, hB, hb, hJ⟩ := hrel
      have HJ := Lib.hid hJ
      have HBr := Lib.hid hB
      have HKr := Lib.hid hb
      have b0 := (cell_blk hb 0).trans rfl
      have b1 := (cell_blk hb 1).trans rfl
      have z0 := fun d os => cell_regrown (w := wr) b0 d os
      have z1 := fun d os => cell_regrown (w := wr) b1 d os
      clear hJ hb
      by_cases hlt : k < f.nodes.length
      · obtain ⟨g3, f3, lv, rfl, hg0, hcc, he, hml⟩ := HH.out k hlt
        have hg3 : g3 < wr.heap.size := Nat.lt_of_lt_of_le hg0 hB.size
        have hq2 := HL.out f.nodes[k] (List.getElem_mem hlt)
        obtain ⟨hq3, hq4, -⟩ := hq2
        have HCC := Lib.hid (hcc.below hB hg0)
        have HE0 := Lib.hid (he.below hB)
        clear hcc he hml hB
        go_wp2
        by_cases hno : nodOkI f.nodes.length f.nodes[k] = true
        · have HNO := Lib.hid hno
          have HJ2 : Hid (∀ j (hj : j < f.nodes.length), j < k + 1 → nodOkI f.nodes.length f.nodes[j] = true) := Lib.hid (by
            intro j hj h
            rcases Nat.lt_succ_iff_lt_or_eq.1 h with h1 | rfl
            · exact HJ.out j hj h1
            · exact HNO.out)
          refine wp_region_quiet_below (by kernel_rfl) (by kernel_rfl) ?_
          repeat (first | go_big_quiet_step ((go_at_call 72; exact Calls.regrown_of (isGoodNode_at HNO.out hg3 HCC.out HE0.out hq3 hq4 (below_regrown _ _ _)))) | quiet_step ((go_at_call 72; exact Calls.regrown_of (isGoodNode_at HNO.out hg3 HCC.out HE0.out hq3 hq4 (below_regrown _ _ _)))))
          refine wpQuiet_nil ?_
          intro w5 hwq
          have hb5 : Below wr.heap.size wr w5 := by
            obtain ⟨pp, rfl⟩ := hwq
            exact below_regrown _ _ _
          have HB5 := Lib.hid (HBr.out.trans (hb5.mono HBr.out.size))
          have HK5 := Lib.hid ((hb5.block w.heap.size (lt_of_heap HKr.out)).trans HKr.out)
          clear hwq hb5
          go_wp2
          go_roundw
          case rel => exact ⟨k + 1, hlt, by go_num, HB5.out, HK5.out, HJ2.out⟩
          case measure => simp [intOf]; omega
        · have HNO : Hid (nodOkI f.nodes.length f.nodes[k] = false) := Lib.hid (by simpa using hno)
          have HF : Hid (¬ GoodI f) := Lib.hid (fun h => hno (h.2.2.1 _ (List.getElem_mem hlt)))
          refine wp_region_quiet_below (by kernel_rfl) (by kernel_rfl) ?_
          repeat (first | go_big_quiet_step ((go_at_call 72; exact Calls.regrown_of (isGoodNode_at HNO.out hg3 HCC.out HE0.out hq3 hq4 (below_regrown _ _ _)))) | quiet_step ((go_at_call 72; exact Calls.regrown_of (isGoodNode_at HNO.out hg3 HCC.out HE0.out hq3 hq4 (below_regrown _ _ _)))))
          refine wpQuiet_nil ?_
          intro w5 hwq
          have hb5 : Below wr.heap.size wr w5 := by
            obtain ⟨pp, rfl⟩ := hwq
            exact below_regrown _ _ _
          have HB5 := Lib.hid (HBr.out.trans (hb5.mono HBr.out.size))
          have HK5 := Lib.hid ((hb5.block w.heap.size (lt_of_heap HKr.out)).trans HKr.out)
          clear hwq hb5
          go_wp2
          go_ret
          exact ⟨ret_bool (goodF_not HF.out), HB5.out⟩
      · have HALL : Hid (∀ n ∈ f.nodes, nodOkI f.nodes.length n = true) := Lib.hid (by
          intro n hn
          obtain ⟨j, hj, rfl⟩ := List.getElem_of_mem hn
          exact HJ.out j hj (by omega))
        have HLD := Lib.hid (leadI HALL.out)
        have HN9 := Lib.hid (HN.out.below hB)
        clear hB
        go_wp2
        by_cases hwf : wellF f.nodes = true
        · have HWF := Lib.hid hwf
          by_cases c3 : (sumD f.nodes : Int) ≤ f.room
          · have HF : Hid (GoodI f) := Lib.hid ⟨HC1.out, HC2.out, HALL.out, (wellP_of HWF.out).1, (wellP_of HWF.out).2, c3⟩
            refine wp_region_quiet_below (by kernel_rfl) (by kernel_rfl) ?_
            repeat (first | go_big_quiet_step ((first | (go_at_call 73; exact Calls.regrown_of (areWell_is HWF.out (HN9.out.below (below_regrown _ _ _)) HSZ.out hl hpos HLD.out)) | (go_at_call 74; exact Calls.regrown_of (bytesOf_b (HN9.out.below (below_regrown _ _ _)) HSZ.out hl)))) | quiet_step ((first | (go_at_call 73; exact Calls.regrown_of (areWell_is HWF.out (HN9.out.below (below_regrown _ _ _)) HSZ.out hl hpos HLD.out)) | (go_at_call 74; exact Calls.regrown_of (bytesOf_b (HN9.out.below (below_regrown _ _ _)) HSZ.out hl)))))
            refine wpQuiet_nil ?_
            intro w5 hwq
            have hb5 : Below wr.heap.size wr w5 := by
              obtain ⟨pp, rfl⟩ := hwq
              exact below_regrown _ _ _
            have HB5 := Lib.hid (HBr.out.trans (hb5.mono HBr.out.size))
            have HK5 := Lib.hid ((hb5.block w.heap.size (lt_of_heap HKr.out)).trans HKr.out)
            clear hwq hb5
            go_wp2
            go_ret
            exact ⟨ret_bool (goodF_of HF.out), HB5.out⟩
          · have HF : Hid (¬ GoodI f) := Lib.hid (fun h => c3 h.2.2.2.2.2)
            refine wp_region_quiet_below (by kernel_rfl) (by kernel_rfl) ?_
            repeat (first | go_big_quiet_step ((first | (go_at_call 73; exact Calls.regrown_of (areWell_is HWF.out (HN9.out.below (below_regrown _ _ _)) HSZ.out hl hpos HLD.out)) | (go_at_call 74; exact Calls.regrown_of (bytesOf_b (HN9.out.below (below_regrown _ _ _)) HSZ.out hl)))) | quiet_step ((first | (go_at_call 73; exact Calls.regrown_of (areWell_is HWF.out (HN9.out.below (below_regrown _ _ _)) HSZ.out hl hpos HLD.out)) | (go_at_call 74; exact Calls.regrown_of (bytesOf_b (HN9.out.below (below_regrown _ _ _)) HSZ.out hl)))))
            refine wpQuiet_nil ?_
            intro w5 hwq
            have hb5 : Below wr.heap.size wr w5 := by
              obtain ⟨pp, rfl⟩ := hwq
              exact below_regrown _ _ _
            have HB5 := Lib.hid (HBr.out.trans (hb5.mono HBr.out.size))
            have HK5 := Lib.hid ((hb5.block w.heap.size (lt_of_heap HKr.out)).trans HKr.out)
            clear hwq hb5
            go_wp2
            go_ret
            exact ⟨ret_bool (goodF_not HF.out), HB5.out⟩
        · have HWF : Hid (wellF f.nodes = false) := Lib.hid (by simpa using hwf)
          have HF : Hid (¬ GoodI f) := Lib.hid (fun h => wellP_not HWF.out ⟨h.2.2.2.1, h.2.2.2.2.1⟩)
          refine wp_region_quiet_below (by kernel_rfl) (by kernel_rfl) ?_
          repeat (first | go_big_quiet_step ((first | (go_at_call 73; exact Calls.regrown_of (areWell_is HWF.out (HN9.out.below (below_regrown _ _ _)) HSZ.out hl hpos HLD.out)) | (go_at_call 74; exact Calls.regrown_of (bytesOf_b (HN9.out.below (below_regrown _ _ _)) HSZ.out hl)))) | quiet_step ((first | (go_at_call 73; exact Calls.regrown_of (areWell_is HWF.out (HN9.out.below (below_regrown _ _ _)) HSZ.out hl hpos HLD.out)) | (go_at_call 74; exact Calls.regrown_of (bytesOf_b (HN9.out.below (below_regrown _ _ _)) HSZ.out hl)))))
          refine wpQuiet_nil ?_
          intro w5 hwq
          have hb5 : Below wr.heap.size wr w5 := by
            obtain ⟨pp, rfl⟩ := hwq
            exact below_regrown _ _ _
          have HB5 := Lib.hid (HBr.out.trans (hb5.mono HBr.out.size))
          have HK5 := Lib.hid ((hb5.block w.heap.size (lt_of_heap HKr.out)).trans HKr.out)
          clear hwq hb5
          go_wp2
          go_ret
          exact ⟨ret_bool (goodF_not HF.out), HB5.out⟩
  · have HC2 : Hid (inB 0 1000 f.room = false) := Lib.hid (by simpa using c2)
    have HF : Hid (¬ GoodI f) := Lib.hid (fun h => c2 h.2.1)
    by_cases a1 : (f.nodes.length : Int) < 1
    · go_enter Tryz.func19, Tryz.ntmps19
      go_wp2_with (go_at_call 71; refine (isRoom_is HC2.out _).mono ?_; rintro e w' ⟨rfl, rfl⟩)
      go_ret
      exact ⟨ret_bool (goodF_not HF.out), HB1.out⟩
    by_cases a2 : (40 : Int) < (f.nodes.length : Int)
    · go_enter Tryz.func19, Tryz.ntmps19
      go_wp2_with (go_at_call 71; refine (isRoom_is HC2.out _).mono ?_; rintro e w' ⟨rfl, rfl⟩)
      go_ret
      exact ⟨ret_bool (goodF_not HF.out), HB1.out⟩
    · go_enter Tryz.func19, Tryz.ntmps19
      go_wp2_with (go_at_call 71; refine (isRoom_is HC2.out _).mono ?_; rintro e w' ⟨rfl, rfl⟩)
      go_ret
      exact ⟨ret_bool (goodF_not HF.out), HB1.out⟩
end Go.Proofs.YtgmkfhhlnhgkhaaGreatDoor
