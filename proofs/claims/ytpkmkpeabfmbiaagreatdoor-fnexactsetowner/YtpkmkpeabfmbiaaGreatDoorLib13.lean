/-
  Joined: SetM.
  Conditions: as each states.
-/
import Derived.BigQuiet
import Derived.Deep.QuietTactic
import Derived.Lib.QuietBelow
import Derived.Test.YtpkmkpeabfmbiaaGreatDoorLib4
import Derived.Test.YtpkmkpeabfmbiaaGreatDoorLib5
import Derived.Test.YtpkmkpeabfmbiaaGreatDoorLib12

/-
  What SetMode and SetTime answer, as plain data; the model's side.
  Conditions: at most 2^20 values and letters together; texts of at most 2^20 bytes.
-/
namespace Go.Proofs.YtpkmkpeabfmbiaaGreatDoor
open Go.ChangeShapes Go.WideShapes Go.ChangeAt Go.RowKit Go.Joins
set_option linter.unusedVariables false
set_option linter.unusedSimpArgs false

theorem l4Find_isM {f : FsD} {v : Value} {u g : Int} {s : ByteArray} {fol : Bool} {w : World} {cd : Int} {nd : Nat} (h : lkFind f.nodes u g s.data.toList fol = (cd, nd)) (hR : FsA w v f) (hF : LookFs f) (hLL : LinkLen f.nodes) (hs : s.size ≤ 1073741824) :
    Calls Tryz.prog 36 #[v, .agg #[.int .i64 u, .int .i64 g], .string s, .bool fol] w fun e w' => e = .returned (.tuple #[.int .i64 (nd : Int), .int .i64 cd]) ∧ Below w.heap.size w w' := by
  have := l4Find_any f v u g s fol w hR hF hLL hs
  rw [h] at this
  exact this
theorem l4Asked_isM {f : FsD} {v : Value} {u g : Int} {w : World} {b : Bool} (h : askB4 f u g = b) (hR : FsA w v f) (hs : szF f ≤ 1048576) : Calls Tryz.prog 35 #[v, .agg #[.int .i64 u, .int .i64 g]] w fun e w' => e = .returned (.bool b) ∧ Below w.heap.size w w' := by
  rw [← h]; exact l4Asked_any f v u g w hR hs
theorem m3_0 (w : World) (a b c : Obj) : (((w.alloc a).alloc b).alloc c).heap[w.heap.size]? = some a := by
  rw [Below.heap_alloc _ c _ (by simp; omega), Below.heap_alloc _ b _ (by simp)]; exact heap_alloc_new w a
theorem m3_1 (w : World) (a b c : Obj) : (((w.alloc a).alloc b).alloc c).heap[w.heap.size + 1]? = some b := by
  rw [Below.heap_alloc _ c _ (by simp)]
  have h := heap_alloc_new (w.alloc a) b
  rw [World.size_alloc] at h; exact h
theorem m3_2 (w : World) (a b c : Obj) : (((w.alloc a).alloc b).alloc c).heap[w.heap.size + 2]? = some c := by
  have h := heap_alloc_new ((w.alloc a).alloc b) c
  rw [World.size_alloc, World.size_alloc] at h; exact h

def fs0 : FsD := ⟨[], 0⟩
/-- A file system with one node turned, where the code is 0 and the arguments are as asked. -/
def setF (ask : Bool) (f : FsD) (r : Int × Nat) (h : Nod → Nod) : FsD := if ask = true then (if r.1 = 0 then ⟨f.nodes.set r.2 (h (nodeAt f.nodes r.2)), f.room⟩ else f) else fs0
def setC (ask : Bool) (r : Int × Nat) : Int := if ask = true then r.1 else 0
theorem setF_no {f : FsD} {r : Int × Nat} {h : Nod → Nod} : setF false f r h = fs0 := rfl
theorem setF_yes {f : FsD} {nd : Nat} {h : Nod → Nod} : setF true f (0, nd) h = ⟨f.nodes.set nd (h (nodeAt f.nodes nd)), f.room⟩ := rfl
theorem setF_bad {f : FsD} {r : Int × Nat} {h : Nod → Nod} (hr : r.1 ≠ 0) : setF true f r h = f := by unfold setF; rw [if_pos rfl, if_neg hr]
theorem setF_fit {ask : Bool} {f : FsD} {r : Int × Nat} {h : Nod → Nod} (hf : NodsFit f.nodes) (hd : ∀ n : Nod, n.data.length ≤ maxLen → (h n).data.length ≤ maxLen) (hl : ∀ n : Nod, (h n).list = n.list) : NodsFit (setF ask f r h).nodes := by
  unfold setF
  split
  · split
    · intro n hn
      by_cases hi : r.2 < f.nodes.length
      · rcases List.mem_or_eq_of_mem_set hn with h1 | rfl
        · exact hf _ h1
        · have h2 := hf (nodeAt f.nodes r.2) (by rw [show nodeAt f.nodes r.2 = f.nodes[r.2] from getD_at hi]; exact List.getElem_mem hi)
          exact ⟨hd _ h2.1, by rw [hl]; exact h2.2⟩
      · rw [List.set_eq_of_length_le (by omega)] at hn
        exact hf _ hn
    · exact hf
  · intro n hn; cases hn
theorem setF_cnt {ask : Bool} {f : FsD} {r : Int × Nat} {h : Nod → Nod} (hs : szF f ≤ 1048576) (hl : ∀ n : Nod, (h n).list = n.list) : cntM ((setF ask f r h).nodes.map fun n => n.list.length) ≤ 80000000 := by
  have h0 : cntM (f.nodes.map fun n => n.list.length) ≤ 80000000 := by
    have h1 := cnt_le f.nodes
    unfold szF at hs
    omega
  unfold setF
  split
  · split
    · have e : ((f.nodes.set r.2 (h (nodeAt f.nodes r.2))).map fun n => n.list.length) = f.nodes.map fun n => n.list.length := by
        rw [List.map_set, hl]
        by_cases hi : r.2 < f.nodes.length
        · rw [show nodeAt f.nodes r.2 = f.nodes[r.2] from getD_at hi]
          apply List.ext_getElem (by simp)
          intro i h1 h2
          rw [List.getElem_set]
          split
          · rename_i h3; subst h3; simp
          · rfl
        · exact List.set_eq_of_length_le (by simp; omega)
      simp only [e]; exact h0
    · exact h0
  · exact Nat.zero_le _
/-- Whom a path leads to, for an owner. -/
def ownW (ns : List Nod) (u g : Int) (l : List UInt8) : Int × Nat :=
  if (lkFind ns u g l true).1 ≠ 0 then ((lkFind ns u g l true).1, 0) else if u ≠ 0 ∧ u ≠ (nodeAt ns (lkFind ns u g l true).2).uid then (4, 0) else (0, (lkFind ns u g l true).2)
noncomputable def askT (f : FsD) (u g t : Int) : Bool := askB4 f u g && inB 0 1000000 t
noncomputable def askMd (f : FsD) (u g m : Int) : Bool := askB4 f u g && inB 0 511 m
/-- One node of a file system of the call's own is written into. -/
theorem Own.turn {w : World} {R g cap : Nat} {ps : List (Nod × Value)} (h : Own w R (.slice (some ⟨g, 0, none⟩) ps.length cap) ps) {i j : Nat} (hi : i < ps.length) (hj : j < 7) (u : Value) (q : Nod)
    (hq : (nodV ps[i]).set j u = nodV (q, ps[i].2)) (hl : q.list = ps[i].1.list) :
    Own (w.setCell ⟨g, i * 7 + j, none⟩ u) R (.slice (some ⟨g, 0, none⟩) ps.length cap) (ps.set i (q, ps[i].2)) := by
  refine (h.put hi hj u (q, ps[i].2) hq ?_ ?_).1
  · simp only; rw [hl]; exact h.ent _ (List.getElem_mem hi)
  · refine dist_set h.dist fun j2 hj2 hne => ?_
    exact h.dist i j2 hi hj2 (Ne.symm hne)
theorem map_turn {ps : List (Nod × Value)} {ns : List Nod} (h : ps.map Prod.fst = ns) {i : Nat} (q : Nod) (lv : Value) : (ps.set i (q, lv)).map Prod.fst = ns.set i q := by rw [List.map_set, h]
theorem at_map {ps : List (Nod × Value)} {ns : List Nod} (h : ps.map Prod.fst = ns) {i : Nat} (hi : i < ps.length) : ps[i].1 = nodeAt ns i := by
  subst h
  rw [show nodeAt (ps.map Prod.fst) i = (ps.map Prod.fst)[i]'(by simpa using hi) from getD_at (by simpa using hi)]; simp

theorem l5Asked_is {f : FsD} {v : Value} {u g t : Int} {w : World} {b : Bool} (h : askT f u g t = b) (hR : FsA w v f) (hs : szF f ≤ 1048576) : Calls Tryz.prog 57 #[v, .agg #[.int .i64 u, .int .i64 g], .int .i64 t] w fun e w' => e = .returned (.bool b) ∧ Below w.heap.size w w' := by
  have HR := Lib.hid hR
  obtain ⟨nv, rfl, hN⟩ := hR
  obtain ⟨o, c, rfl, hm, hH⟩ := hN
  have HB0 : Hid (Below w.heap.size w ((w.alloc (.cells #[.slice o f.nodes.length c, .int .i64 f.room] 34)).alloc (.cells #[.int .i64 u, .int .i64 g] 36))) := Lib.hid (((Below.refl _ _).alloc (Nat.le_refl _) _).alloc (by simp) _)
  have HS := Lib.hid hs
  cases hk : askB4 f u g with
  | false =>
    have HK := Lib.hid hk
    have HV : Hid (b = false) := Lib.hid (by rw [← h]; unfold askT; rw [hk]; rfl)
    clear hk h hs hH
    go_enter Tryz.func57, Tryz.ntmps57
    go_wp2_with fail
    refine (l4Asked_isM HK.out (HR.out.below HB0.out) HS.out).mono ?_
    rintro e w1 ⟨rfl, hb1⟩
    have HB1 := Lib.hid (HB0.out.trans (hb1.mono HB0.out.size))
    clear hb1
    go_wp2
    go_ret
    exact ⟨ret_bool HV.out.symm, HB1.out⟩
  | true =>
    have HK := Lib.hid hk
    have HV : Hid (b = inB 0 1000000 t) := Lib.hid (by rw [← h]; unfold askT; rw [hk]; rfl)
    clear hk h hs hH
    go_enter Tryz.func57, Tryz.ntmps57
    go_wp2_with fail
    refine (l4Asked_isM HK.out (HR.out.below HB0.out) HS.out).mono ?_
    rintro e w1 ⟨rfl, hb1⟩
    have HB1 := Lib.hid (HB0.out.trans (hb1.mono HB0.out.size))
    clear hb1
    go_wp2_with (go_at_call 60; refine (l1In_any _ _ _ _).mono ?_; rintro e w' ⟨rfl, rfl⟩)
    all_goals
      go_ret
      exact ⟨ret_bool (by rw [HV.out]), HB1.out⟩

set_option maxRecDepth 100000 in
set_option maxHeartbeats 8000000 in
theorem specSetTime_any (f : FsD) (v : Value) (u g : Int) (s : ByteArray) (t : Int) (w : World) (hR : FsA w v f) (hs : szF f ≤ 1048576) (hss : s.size ≤ 1048576) : Calls Tryz.prog 28 #[v, .agg #[.int .i64 u, .int .i64 g], .string s, .int .i64 t] w fun e w' => ∃ nv ps, e = .returned (.tuple #[.agg #[nv, .int .i64 (setF (askT f u g t) f (ownW f.nodes u g s.data.toList) (fun n => { n with time := t })).room], .int .i64 (setC (askT f u g t) (ownW f.nodes u g s.data.toList)), .bool (askT f u g t)]) ∧ ps.map Prod.fst = (setF (askT f u g t) f (ownW f.nodes u g s.data.toList) (fun n => { n with time := t })).nodes ∧ Own w' w.heap.size nv ps ∧ Below w.heap.size w w' := by
  have HR := Lib.hid hR
  obtain ⟨nv, rfl, hN⟩ := hR
  obtain ⟨o, c, rfl, hm, hH⟩ := hN
  unfold maxLen at hm
  have HH := Lib.hid hH
  have HS := Lib.hid hs
  have hl : f.nodes.length ≤ 1048576 := (lists_small hs).1
  have HB0 : Hid (Below w.heap.size w (((w.alloc (.cells #[.slice o f.nodes.length c, .int .i64 f.room] 34)).alloc (.cells #[.int .i64 u, .int .i64 g] 36)).alloc (.cells #[.slice none 0 0, .int .i64 0] 34))) := Lib.hid ((((Below.refl _ _).alloc (Nat.le_refl _) _).alloc (by simp) _).alloc (by simp; omega) _)
  have KA0 := Lib.hid (m3_0 w (.cells #[.slice o f.nodes.length c, .int .i64 f.room] 34) (.cells #[.int .i64 u, .int .i64 g] 36) (.cells #[.slice none 0 0, .int .i64 0] 34))
  have KB0 := Lib.hid (m3_1 w (.cells #[.slice o f.nodes.length c, .int .i64 f.room] 34) (.cells #[.int .i64 u, .int .i64 g] 36) (.cells #[.slice none 0 0, .int .i64 0] 34))
  have KZ0 := Lib.hid (m3_2 w (.cells #[.slice o f.nodes.length c, .int .i64 f.room] 34) (.cells #[.int .i64 u, .int .i64 g] 36) (.cells #[.slice none 0 0, .int .i64 0] 34))
  clear hH hs
  obtain ⟨F, hF⟩ : ∃ F, F = (setF (askT f u g t) f (ownW f.nodes u g s.data.toList) (fun n => { n with time := t })) := ⟨_, rfl⟩
  obtain ⟨CD, hCD⟩ : ∃ C, C = (setC (askT f u g t) (ownW f.nodes u g s.data.toList)) := ⟨_, rfl⟩
  obtain ⟨AK, hAK⟩ : ∃ A, A = (askT f u g t) := ⟨_, rfl⟩
  rw [← hF, ← hCD, ← hAK]
  cases hk : askT f u g t with
  | false =>
    have HAK : Hid (AK = false) := Lib.hid (by rw [hAK, hk])
    have HF : Hid (F = fs0) := Lib.hid (by rw [hF, hk]; rfl)
    have HCD : Hid (CD = 0) := Lib.hid (by rw [hCD, hk]; rfl)
    have HK := Lib.hid hk
    clear hk hF hCD hAK
    go_enter Tryz.func28, Tryz.ntmps28
    go_wp2_with fail
    refine (l5Asked_is HK.out (HR.out.below HB0.out) HS.out).mono ?_
    rintro e w1 ⟨rfl, hb1⟩
    have HB1 := Lib.hid (HB0.out.trans (hb1.mono HB0.out.size))
    have KA1 := Lib.hid (blk_step hb1 KA0.out)
    have KB1 := Lib.hid (blk_step hb1 KB0.out)
    have KZ1 := Lib.hid (blk_step hb1 KZ0.out)
    have KA1c0 : w1.cell? ⟨w.heap.size, 0, none⟩ = some (.slice o f.nodes.length c) := cell_blk KA1.out 0
    have KA1c1 : w1.cell? ⟨w.heap.size, 1, none⟩ = some (.int .i64 f.room) := cell_blk KA1.out 1
    have KB1c0 : w1.cell? ⟨w.heap.size + 1, 0, none⟩ = some (.int .i64 u) := cell_blk KB1.out 0
    have KB1c1 : w1.cell? ⟨w.heap.size + 1, 1, none⟩ = some (.int .i64 g) := cell_blk KB1.out 1
    have KZ1c0 : w1.cell? ⟨w.heap.size + 2, 0, none⟩ = some (.slice none 0 0) := cell_blk KZ1.out 0
    have KZ1c1 : w1.cell? ⟨w.heap.size + 2, 1, none⟩ = some (.int .i64 0) := cell_blk KZ1.out 1
    have KZ1f := frozen_blk KZ1.out
    clear hb1
    have hq := two_set KZ1.out (.slice none 0 0) (.int .i64 0)
    have t0 := (cell_blk hq 0).trans rfl
    have t1 := (cell_blk hq 1).trans rfl
    go_wp2
    refine bodyPost_ret (v := .tuple #[.agg #[.slice none 0 0, .int .i64 0], .int .i64 0, .bool false]) (by simp [results, Tryz.results28, go_sem, t0, t1]) rfl ?_
    exact ⟨_, [], by rw [HF.out, HCD.out, HAK.out]; rfl, by rw [HF.out]; rfl, Own.nil _ _, bel_set2 HB1.out (by omega)⟩
  | true =>
    have HAK : Hid (AK = true) := Lib.hid (by rw [hAK, hk])
    have hk4 : askB4 f u g = true := by unfold askT at hk; simp only [Bool.and_eq_true] at hk; exact hk.1
    have HK4 := Lib.hid hk4
    have HK := Lib.hid hk
    have HL := Lib.hid (look_of (ask_good hk4) HS.out)
    obtain ⟨⟨cd, nd⟩, hfd⟩ : ∃ q, lkFind f.nodes u g s.data.toList true = q := ⟨_, rfl⟩
    have hlt : nd < f.nodes.length := by have h7 := lkFind_lt HL.out.1 u g s.data.toList true; rw [hfd] at h7; exact h7
    have HFD := Lib.hid hfd
    rw [hk] at hF hCD
    clear hk hk4 hAK
    by_cases hc : cd = 0
    · subst hc
      by_cases hu : u ≠ 0 ∧ u ≠ (nodeAt f.nodes nd).uid
      · have hr : ownW f.nodes u g s.data.toList = (4, 0) := by unfold ownW; rw [hfd]; simp [hu]
        have HF : Hid (F = f) := Lib.hid (by rw [hF]; exact setF_bad (by rw [hr]; simp))
        have HCD : Hid (CD = 4) := Lib.hid (by rw [hCD, hr]; rfl)
        obtain ⟨hu1, hu2⟩ := hu
        have hub1 : (u != 0) = true := by rw [bne_iff_ne]; exact hu1
        have hub2 : (u != (nodeAt f.nodes nd).uid) = true := by rw [bne_iff_ne]; exact hu2
        clear hF hCD hr hfd hu1 hu2
        go_enter Tryz.func28, Tryz.ntmps28
        go_wp2_with fail
        refine (l5Asked_is HK.out (HR.out.below HB0.out) HS.out).mono ?_
        rintro e w1 ⟨rfl, hb1⟩
        have HB1 := Lib.hid (HB0.out.trans (hb1.mono HB0.out.size))
        have KA1 := Lib.hid (blk_step hb1 KA0.out)
        have KB1 := Lib.hid (blk_step hb1 KB0.out)
        have KZ1 := Lib.hid (blk_step hb1 KZ0.out)
        have KA1c0 : w1.cell? ⟨w.heap.size, 0, none⟩ = some (.slice o f.nodes.length c) := cell_blk KA1.out 0
        have KA1c1 : w1.cell? ⟨w.heap.size, 1, none⟩ = some (.int .i64 f.room) := cell_blk KA1.out 1
        have KB1c0 : w1.cell? ⟨w.heap.size + 1, 0, none⟩ = some (.int .i64 u) := cell_blk KB1.out 0
        have KB1c1 : w1.cell? ⟨w.heap.size + 1, 1, none⟩ = some (.int .i64 g) := cell_blk KB1.out 1
        have KZ1c0 : w1.cell? ⟨w.heap.size + 2, 0, none⟩ = some (.slice none 0 0) := cell_blk KZ1.out 0
        have KZ1c1 : w1.cell? ⟨w.heap.size + 2, 1, none⟩ = some (.int .i64 0) := cell_blk KZ1.out 1
        clear hb1
        go_wp2_with fail
        refine (l3Own_any f _ _ (HR.out.below HB1.out) HS.out).mono ?_
        rintro e w2 ⟨nv2, ps2, rfl, hps2, hO2, hb2⟩
        obtain ⟨oo2, cc2, rfl, -⟩ := owns_form hO2.row
        have hpl : nd < ps2.length ∧ ps2.length ≤ 1048576 := by have h9 : ps2.length = f.nodes.length := (by rw [← hps2]; simp); omega
        obtain ⟨hndl, hpl8⟩ := hpl
        have HPS := Lib.hid hps2
        have HB2 := Lib.hid (HB1.out.trans (hb2.mono HB1.out.size))
        have KA2 := Lib.hid (blk_step hb2 KA1.out)
        have KB2 := Lib.hid (blk_step hb2 KB1.out)
        have KZ2 := Lib.hid (blk_step hb2 KZ1.out)
        have hsz1 := lt_of_heap KZ1.out
        have HO2 := Lib.hid (hO2.low (R := w.heap.size + 3) hsz1)
        have HB2a := Lib.hid (HB2.out.alloc HB2.out.size (.cells #[.slice oo2 ps2.length cc2, .int .i64 f.room] 34))
        have KO2 := Lib.hid (heap_alloc_new w2 (.cells #[.slice oo2 ps2.length cc2, .int .i64 f.room] 34))
        have HO2a := Lib.hid (HO2.out.below ((Below.refl _ w2).alloc (Nat.le_refl _) (.cells #[.slice oo2 ps2.length cc2, .int .i64 f.room] 34)))
        have KA2a := Lib.hid ((Below.heap_alloc w2 (.cells #[.slice oo2 ps2.length cc2, .int .i64 f.room] 34) _ (lt_of_heap KA2.out)).trans KA2.out)
        have KB2a := Lib.hid ((Below.heap_alloc w2 (.cells #[.slice oo2 ps2.length cc2, .int .i64 f.room] 34) _ (lt_of_heap KB2.out)).trans KB2.out)
        have KZ2a := Lib.hid ((Below.heap_alloc w2 (.cells #[.slice oo2 ps2.length cc2, .int .i64 f.room] 34) _ (lt_of_heap KZ2.out)).trans KZ2.out)
        have KA2ac0 : (w2.alloc (.cells #[.slice oo2 ps2.length cc2, .int .i64 f.room] 34)).cell? ⟨w.heap.size, 0, none⟩ = some (.slice o f.nodes.length c) := cell_blk KA2a.out 0
        have KA2ac1 : (w2.alloc (.cells #[.slice oo2 ps2.length cc2, .int .i64 f.room] 34)).cell? ⟨w.heap.size, 1, none⟩ = some (.int .i64 f.room) := cell_blk KA2a.out 1
        have KB2ac0 : (w2.alloc (.cells #[.slice oo2 ps2.length cc2, .int .i64 f.room] 34)).cell? ⟨w.heap.size + 1, 0, none⟩ = some (.int .i64 u) := cell_blk KB2a.out 0
        have KB2ac1 : (w2.alloc (.cells #[.slice oo2 ps2.length cc2, .int .i64 f.room] 34)).cell? ⟨w.heap.size + 1, 1, none⟩ = some (.int .i64 g) := cell_blk KB2a.out 1
        clear hps2 hO2 hb2
        go_wp2_with fail
        refine (l4Find_isM HFD.out (HR.out.below HB2a.out) HL.out.1 HL.out.2 (by omega)).mono ?_
        rintro e w3 ⟨rfl, hb3⟩
        have HB3 := Lib.hid (HB2a.out.trans (hb3.mono HB2a.out.size))
        have KO3 := Lib.hid (blk_step hb3 KO2.out)
        have HO3 := Lib.hid (HO2a.out.below hb3)
        have KA3 := Lib.hid (blk_step hb3 KA2a.out)
        have KB3 := Lib.hid (blk_step hb3 KB2a.out)
        have KZ3 := Lib.hid (blk_step hb3 KZ2a.out)
        clear KA2ac0 KA2ac1 KB2ac0 KB2ac1
        have KA3c0 : w3.cell? ⟨w.heap.size, 0, none⟩ = some (.slice o f.nodes.length c) := cell_blk KA3.out 0
        have KA3c1 : w3.cell? ⟨w.heap.size, 1, none⟩ = some (.int .i64 f.room) := cell_blk KA3.out 1
        have KB3c0 : w3.cell? ⟨w.heap.size + 1, 0, none⟩ = some (.int .i64 u) := cell_blk KB3.out 0
        have KB3c1 : w3.cell? ⟨w.heap.size + 1, 1, none⟩ = some (.int .i64 g) := cell_blk KB3.out 1
        have KZ3c0 : w3.cell? ⟨w.heap.size + 2, 0, none⟩ = some (.slice none 0 0) := cell_blk KZ3.out 0
        have KZ3c1 : w3.cell? ⟨w.heap.size + 2, 1, none⟩ = some (.int .i64 0) := cell_blk KZ3.out 1
        have KZ3f := frozen_blk KZ3.out
        have ko0 : w3.cell? ⟨w2.heap.size, 0, none⟩ = some (.slice oo2 ps2.length cc2) := cell_blk KO3.out 0
        have ko1 : w3.cell? ⟨w2.heap.size, 1, none⟩ = some (.int .i64 f.room) := cell_blk KO3.out 1
        clear hb3
        clear KA1c0 KA1c1 KB1c0 KB1c1 KZ1c0 KZ1c1
        obtain ⟨g3, f3, lv3, e3, hcc, hee⟩ := nod_cells (c := c) HH.out hlt HB3.out
        obtain ⟨d0, d1, d2, d3, d4, d5, d6⟩ := hcc
        subst e3
        obtain ⟨nq, hnq⟩ : ∃ nq, nodeAt f.nodes nd = nq := ⟨_, rfl⟩
        rw [hnq] at hub2 d2
        clear hee hnq d0 d1 d3 d4 d5 d6
        go_wp2
        have z0 := fun d os => cell_regrown (w := w3) KA3c0 d os
        have z1 := fun d os => cell_regrown (w := w3) KB3c0 d os
        have z2 := fun d os => cell_regrown (w := w3) d2 d os
        refine wp_region_quiet_below (by kernel_rfl) (by kernel_rfl) ?_
        repeat (first | go_big_quiet_step (fail) | quiet_step (fail))
        refine wpQuiet_nil ?_
        intro w5 hwq
        have hb5 : Below w3.heap.size w3 w5 := by obtain ⟨pp, rfl⟩ := hwq; exact below_regrown _ _ _
        have HB5 := Lib.hid (HB3.out.trans (hb5.mono HB3.out.size))
        have KO5 := Lib.hid (blk_step hb5 KO3.out)
        have HO5 := Lib.hid (HO3.out.below hb5)
        have KA5 := Lib.hid (blk_step hb5 KA3.out)
        have KB5 := Lib.hid (blk_step hb5 KB3.out)
        have KZ5 := Lib.hid (blk_step hb5 KZ3.out)
        clear KA3c0 KA3c1 KB3c0 KB3c1 KZ3c0 KZ3c1 KZ3f ko0 ko1 hwq hb5 z0 z1 z2 d2
        have KZ5c0 : w5.cell? ⟨w.heap.size + 2, 0, none⟩ = some (.slice none 0 0) := cell_blk KZ5.out 0
        have KZ5c1 : w5.cell? ⟨w.heap.size + 2, 1, none⟩ = some (.int .i64 0) := cell_blk KZ5.out 1
        have KZ5f := frozen_blk KZ5.out
        have ko0 : w5.cell? ⟨w2.heap.size, 0, none⟩ = some (.slice oo2 ps2.length cc2) := cell_blk KO5.out 0
        have ko1 : w5.cell? ⟨w2.heap.size, 1, none⟩ = some (.int .i64 f.room) := cell_blk KO5.out 1
        go_wp2
        have hq := two_set KZ5.out (.slice oo2 ps2.length cc2) (.int .i64 f.room)
        have t0 := (cell_blk hq 0).trans rfl
        have t1 := (cell_blk hq 1).trans rfl
        refine bodyPost_ret (v := .tuple #[.agg #[(.slice oo2 ps2.length cc2), .int .i64 f.room], .int .i64 4, .bool true]) (by simp [results, Tryz.results28, go_sem, t0, t1]) rfl ?_
        have hA9 : Own _ w.heap.size _ _ := ((HO5.out.besides (b := w.heap.size + 2) (by omega) 0 (.slice oo2 ps2.length cc2)).besides (b := w.heap.size + 2) (by omega) 1 (.int .i64 f.room)).low (by omega)
        have hB9 := bel_set2 (G := w.heap.size + 2) (x := (.slice oo2 ps2.length cc2)) (y := .int .i64 f.room) HB5.out (by omega)
        first
          | exact ⟨_, ps2, by rw [HF.out, HCD.out, HAK.out], by rw [HF.out]; exact HPS.out, hA9, hB9⟩
          | exact ⟨_, by rw [HF.out, HCD.out, HAK.out], ps2, by rw [HF.out]; exact HPS.out, hA9, hB9⟩
      · have hr : ownW f.nodes u g s.data.toList = (0, nd) := by unfold ownW; rw [hfd]; simp [hu]
        have HF : Hid (F = ⟨f.nodes.set nd { (nodeAt f.nodes nd) with time := t }, f.room⟩) := Lib.hid (by rw [hF, hr]; rfl)
        have HCD : Hid (CD = 0) := Lib.hid (by rw [hCD, hr]; rfl)
        clear hF hCD hr hfd
        by_cases hu0 : u = 0
        · have hub1 : (u != 0) = false := by rw [hu0]; rfl
          clear hu hu0
          go_enter Tryz.func28, Tryz.ntmps28
          go_wp2_with fail
          refine (l5Asked_is HK.out (HR.out.below HB0.out) HS.out).mono ?_
          rintro e w1 ⟨rfl, hb1⟩
          have HB1 := Lib.hid (HB0.out.trans (hb1.mono HB0.out.size))
          have KA1 := Lib.hid (blk_step hb1 KA0.out)
          have KB1 := Lib.hid (blk_step hb1 KB0.out)
          have KZ1 := Lib.hid (blk_step hb1 KZ0.out)
          have KA1c0 : w1.cell? ⟨w.heap.size, 0, none⟩ = some (.slice o f.nodes.length c) := cell_blk KA1.out 0
          have KA1c1 : w1.cell? ⟨w.heap.size, 1, none⟩ = some (.int .i64 f.room) := cell_blk KA1.out 1
          have KB1c0 : w1.cell? ⟨w.heap.size + 1, 0, none⟩ = some (.int .i64 u) := cell_blk KB1.out 0
          have KB1c1 : w1.cell? ⟨w.heap.size + 1, 1, none⟩ = some (.int .i64 g) := cell_blk KB1.out 1
          have KZ1c0 : w1.cell? ⟨w.heap.size + 2, 0, none⟩ = some (.slice none 0 0) := cell_blk KZ1.out 0
          have KZ1c1 : w1.cell? ⟨w.heap.size + 2, 1, none⟩ = some (.int .i64 0) := cell_blk KZ1.out 1
          clear hb1
          go_wp2_with fail
          refine (l3Own_any f _ _ (HR.out.below HB1.out) HS.out).mono ?_
          rintro e w2 ⟨nv2, ps2, rfl, hps2, hO2, hb2⟩
          obtain ⟨oo2, cc2, rfl, -⟩ := owns_form hO2.row
          have hpl : nd < ps2.length ∧ ps2.length ≤ 1048576 := by have h9 : ps2.length = f.nodes.length := (by rw [← hps2]; simp); omega
          obtain ⟨hndl, hpl8⟩ := hpl
          have HPS := Lib.hid hps2
          have HB2 := Lib.hid (HB1.out.trans (hb2.mono HB1.out.size))
          have KA2 := Lib.hid (blk_step hb2 KA1.out)
          have KB2 := Lib.hid (blk_step hb2 KB1.out)
          have KZ2 := Lib.hid (blk_step hb2 KZ1.out)
          have hsz1 := lt_of_heap KZ1.out
          have HO2 := Lib.hid (hO2.low (R := w.heap.size + 3) hsz1)
          have HB2a := Lib.hid (HB2.out.alloc HB2.out.size (.cells #[.slice oo2 ps2.length cc2, .int .i64 f.room] 34))
          have KO2 := Lib.hid (heap_alloc_new w2 (.cells #[.slice oo2 ps2.length cc2, .int .i64 f.room] 34))
          have HO2a := Lib.hid (HO2.out.below ((Below.refl _ w2).alloc (Nat.le_refl _) (.cells #[.slice oo2 ps2.length cc2, .int .i64 f.room] 34)))
          have KA2a := Lib.hid ((Below.heap_alloc w2 (.cells #[.slice oo2 ps2.length cc2, .int .i64 f.room] 34) _ (lt_of_heap KA2.out)).trans KA2.out)
          have KB2a := Lib.hid ((Below.heap_alloc w2 (.cells #[.slice oo2 ps2.length cc2, .int .i64 f.room] 34) _ (lt_of_heap KB2.out)).trans KB2.out)
          have KZ2a := Lib.hid ((Below.heap_alloc w2 (.cells #[.slice oo2 ps2.length cc2, .int .i64 f.room] 34) _ (lt_of_heap KZ2.out)).trans KZ2.out)
          have KA2ac0 : (w2.alloc (.cells #[.slice oo2 ps2.length cc2, .int .i64 f.room] 34)).cell? ⟨w.heap.size, 0, none⟩ = some (.slice o f.nodes.length c) := cell_blk KA2a.out 0
          have KA2ac1 : (w2.alloc (.cells #[.slice oo2 ps2.length cc2, .int .i64 f.room] 34)).cell? ⟨w.heap.size, 1, none⟩ = some (.int .i64 f.room) := cell_blk KA2a.out 1
          have KB2ac0 : (w2.alloc (.cells #[.slice oo2 ps2.length cc2, .int .i64 f.room] 34)).cell? ⟨w.heap.size + 1, 0, none⟩ = some (.int .i64 u) := cell_blk KB2a.out 0
          have KB2ac1 : (w2.alloc (.cells #[.slice oo2 ps2.length cc2, .int .i64 f.room] 34)).cell? ⟨w.heap.size + 1, 1, none⟩ = some (.int .i64 g) := cell_blk KB2a.out 1
          clear hps2 hO2 hb2
          go_wp2_with fail
          refine (l4Find_isM HFD.out (HR.out.below HB2a.out) HL.out.1 HL.out.2 (by omega)).mono ?_
          rintro e w3 ⟨rfl, hb3⟩
          have HB3 := Lib.hid (HB2a.out.trans (hb3.mono HB2a.out.size))
          have KO3 := Lib.hid (blk_step hb3 KO2.out)
          have HO3 := Lib.hid (HO2a.out.below hb3)
          have KA3 := Lib.hid (blk_step hb3 KA2a.out)
          have KB3 := Lib.hid (blk_step hb3 KB2a.out)
          have KZ3 := Lib.hid (blk_step hb3 KZ2a.out)
          clear KA2ac0 KA2ac1 KB2ac0 KB2ac1
          have KA3c0 : w3.cell? ⟨w.heap.size, 0, none⟩ = some (.slice o f.nodes.length c) := cell_blk KA3.out 0
          have KA3c1 : w3.cell? ⟨w.heap.size, 1, none⟩ = some (.int .i64 f.room) := cell_blk KA3.out 1
          have KB3c0 : w3.cell? ⟨w.heap.size + 1, 0, none⟩ = some (.int .i64 u) := cell_blk KB3.out 0
          have KB3c1 : w3.cell? ⟨w.heap.size + 1, 1, none⟩ = some (.int .i64 g) := cell_blk KB3.out 1
          have KZ3c0 : w3.cell? ⟨w.heap.size + 2, 0, none⟩ = some (.slice none 0 0) := cell_blk KZ3.out 0
          have KZ3c1 : w3.cell? ⟨w.heap.size + 2, 1, none⟩ = some (.int .i64 0) := cell_blk KZ3.out 1
          have KZ3f := frozen_blk KZ3.out
          have ko0 : w3.cell? ⟨w2.heap.size, 0, none⟩ = some (.slice oo2 ps2.length cc2) := cell_blk KO3.out 0
          have ko1 : w3.cell? ⟨w2.heap.size, 1, none⟩ = some (.int .i64 f.room) := cell_blk KO3.out 1
          clear hb3
          clear KA1c0 KA1c1 KB1c0 KB1c1 KZ1c0 KZ1c1
          go_wp2
          have z0 := fun d os => cell_regrown (w := w3) KA3c0 d os
          have z1 := fun d os => cell_regrown (w := w3) KB3c0 d os
          refine wp_region_quiet_below (by kernel_rfl) (by kernel_rfl) ?_
          repeat (first | go_big_quiet_step (fail) | quiet_step (fail))
          refine wpQuiet_nil ?_
          intro w5 hwq
          have hb5 : Below w3.heap.size w3 w5 := by obtain ⟨pp, rfl⟩ := hwq; exact below_regrown _ _ _
          have HB5 := Lib.hid (HB3.out.trans (hb5.mono HB3.out.size))
          have KO5 := Lib.hid (blk_step hb5 KO3.out)
          have HO5 := Lib.hid (HO3.out.below hb5)
          have KA5 := Lib.hid (blk_step hb5 KA3.out)
          have KB5 := Lib.hid (blk_step hb5 KB3.out)
          have KZ5 := Lib.hid (blk_step hb5 KZ3.out)
          clear KA3c0 KA3c1 KB3c0 KB3c1 KZ3c0 KZ3c1 KZ3f ko0 ko1 hwq hb5 z0 z1
          have KZ5c0 : w5.cell? ⟨w.heap.size + 2, 0, none⟩ = some (.slice none 0 0) := cell_blk KZ5.out 0
          have KZ5c1 : w5.cell? ⟨w.heap.size + 2, 1, none⟩ = some (.int .i64 0) := cell_blk KZ5.out 1
          have KZ5f := frozen_blk KZ5.out
          have ko0 : w5.cell? ⟨w2.heap.size, 0, none⟩ = some (.slice oo2 ps2.length cc2) := cell_blk KO5.out 0
          have ko1 : w5.cell? ⟨w2.heap.size, 1, none⟩ = some (.int .i64 f.room) := cell_blk KO5.out 1
          obtain ⟨g9, cap9, e9, hRg, hgl, hn9, hm9, hc9, hfr9⟩ := HO5.out.at (i := nd) (by omega)
          simp only [Value.slice.injEq, true_and] at e9
          obtain ⟨rfl, rfl⟩ := e9
          have HPN := Lib.hid (at_map HPS.out (i := nd) (by omega))
          have x9 := hc9.c4
          have HW9 := Lib.hid (HO5.out.turn (i := nd) (j := 4) (by omega) (by decide) (.int .i64 t) { (ps2[nd]'(by omega)).1 with time := t } rfl rfl)
          have HK9 : Hid (((w5.setCell ⟨g9, nd * 7 + 4, none⟩ (.int .i64 t)).heap[w.heap.size + 2]? = some (.cells #[.slice none 0 0, .int .i64 0] 34))) := Lib.hid ((Below.heap_setCell w5 ⟨g9, nd * 7 + 4, none⟩ _ _ (by simp only; omega)).trans KZ5.out)
          have HBL : Hid (Below w.heap.size w (w5.setCell ⟨g9, nd * 7 + 4, none⟩ (.int .i64 t))) := Lib.hid (HB5.out.setCell (p := ⟨g9, nd * 7 + 4, none⟩) (by simp only; omega) _)
          have hx9 : nd < ps2.length := by omega
          have hlt9 : g9 < w2.heap.size := HO2.out.ltE.1 g9 (by simp [Value.ownBlock])
          have hKO9 := (Below.heap_setCell w5 ⟨g9, nd * 7 + 4, none⟩ (.int .i64 t) w2.heap.size (by simp only; omega)).trans KO5.out
          have ko90 : (w5.setCell ⟨g9, nd * 7 + 4, none⟩ (.int .i64 t)).cell? ⟨w2.heap.size, 0, none⟩ = some (.slice (some ⟨g9, 0, none⟩) ps2.length cc2) := cell_blk hKO9 0
          have ko91 : (w5.setCell ⟨g9, nd * 7 + 4, none⟩ (.int .i64 t)).cell? ⟨w2.heap.size, 1, none⟩ = some (.int .i64 f.room) := cell_blk hKO9 1
          clear hKO9
          go_wp2
          have hq := two_set HK9.out (.slice (some ⟨g9, 0, none⟩) ps2.length cc2) (.int .i64 f.room)
          have t0 := (cell_blk hq 0).trans rfl
          have t1 := (cell_blk hq 1).trans rfl
          refine bodyPost_ret (v := .tuple #[.agg #[(.slice (some ⟨g9, 0, none⟩) ps2.length cc2), .int .i64 f.room], .int .i64 0, .bool true]) (by simp [results, Tryz.results28, go_sem, t0, t1]) rfl ?_
          have hA9 : Own _ w.heap.size _ _ := ((HW9.out.besides (b := w.heap.size + 2) (by omega) 0 (.slice (some ⟨g9, 0, none⟩) ps2.length cc2)).besides (b := w.heap.size + 2) (by omega) 1 (.int .i64 f.room)).low (by omega)
          have hB9 := bel_set2 (G := w.heap.size + 2) (x := (.slice (some ⟨g9, 0, none⟩) ps2.length cc2)) (y := .int .i64 f.room) HBL.out (by omega)
          first
            | exact ⟨_, ps2.set nd ({ (ps2[nd]'hx9).1 with time := t }, (ps2[nd]'hx9).2), by rw [HF.out, HCD.out, HAK.out], by rw [HF.out, map_turn HPS.out, HPN.out], hA9, hB9⟩
            | exact ⟨_, by rw [HF.out, HCD.out, HAK.out], ps2.set nd ({ (ps2[nd]'hx9).1 with time := t }, (ps2[nd]'hx9).2), by rw [HF.out, map_turn HPS.out, HPN.out], hA9, hB9⟩
        · have hu2 : u = (nodeAt f.nodes nd).uid := by
            by_cases h : u = (nodeAt f.nodes nd).uid
            · exact h
            · exact absurd ⟨hu0, h⟩ hu
          have hub1 : (u != 0) = true := by rw [bne_iff_ne]; exact hu0
          have hub2 : (u != (nodeAt f.nodes nd).uid) = false := by rw [bne_eq_false_iff_eq]; exact hu2
          clear hu hu0 hu2
          go_enter Tryz.func28, Tryz.ntmps28
          go_wp2_with fail
          refine (l5Asked_is HK.out (HR.out.below HB0.out) HS.out).mono ?_
          rintro e w1 ⟨rfl, hb1⟩
          have HB1 := Lib.hid (HB0.out.trans (hb1.mono HB0.out.size))
          have KA1 := Lib.hid (blk_step hb1 KA0.out)
          have KB1 := Lib.hid (blk_step hb1 KB0.out)
          have KZ1 := Lib.hid (blk_step hb1 KZ0.out)
          have KA1c0 : w1.cell? ⟨w.heap.size, 0, none⟩ = some (.slice o f.nodes.length c) := cell_blk KA1.out 0
          have KA1c1 : w1.cell? ⟨w.heap.size, 1, none⟩ = some (.int .i64 f.room) := cell_blk KA1.out 1
          have KB1c0 : w1.cell? ⟨w.heap.size + 1, 0, none⟩ = some (.int .i64 u) := cell_blk KB1.out 0
          have KB1c1 : w1.cell? ⟨w.heap.size + 1, 1, none⟩ = some (.int .i64 g) := cell_blk KB1.out 1
          have KZ1c0 : w1.cell? ⟨w.heap.size + 2, 0, none⟩ = some (.slice none 0 0) := cell_blk KZ1.out 0
          have KZ1c1 : w1.cell? ⟨w.heap.size + 2, 1, none⟩ = some (.int .i64 0) := cell_blk KZ1.out 1
          clear hb1
          go_wp2_with fail
          refine (l3Own_any f _ _ (HR.out.below HB1.out) HS.out).mono ?_
          rintro e w2 ⟨nv2, ps2, rfl, hps2, hO2, hb2⟩
          obtain ⟨oo2, cc2, rfl, -⟩ := owns_form hO2.row
          have hpl : nd < ps2.length ∧ ps2.length ≤ 1048576 := by have h9 : ps2.length = f.nodes.length := (by rw [← hps2]; simp); omega
          obtain ⟨hndl, hpl8⟩ := hpl
          have HPS := Lib.hid hps2
          have HB2 := Lib.hid (HB1.out.trans (hb2.mono HB1.out.size))
          have KA2 := Lib.hid (blk_step hb2 KA1.out)
          have KB2 := Lib.hid (blk_step hb2 KB1.out)
          have KZ2 := Lib.hid (blk_step hb2 KZ1.out)
          have hsz1 := lt_of_heap KZ1.out
          have HO2 := Lib.hid (hO2.low (R := w.heap.size + 3) hsz1)
          have HB2a := Lib.hid (HB2.out.alloc HB2.out.size (.cells #[.slice oo2 ps2.length cc2, .int .i64 f.room] 34))
          have KO2 := Lib.hid (heap_alloc_new w2 (.cells #[.slice oo2 ps2.length cc2, .int .i64 f.room] 34))
          have HO2a := Lib.hid (HO2.out.below ((Below.refl _ w2).alloc (Nat.le_refl _) (.cells #[.slice oo2 ps2.length cc2, .int .i64 f.room] 34)))
          have KA2a := Lib.hid ((Below.heap_alloc w2 (.cells #[.slice oo2 ps2.length cc2, .int .i64 f.room] 34) _ (lt_of_heap KA2.out)).trans KA2.out)
          have KB2a := Lib.hid ((Below.heap_alloc w2 (.cells #[.slice oo2 ps2.length cc2, .int .i64 f.room] 34) _ (lt_of_heap KB2.out)).trans KB2.out)
          have KZ2a := Lib.hid ((Below.heap_alloc w2 (.cells #[.slice oo2 ps2.length cc2, .int .i64 f.room] 34) _ (lt_of_heap KZ2.out)).trans KZ2.out)
          have KA2ac0 : (w2.alloc (.cells #[.slice oo2 ps2.length cc2, .int .i64 f.room] 34)).cell? ⟨w.heap.size, 0, none⟩ = some (.slice o f.nodes.length c) := cell_blk KA2a.out 0
          have KA2ac1 : (w2.alloc (.cells #[.slice oo2 ps2.length cc2, .int .i64 f.room] 34)).cell? ⟨w.heap.size, 1, none⟩ = some (.int .i64 f.room) := cell_blk KA2a.out 1
          have KB2ac0 : (w2.alloc (.cells #[.slice oo2 ps2.length cc2, .int .i64 f.room] 34)).cell? ⟨w.heap.size + 1, 0, none⟩ = some (.int .i64 u) := cell_blk KB2a.out 0
          have KB2ac1 : (w2.alloc (.cells #[.slice oo2 ps2.length cc2, .int .i64 f.room] 34)).cell? ⟨w.heap.size + 1, 1, none⟩ = some (.int .i64 g) := cell_blk KB2a.out 1
          clear hps2 hO2 hb2
          go_wp2_with fail
          refine (l4Find_isM HFD.out (HR.out.below HB2a.out) HL.out.1 HL.out.2 (by omega)).mono ?_
          rintro e w3 ⟨rfl, hb3⟩
          have HB3 := Lib.hid (HB2a.out.trans (hb3.mono HB2a.out.size))
          have KO3 := Lib.hid (blk_step hb3 KO2.out)
          have HO3 := Lib.hid (HO2a.out.below hb3)
          have KA3 := Lib.hid (blk_step hb3 KA2a.out)
          have KB3 := Lib.hid (blk_step hb3 KB2a.out)
          have KZ3 := Lib.hid (blk_step hb3 KZ2a.out)
          clear KA2ac0 KA2ac1 KB2ac0 KB2ac1
          have KA3c0 : w3.cell? ⟨w.heap.size, 0, none⟩ = some (.slice o f.nodes.length c) := cell_blk KA3.out 0
          have KA3c1 : w3.cell? ⟨w.heap.size, 1, none⟩ = some (.int .i64 f.room) := cell_blk KA3.out 1
          have KB3c0 : w3.cell? ⟨w.heap.size + 1, 0, none⟩ = some (.int .i64 u) := cell_blk KB3.out 0
          have KB3c1 : w3.cell? ⟨w.heap.size + 1, 1, none⟩ = some (.int .i64 g) := cell_blk KB3.out 1
          have KZ3c0 : w3.cell? ⟨w.heap.size + 2, 0, none⟩ = some (.slice none 0 0) := cell_blk KZ3.out 0
          have KZ3c1 : w3.cell? ⟨w.heap.size + 2, 1, none⟩ = some (.int .i64 0) := cell_blk KZ3.out 1
          have KZ3f := frozen_blk KZ3.out
          have ko0 : w3.cell? ⟨w2.heap.size, 0, none⟩ = some (.slice oo2 ps2.length cc2) := cell_blk KO3.out 0
          have ko1 : w3.cell? ⟨w2.heap.size, 1, none⟩ = some (.int .i64 f.room) := cell_blk KO3.out 1
          clear hb3
          clear KA1c0 KA1c1 KB1c0 KB1c1 KZ1c0 KZ1c1
          obtain ⟨g3, f3, lv3, e3, hcc, hee⟩ := nod_cells (c := c) HH.out hlt HB3.out
          obtain ⟨d0, d1, d2, d3, d4, d5, d6⟩ := hcc
          subst e3
          obtain ⟨nq, hnq⟩ : ∃ nq, nodeAt f.nodes nd = nq := ⟨_, rfl⟩
          rw [hnq] at hub2 d2
          clear hee hnq d0 d1 d3 d4 d5 d6
          go_wp2
          have z0 := fun d os => cell_regrown (w := w3) KA3c0 d os
          have z1 := fun d os => cell_regrown (w := w3) KB3c0 d os
          have z2 := fun d os => cell_regrown (w := w3) d2 d os
          refine wp_region_quiet_below (by kernel_rfl) (by kernel_rfl) ?_
          repeat (first | go_big_quiet_step (fail) | quiet_step (fail))
          refine wpQuiet_nil ?_
          intro w5 hwq
          have hb5 : Below w3.heap.size w3 w5 := by obtain ⟨pp, rfl⟩ := hwq; exact below_regrown _ _ _
          have HB5 := Lib.hid (HB3.out.trans (hb5.mono HB3.out.size))
          have KO5 := Lib.hid (blk_step hb5 KO3.out)
          have HO5 := Lib.hid (HO3.out.below hb5)
          have KA5 := Lib.hid (blk_step hb5 KA3.out)
          have KB5 := Lib.hid (blk_step hb5 KB3.out)
          have KZ5 := Lib.hid (blk_step hb5 KZ3.out)
          clear KA3c0 KA3c1 KB3c0 KB3c1 KZ3c0 KZ3c1 KZ3f ko0 ko1 hwq hb5 z0 z1 z2 d2
          have KZ5c0 : w5.cell? ⟨w.heap.size + 2, 0, none⟩ = some (.slice none 0 0) := cell_blk KZ5.out 0
          have KZ5c1 : w5.cell? ⟨w.heap.size + 2, 1, none⟩ = some (.int .i64 0) := cell_blk KZ5.out 1
          have KZ5f := frozen_blk KZ5.out
          have ko0 : w5.cell? ⟨w2.heap.size, 0, none⟩ = some (.slice oo2 ps2.length cc2) := cell_blk KO5.out 0
          have ko1 : w5.cell? ⟨w2.heap.size, 1, none⟩ = some (.int .i64 f.room) := cell_blk KO5.out 1
          obtain ⟨g9, cap9, e9, hRg, hgl, hn9, hm9, hc9, hfr9⟩ := HO5.out.at (i := nd) (by omega)
          simp only [Value.slice.injEq, true_and] at e9
          obtain ⟨rfl, rfl⟩ := e9
          have HPN := Lib.hid (at_map HPS.out (i := nd) (by omega))
          have x9 := hc9.c4
          have HW9 := Lib.hid (HO5.out.turn (i := nd) (j := 4) (by omega) (by decide) (.int .i64 t) { (ps2[nd]'(by omega)).1 with time := t } rfl rfl)
          have HK9 : Hid (((w5.setCell ⟨g9, nd * 7 + 4, none⟩ (.int .i64 t)).heap[w.heap.size + 2]? = some (.cells #[.slice none 0 0, .int .i64 0] 34))) := Lib.hid ((Below.heap_setCell w5 ⟨g9, nd * 7 + 4, none⟩ _ _ (by simp only; omega)).trans KZ5.out)
          have HBL : Hid (Below w.heap.size w (w5.setCell ⟨g9, nd * 7 + 4, none⟩ (.int .i64 t))) := Lib.hid (HB5.out.setCell (p := ⟨g9, nd * 7 + 4, none⟩) (by simp only; omega) _)
          have hx9 : nd < ps2.length := by omega
          have hlt9 : g9 < w2.heap.size := HO2.out.ltE.1 g9 (by simp [Value.ownBlock])
          have hKO9 := (Below.heap_setCell w5 ⟨g9, nd * 7 + 4, none⟩ (.int .i64 t) w2.heap.size (by simp only; omega)).trans KO5.out
          have ko90 : (w5.setCell ⟨g9, nd * 7 + 4, none⟩ (.int .i64 t)).cell? ⟨w2.heap.size, 0, none⟩ = some (.slice (some ⟨g9, 0, none⟩) ps2.length cc2) := cell_blk hKO9 0
          have ko91 : (w5.setCell ⟨g9, nd * 7 + 4, none⟩ (.int .i64 t)).cell? ⟨w2.heap.size, 1, none⟩ = some (.int .i64 f.room) := cell_blk hKO9 1
          clear hKO9
          go_wp2
          have hq := two_set HK9.out (.slice (some ⟨g9, 0, none⟩) ps2.length cc2) (.int .i64 f.room)
          have t0 := (cell_blk hq 0).trans rfl
          have t1 := (cell_blk hq 1).trans rfl
          refine bodyPost_ret (v := .tuple #[.agg #[(.slice (some ⟨g9, 0, none⟩) ps2.length cc2), .int .i64 f.room], .int .i64 0, .bool true]) (by simp [results, Tryz.results28, go_sem, t0, t1]) rfl ?_
          have hA9 : Own _ w.heap.size _ _ := ((HW9.out.besides (b := w.heap.size + 2) (by omega) 0 (.slice (some ⟨g9, 0, none⟩) ps2.length cc2)).besides (b := w.heap.size + 2) (by omega) 1 (.int .i64 f.room)).low (by omega)
          have hB9 := bel_set2 (G := w.heap.size + 2) (x := (.slice (some ⟨g9, 0, none⟩) ps2.length cc2)) (y := .int .i64 f.room) HBL.out (by omega)
          first
            | exact ⟨_, ps2.set nd ({ (ps2[nd]'hx9).1 with time := t }, (ps2[nd]'hx9).2), by rw [HF.out, HCD.out, HAK.out], by rw [HF.out, map_turn HPS.out, HPN.out], hA9, hB9⟩
            | exact ⟨_, by rw [HF.out, HCD.out, HAK.out], ps2.set nd ({ (ps2[nd]'hx9).1 with time := t }, (ps2[nd]'hx9).2), by rw [HF.out, map_turn HPS.out, HPN.out], hA9, hB9⟩
    · have hr : ownW f.nodes u g s.data.toList = (cd, 0) := by unfold ownW; rw [hfd]; simp [hc]
      have HF : Hid (F = f) := Lib.hid (by rw [hF]; exact setF_bad (by rw [hr]; exact hc))
      have HCD : Hid (CD = cd) := Lib.hid (by rw [hCD, hr]; rfl)
      have hcb : (cd != 0) = true := by rw [bne_iff_ne]; exact hc
      clear hF hCD hr hfd hc
      go_enter Tryz.func28, Tryz.ntmps28
      go_wp2_with fail
      refine (l5Asked_is HK.out (HR.out.below HB0.out) HS.out).mono ?_
      rintro e w1 ⟨rfl, hb1⟩
      have HB1 := Lib.hid (HB0.out.trans (hb1.mono HB0.out.size))
      have KA1 := Lib.hid (blk_step hb1 KA0.out)
      have KB1 := Lib.hid (blk_step hb1 KB0.out)
      have KZ1 := Lib.hid (blk_step hb1 KZ0.out)
      have KA1c0 : w1.cell? ⟨w.heap.size, 0, none⟩ = some (.slice o f.nodes.length c) := cell_blk KA1.out 0
      have KA1c1 : w1.cell? ⟨w.heap.size, 1, none⟩ = some (.int .i64 f.room) := cell_blk KA1.out 1
      have KB1c0 : w1.cell? ⟨w.heap.size + 1, 0, none⟩ = some (.int .i64 u) := cell_blk KB1.out 0
      have KB1c1 : w1.cell? ⟨w.heap.size + 1, 1, none⟩ = some (.int .i64 g) := cell_blk KB1.out 1
      have KZ1c0 : w1.cell? ⟨w.heap.size + 2, 0, none⟩ = some (.slice none 0 0) := cell_blk KZ1.out 0
      have KZ1c1 : w1.cell? ⟨w.heap.size + 2, 1, none⟩ = some (.int .i64 0) := cell_blk KZ1.out 1
      clear hb1
      go_wp2_with fail
      refine (l3Own_any f _ _ (HR.out.below HB1.out) HS.out).mono ?_
      rintro e w2 ⟨nv2, ps2, rfl, hps2, hO2, hb2⟩
      obtain ⟨oo2, cc2, rfl, -⟩ := owns_form hO2.row
      have hpl : nd < ps2.length ∧ ps2.length ≤ 1048576 := by have h9 : ps2.length = f.nodes.length := (by rw [← hps2]; simp); omega
      obtain ⟨hndl, hpl8⟩ := hpl
      have HPS := Lib.hid hps2
      have HB2 := Lib.hid (HB1.out.trans (hb2.mono HB1.out.size))
      have KA2 := Lib.hid (blk_step hb2 KA1.out)
      have KB2 := Lib.hid (blk_step hb2 KB1.out)
      have KZ2 := Lib.hid (blk_step hb2 KZ1.out)
      have hsz1 := lt_of_heap KZ1.out
      have HO2 := Lib.hid (hO2.low (R := w.heap.size + 3) hsz1)
      have HB2a := Lib.hid (HB2.out.alloc HB2.out.size (.cells #[.slice oo2 ps2.length cc2, .int .i64 f.room] 34))
      have KO2 := Lib.hid (heap_alloc_new w2 (.cells #[.slice oo2 ps2.length cc2, .int .i64 f.room] 34))
      have HO2a := Lib.hid (HO2.out.below ((Below.refl _ w2).alloc (Nat.le_refl _) (.cells #[.slice oo2 ps2.length cc2, .int .i64 f.room] 34)))
      have KA2a := Lib.hid ((Below.heap_alloc w2 (.cells #[.slice oo2 ps2.length cc2, .int .i64 f.room] 34) _ (lt_of_heap KA2.out)).trans KA2.out)
      have KB2a := Lib.hid ((Below.heap_alloc w2 (.cells #[.slice oo2 ps2.length cc2, .int .i64 f.room] 34) _ (lt_of_heap KB2.out)).trans KB2.out)
      have KZ2a := Lib.hid ((Below.heap_alloc w2 (.cells #[.slice oo2 ps2.length cc2, .int .i64 f.room] 34) _ (lt_of_heap KZ2.out)).trans KZ2.out)
      have KA2ac0 : (w2.alloc (.cells #[.slice oo2 ps2.length cc2, .int .i64 f.room] 34)).cell? ⟨w.heap.size, 0, none⟩ = some (.slice o f.nodes.length c) := cell_blk KA2a.out 0
      have KA2ac1 : (w2.alloc (.cells #[.slice oo2 ps2.length cc2, .int .i64 f.room] 34)).cell? ⟨w.heap.size, 1, none⟩ = some (.int .i64 f.room) := cell_blk KA2a.out 1
      have KB2ac0 : (w2.alloc (.cells #[.slice oo2 ps2.length cc2, .int .i64 f.room] 34)).cell? ⟨w.heap.size + 1, 0, none⟩ = some (.int .i64 u) := cell_blk KB2a.out 0
      have KB2ac1 : (w2.alloc (.cells #[.slice oo2 ps2.length cc2, .int .i64 f.room] 34)).cell? ⟨w.heap.size + 1, 1, none⟩ = some (.int .i64 g) := cell_blk KB2a.out 1
      clear hps2 hO2 hb2
      go_wp2_with fail
      refine (l4Find_isM HFD.out (HR.out.below HB2a.out) HL.out.1 HL.out.2 (by omega)).mono ?_
      rintro e w3 ⟨rfl, hb3⟩
      have HB3 := Lib.hid (HB2a.out.trans (hb3.mono HB2a.out.size))
      have KO3 := Lib.hid (blk_step hb3 KO2.out)
      have HO3 := Lib.hid (HO2a.out.below hb3)
      have KA3 := Lib.hid (blk_step hb3 KA2a.out)
      have KB3 := Lib.hid (blk_step hb3 KB2a.out)
      have KZ3 := Lib.hid (blk_step hb3 KZ2a.out)
      clear KA2ac0 KA2ac1 KB2ac0 KB2ac1
      have KA3c0 : w3.cell? ⟨w.heap.size, 0, none⟩ = some (.slice o f.nodes.length c) := cell_blk KA3.out 0
      have KA3c1 : w3.cell? ⟨w.heap.size, 1, none⟩ = some (.int .i64 f.room) := cell_blk KA3.out 1
      have KB3c0 : w3.cell? ⟨w.heap.size + 1, 0, none⟩ = some (.int .i64 u) := cell_blk KB3.out 0
      have KB3c1 : w3.cell? ⟨w.heap.size + 1, 1, none⟩ = some (.int .i64 g) := cell_blk KB3.out 1
      have KZ3c0 : w3.cell? ⟨w.heap.size + 2, 0, none⟩ = some (.slice none 0 0) := cell_blk KZ3.out 0
      have KZ3c1 : w3.cell? ⟨w.heap.size + 2, 1, none⟩ = some (.int .i64 0) := cell_blk KZ3.out 1
      have KZ3f := frozen_blk KZ3.out
      have ko0 : w3.cell? ⟨w2.heap.size, 0, none⟩ = some (.slice oo2 ps2.length cc2) := cell_blk KO3.out 0
      have ko1 : w3.cell? ⟨w2.heap.size, 1, none⟩ = some (.int .i64 f.room) := cell_blk KO3.out 1
      clear hb3
      clear KA1c0 KA1c1 KB1c0 KB1c1 KZ1c0 KZ1c1
      go_wp2
      have hq := two_set KZ3.out (.slice oo2 ps2.length cc2) (.int .i64 f.room)
      have t0 := (cell_blk hq 0).trans rfl
      have t1 := (cell_blk hq 1).trans rfl
      refine bodyPost_ret (v := .tuple #[.agg #[(.slice oo2 ps2.length cc2), .int .i64 f.room], .int .i64 cd, .bool true]) (by simp [results, Tryz.results28, go_sem, t0, t1]) rfl ?_
      have hA9 : Own _ w.heap.size _ _ := ((HO3.out.besides (b := w.heap.size + 2) (by omega) 0 (.slice oo2 ps2.length cc2)).besides (b := w.heap.size + 2) (by omega) 1 (.int .i64 f.room)).low (by omega)
      have hB9 := bel_set2 (G := w.heap.size + 2) (x := (.slice oo2 ps2.length cc2)) (y := .int .i64 f.room) HB3.out (by omega)
      first
        | exact ⟨_, ps2, by rw [HF.out, HCD.out, HAK.out], by rw [HF.out]; exact HPS.out, hA9, hB9⟩
        | exact ⟨_, by rw [HF.out, HCD.out, HAK.out], ps2, by rw [HF.out]; exact HPS.out, hA9, hB9⟩

set_option maxRecDepth 100000 in
set_option maxHeartbeats 8000000 in
theorem specSetMode_any (f : FsD) (v : Value) (u g : Int) (s : ByteArray) (md : Int) (w : World) (hR : FsA w v f) (hs : szF f ≤ 1048576) (hss : s.size ≤ 1048576) : Calls Tryz.prog 25 #[v, .agg #[.int .i64 u, .int .i64 g], .string s, .int .i64 md] w fun e w' => ∃ nv ps, e = .returned (.tuple #[.agg #[nv, .int .i64 (setF (askMd f u g md) f (ownW f.nodes u g s.data.toList) (fun n => { n with mode := md })).room], .int .i64 (setC (askMd f u g md) (ownW f.nodes u g s.data.toList)), .bool (askMd f u g md)]) ∧ ps.map Prod.fst = (setF (askMd f u g md) f (ownW f.nodes u g s.data.toList) (fun n => { n with mode := md })).nodes ∧ Own w' w.heap.size nv ps ∧ Below w.heap.size w w' := by
  have HR := Lib.hid hR
  obtain ⟨nv, rfl, hN⟩ := hR
  obtain ⟨o, c, rfl, hm, hH⟩ := hN
  unfold maxLen at hm
  have HH := Lib.hid hH
  have HS := Lib.hid hs
  have hl : f.nodes.length ≤ 1048576 := (lists_small hs).1
  have HB0 : Hid (Below w.heap.size w (((w.alloc (.cells #[.slice o f.nodes.length c, .int .i64 f.room] 34)).alloc (.cells #[.int .i64 u, .int .i64 g] 36)).alloc (.cells #[.slice none 0 0, .int .i64 0] 34))) := Lib.hid ((((Below.refl _ _).alloc (Nat.le_refl _) _).alloc (by simp) _).alloc (by simp; omega) _)
  have KA0 := Lib.hid (m3_0 w (.cells #[.slice o f.nodes.length c, .int .i64 f.room] 34) (.cells #[.int .i64 u, .int .i64 g] 36) (.cells #[.slice none 0 0, .int .i64 0] 34))
  have KB0 := Lib.hid (m3_1 w (.cells #[.slice o f.nodes.length c, .int .i64 f.room] 34) (.cells #[.int .i64 u, .int .i64 g] 36) (.cells #[.slice none 0 0, .int .i64 0] 34))
  have KZ0 := Lib.hid (m3_2 w (.cells #[.slice o f.nodes.length c, .int .i64 f.room] 34) (.cells #[.int .i64 u, .int .i64 g] 36) (.cells #[.slice none 0 0, .int .i64 0] 34))
  clear hH hs
  obtain ⟨F, hF⟩ : ∃ F, F = (setF (askMd f u g md) f (ownW f.nodes u g s.data.toList) (fun n => { n with mode := md })) := ⟨_, rfl⟩
  obtain ⟨CD, hCD⟩ : ∃ C, C = (setC (askMd f u g md) (ownW f.nodes u g s.data.toList)) := ⟨_, rfl⟩
  obtain ⟨AK, hAK⟩ : ∃ A, A = (askMd f u g md) := ⟨_, rfl⟩
  rw [← hF, ← hCD, ← hAK]
  cases hk : askMd f u g md with
  | false =>
    have HAK : Hid (AK = false) := Lib.hid (by rw [hAK, hk])
    have HF : Hid (F = fs0) := Lib.hid (by rw [hF, hk]; rfl)
    have HCD : Hid (CD = 0) := Lib.hid (by rw [hCD, hk]; rfl)
    have HK := Lib.hid hk
    clear hk hF hCD hAK
    cases hk4 : askB4 f u g with
    | false =>
      have HK4 := Lib.hid hk4
      clear hk4
      go_enter Tryz.func25, Tryz.ntmps25
      go_wp2_with fail
      refine (l4Asked_isM HK4.out (HR.out.below HB0.out) HS.out).mono ?_
      rintro e w1 ⟨rfl, hb1⟩
      have HB1 := Lib.hid (HB0.out.trans (hb1.mono HB0.out.size))
      have KA1 := Lib.hid (blk_step hb1 KA0.out)
      have KB1 := Lib.hid (blk_step hb1 KB0.out)
      have KZ1 := Lib.hid (blk_step hb1 KZ0.out)
      have KA1c0 : w1.cell? ⟨w.heap.size, 0, none⟩ = some (.slice o f.nodes.length c) := cell_blk KA1.out 0
      have KA1c1 : w1.cell? ⟨w.heap.size, 1, none⟩ = some (.int .i64 f.room) := cell_blk KA1.out 1
      have KB1c0 : w1.cell? ⟨w.heap.size + 1, 0, none⟩ = some (.int .i64 u) := cell_blk KB1.out 0
      have KB1c1 : w1.cell? ⟨w.heap.size + 1, 1, none⟩ = some (.int .i64 g) := cell_blk KB1.out 1
      have KZ1c0 : w1.cell? ⟨w.heap.size + 2, 0, none⟩ = some (.slice none 0 0) := cell_blk KZ1.out 0
      have KZ1c1 : w1.cell? ⟨w.heap.size + 2, 1, none⟩ = some (.int .i64 0) := cell_blk KZ1.out 1
      have KZ1f := frozen_blk KZ1.out
      clear hb1
      have hq := two_set KZ1.out (.slice none 0 0) (.int .i64 0)
      have t0 := (cell_blk hq 0).trans rfl
      have t1 := (cell_blk hq 1).trans rfl
      go_wp2
      refine bodyPost_ret (v := .tuple #[.agg #[.slice none 0 0, .int .i64 0], .int .i64 0, .bool false]) (by simp [results, Tryz.results25, go_sem, t0, t1]) rfl ?_
      exact ⟨_, [], by rw [HF.out, HCD.out, HAK.out]; rfl, by rw [HF.out]; rfl, Own.nil _ _, bel_set2 HB1.out (by omega)⟩
    | true =>
      have HK4 := Lib.hid hk4
      have HIN : Hid (inB 0 511 md = false) := Lib.hid (by have h := HK.out; unfold askMd at h; rw [hk4] at h; simpa using h)
      clear hk4
      go_enter Tryz.func25, Tryz.ntmps25
      go_wp2_with fail
      refine (l4Asked_isM HK4.out (HR.out.below HB0.out) HS.out).mono ?_
      rintro e w1 ⟨rfl, hb1⟩
      have HB1 := Lib.hid (HB0.out.trans (hb1.mono HB0.out.size))
      have KA1 := Lib.hid (blk_step hb1 KA0.out)
      have KB1 := Lib.hid (blk_step hb1 KB0.out)
      have KZ1 := Lib.hid (blk_step hb1 KZ0.out)
      have KA1c0 : w1.cell? ⟨w.heap.size, 0, none⟩ = some (.slice o f.nodes.length c) := cell_blk KA1.out 0
      have KA1c1 : w1.cell? ⟨w.heap.size, 1, none⟩ = some (.int .i64 f.room) := cell_blk KA1.out 1
      have KB1c0 : w1.cell? ⟨w.heap.size + 1, 0, none⟩ = some (.int .i64 u) := cell_blk KB1.out 0
      have KB1c1 : w1.cell? ⟨w.heap.size + 1, 1, none⟩ = some (.int .i64 g) := cell_blk KB1.out 1
      have KZ1c0 : w1.cell? ⟨w.heap.size + 2, 0, none⟩ = some (.slice none 0 0) := cell_blk KZ1.out 0
      have KZ1c1 : w1.cell? ⟨w.heap.size + 2, 1, none⟩ = some (.int .i64 0) := cell_blk KZ1.out 1
      have KZ1f := frozen_blk KZ1.out
      clear hb1
      go_wp2_with fail
      refine (l1Mode_any _ _).mono ?_
      rintro e w1b ⟨rfl, rfl⟩
      rw [HIN.out]
      have hq := two_set KZ1.out (.slice none 0 0) (.int .i64 0)
      have t0 := (cell_blk hq 0).trans rfl
      have t1 := (cell_blk hq 1).trans rfl
      go_wp2
      refine bodyPost_ret (v := .tuple #[.agg #[.slice none 0 0, .int .i64 0], .int .i64 0, .bool false]) (by simp [results, Tryz.results25, go_sem, t0, t1]) rfl ?_
      exact ⟨_, [], by rw [HF.out, HCD.out, HAK.out]; rfl, by rw [HF.out]; rfl, Own.nil _ _, bel_set2 HB1.out (by omega)⟩
  | true =>
    have HAK : Hid (AK = true) := Lib.hid (by rw [hAK, hk])
    have hk4 : askB4 f u g = true := by unfold askMd at hk; simp only [Bool.and_eq_true] at hk; exact hk.1
    have HK4 := Lib.hid hk4
    have HK := Lib.hid hk
    have HL := Lib.hid (look_of (ask_good hk4) HS.out)
    obtain ⟨⟨cd, nd⟩, hfd⟩ : ∃ q, lkFind f.nodes u g s.data.toList true = q := ⟨_, rfl⟩
    have hlt : nd < f.nodes.length := by have h7 := lkFind_lt HL.out.1 u g s.data.toList true; rw [hfd] at h7; exact h7
    have HFD := Lib.hid hfd
    rw [hk] at hF hCD
    clear hk hk4 hAK
    by_cases hc : cd = 0
    · subst hc
      by_cases hu : u ≠ 0 ∧ u ≠ (nodeAt f.nodes nd).uid
      · have hr : ownW f.nodes u g s.data.toList = (4, 0) := by unfold ownW; rw [hfd]; simp [hu]
        have HF : Hid (F = f) := Lib.hid (by rw [hF]; exact setF_bad (by rw [hr]; simp))
        have HCD : Hid (CD = 4) := Lib.hid (by rw [hCD, hr]; rfl)
        obtain ⟨hu1, hu2⟩ := hu
        have hub1 : (u != 0) = true := by rw [bne_iff_ne]; exact hu1
        have hub2 : (u != (nodeAt f.nodes nd).uid) = true := by rw [bne_iff_ne]; exact hu2
        clear hF hCD hr hfd hu1 hu2
        go_enter Tryz.func25, Tryz.ntmps25
        go_wp2_with fail
        refine (l4Asked_isM HK4.out (HR.out.below HB0.out) HS.out).mono ?_
        rintro e w1 ⟨rfl, hb1⟩
        have HB1 := Lib.hid (HB0.out.trans (hb1.mono HB0.out.size))
        have KA1 := Lib.hid (blk_step hb1 KA0.out)
        have KB1 := Lib.hid (blk_step hb1 KB0.out)
        have KZ1 := Lib.hid (blk_step hb1 KZ0.out)
        have KA1c0 : w1.cell? ⟨w.heap.size, 0, none⟩ = some (.slice o f.nodes.length c) := cell_blk KA1.out 0
        have KA1c1 : w1.cell? ⟨w.heap.size, 1, none⟩ = some (.int .i64 f.room) := cell_blk KA1.out 1
        have KB1c0 : w1.cell? ⟨w.heap.size + 1, 0, none⟩ = some (.int .i64 u) := cell_blk KB1.out 0
        have KB1c1 : w1.cell? ⟨w.heap.size + 1, 1, none⟩ = some (.int .i64 g) := cell_blk KB1.out 1
        have KZ1c0 : w1.cell? ⟨w.heap.size + 2, 0, none⟩ = some (.slice none 0 0) := cell_blk KZ1.out 0
        have KZ1c1 : w1.cell? ⟨w.heap.size + 2, 1, none⟩ = some (.int .i64 0) := cell_blk KZ1.out 1
        clear hb1
        go_wp2_with fail
        refine (l1Mode_any _ _).mono ?_
        rintro e w1b ⟨rfl, rfl⟩
        rw [show inB 0 511 md = true by have h := HK.out; unfold askMd at h; simp only [Bool.and_eq_true] at h; exact h.2]
        go_wp2_with fail
        refine (l3Own_any f _ _ (HR.out.below HB1.out) HS.out).mono ?_
        rintro e w2 ⟨nv2, ps2, rfl, hps2, hO2, hb2⟩
        obtain ⟨oo2, cc2, rfl, -⟩ := owns_form hO2.row
        have hpl : nd < ps2.length ∧ ps2.length ≤ 1048576 := by have h9 : ps2.length = f.nodes.length := (by rw [← hps2]; simp); omega
        obtain ⟨hndl, hpl8⟩ := hpl
        have HPS := Lib.hid hps2
        have HB2 := Lib.hid (HB1.out.trans (hb2.mono HB1.out.size))
        have KA2 := Lib.hid (blk_step hb2 KA1.out)
        have KB2 := Lib.hid (blk_step hb2 KB1.out)
        have KZ2 := Lib.hid (blk_step hb2 KZ1.out)
        have hsz1 := lt_of_heap KZ1.out
        have HO2 := Lib.hid (hO2.low (R := w.heap.size + 3) hsz1)
        have HB2a := Lib.hid (HB2.out.alloc HB2.out.size (.cells #[.slice oo2 ps2.length cc2, .int .i64 f.room] 34))
        have KO2 := Lib.hid (heap_alloc_new w2 (.cells #[.slice oo2 ps2.length cc2, .int .i64 f.room] 34))
        have HO2a := Lib.hid (HO2.out.below ((Below.refl _ w2).alloc (Nat.le_refl _) (.cells #[.slice oo2 ps2.length cc2, .int .i64 f.room] 34)))
        have KA2a := Lib.hid ((Below.heap_alloc w2 (.cells #[.slice oo2 ps2.length cc2, .int .i64 f.room] 34) _ (lt_of_heap KA2.out)).trans KA2.out)
        have KB2a := Lib.hid ((Below.heap_alloc w2 (.cells #[.slice oo2 ps2.length cc2, .int .i64 f.room] 34) _ (lt_of_heap KB2.out)).trans KB2.out)
        have KZ2a := Lib.hid ((Below.heap_alloc w2 (.cells #[.slice oo2 ps2.length cc2, .int .i64 f.room] 34) _ (lt_of_heap KZ2.out)).trans KZ2.out)
        have KA2ac0 : (w2.alloc (.cells #[.slice oo2 ps2.length cc2, .int .i64 f.room] 34)).cell? ⟨w.heap.size, 0, none⟩ = some (.slice o f.nodes.length c) := cell_blk KA2a.out 0
        have KA2ac1 : (w2.alloc (.cells #[.slice oo2 ps2.length cc2, .int .i64 f.room] 34)).cell? ⟨w.heap.size, 1, none⟩ = some (.int .i64 f.room) := cell_blk KA2a.out 1
        have KB2ac0 : (w2.alloc (.cells #[.slice oo2 ps2.length cc2, .int .i64 f.room] 34)).cell? ⟨w.heap.size + 1, 0, none⟩ = some (.int .i64 u) := cell_blk KB2a.out 0
        have KB2ac1 : (w2.alloc (.cells #[.slice oo2 ps2.length cc2, .int .i64 f.room] 34)).cell? ⟨w.heap.size + 1, 1, none⟩ = some (.int .i64 g) := cell_blk KB2a.out 1
        clear hps2 hO2 hb2
        go_wp2_with fail
        refine (l4Find_isM HFD.out (HR.out.below HB2a.out) HL.out.1 HL.out.2 (by omega)).mono ?_
        rintro e w3 ⟨rfl, hb3⟩
        have HB3 := Lib.hid (HB2a.out.trans (hb3.mono HB2a.out.size))
        have KO3 := Lib.hid (blk_step hb3 KO2.out)
        have HO3 := Lib.hid (HO2a.out.below hb3)
        have KA3 := Lib.hid (blk_step hb3 KA2a.out)
        have KB3 := Lib.hid (blk_step hb3 KB2a.out)
        have KZ3 := Lib.hid (blk_step hb3 KZ2a.out)
        clear KA2ac0 KA2ac1 KB2ac0 KB2ac1
        have KA3c0 : w3.cell? ⟨w.heap.size, 0, none⟩ = some (.slice o f.nodes.length c) := cell_blk KA3.out 0
        have KA3c1 : w3.cell? ⟨w.heap.size, 1, none⟩ = some (.int .i64 f.room) := cell_blk KA3.out 1
        have KB3c0 : w3.cell? ⟨w.heap.size + 1, 0, none⟩ = some (.int .i64 u) := cell_blk KB3.out 0
        have KB3c1 : w3.cell? ⟨w.heap.size + 1, 1, none⟩ = some (.int .i64 g) := cell_blk KB3.out 1
        have KZ3c0 : w3.cell? ⟨w.heap.size + 2, 0, none⟩ = some (.slice none 0 0) := cell_blk KZ3.out 0
        have KZ3c1 : w3.cell? ⟨w.heap.size + 2, 1, none⟩ = some (.int .i64 0) := cell_blk KZ3.out 1
        have KZ3f := frozen_blk KZ3.out
        have ko0 : w3.cell? ⟨w2.heap.size, 0, none⟩ = some (.slice oo2 ps2.length cc2) := cell_blk KO3.out 0
        have ko1 : w3.cell? ⟨w2.heap.size, 1, none⟩ = some (.int .i64 f.room) := cell_blk KO3.out 1
        clear hb3
        clear KA1c0 KA1c1 KB1c0 KB1c1 KZ1c0 KZ1c1
        obtain ⟨g3, f3, lv3, e3, hcc, hee⟩ := nod_cells (c := c) HH.out hlt HB3.out
        obtain ⟨d0, d1, d2, d3, d4, d5, d6⟩ := hcc
        subst e3
        obtain ⟨nq, hnq⟩ : ∃ nq, nodeAt f.nodes nd = nq := ⟨_, rfl⟩
        rw [hnq] at hub2 d2
        clear hee hnq d0 d1 d3 d4 d5 d6
        go_wp2
        have z0 := fun d os => cell_regrown (w := w3) KA3c0 d os
        have z1 := fun d os => cell_regrown (w := w3) KB3c0 d os
        have z2 := fun d os => cell_regrown (w := w3) d2 d os
        refine wp_region_quiet_below (by kernel_rfl) (by kernel_rfl) ?_
        repeat (first | go_big_quiet_step (fail) | quiet_step (fail))
        refine wpQuiet_nil ?_
        intro w5 hwq
        have hb5 : Below w3.heap.size w3 w5 := by obtain ⟨pp, rfl⟩ := hwq; exact below_regrown _ _ _
        have HB5 := Lib.hid (HB3.out.trans (hb5.mono HB3.out.size))
        have KO5 := Lib.hid (blk_step hb5 KO3.out)
        have HO5 := Lib.hid (HO3.out.below hb5)
        have KA5 := Lib.hid (blk_step hb5 KA3.out)
        have KB5 := Lib.hid (blk_step hb5 KB3.out)
        have KZ5 := Lib.hid (blk_step hb5 KZ3.out)
        clear KA3c0 KA3c1 KB3c0 KB3c1 KZ3c0 KZ3c1 KZ3f ko0 ko1 hwq hb5 z0 z1 z2 d2
        have KZ5c0 : w5.cell? ⟨w.heap.size + 2, 0, none⟩ = some (.slice none 0 0) := cell_blk KZ5.out 0
        have KZ5c1 : w5.cell? ⟨w.heap.size + 2, 1, none⟩ = some (.int .i64 0) := cell_blk KZ5.out 1
        have KZ5f := frozen_blk KZ5.out
        have ko0 : w5.cell? ⟨w2.heap.size, 0, none⟩ = some (.slice oo2 ps2.length cc2) := cell_blk KO5.out 0
        have ko1 : w5.cell? ⟨w2.heap.size, 1, none⟩ = some (.int .i64 f.room) := cell_blk KO5.out 1
        go_wp2
        have hq := two_set KZ5.out (.slice oo2 ps2.length cc2) (.int .i64 f.room)
        have t0 := (cell_blk hq 0).trans rfl
        have t1 := (cell_blk hq 1).trans rfl
        refine bodyPost_ret (v := .tuple #[.agg #[(.slice oo2 ps2.length cc2), .int .i64 f.room], .int .i64 4, .bool true]) (by simp [results, Tryz.results25, go_sem, t0, t1]) rfl ?_
        have hA9 : Own _ w.heap.size _ _ := ((HO5.out.besides (b := w.heap.size + 2) (by omega) 0 (.slice oo2 ps2.length cc2)).besides (b := w.heap.size + 2) (by omega) 1 (.int .i64 f.room)).low (by omega)
        have hB9 := bel_set2 (G := w.heap.size + 2) (x := (.slice oo2 ps2.length cc2)) (y := .int .i64 f.room) HB5.out (by omega)
        first
          | exact ⟨_, ps2, by rw [HF.out, HCD.out, HAK.out], by rw [HF.out]; exact HPS.out, hA9, hB9⟩
          | exact ⟨_, by rw [HF.out, HCD.out, HAK.out], ps2, by rw [HF.out]; exact HPS.out, hA9, hB9⟩
      · have hr : ownW f.nodes u g s.data.toList = (0, nd) := by unfold ownW; rw [hfd]; simp [hu]
        have HF : Hid (F = ⟨f.nodes.set nd { (nodeAt f.nodes nd) with mode := md }, f.room⟩) := Lib.hid (by rw [hF, hr]; rfl)
        have HCD : Hid (CD = 0) := Lib.hid (by rw [hCD, hr]; rfl)
        clear hF hCD hr hfd
        by_cases hu0 : u = 0
        · have hub1 : (u != 0) = false := by rw [hu0]; rfl
          clear hu hu0
          go_enter Tryz.func25, Tryz.ntmps25
          go_wp2_with fail
          refine (l4Asked_isM HK4.out (HR.out.below HB0.out) HS.out).mono ?_
          rintro e w1 ⟨rfl, hb1⟩
          have HB1 := Lib.hid (HB0.out.trans (hb1.mono HB0.out.size))
          have KA1 := Lib.hid (blk_step hb1 KA0.out)
          have KB1 := Lib.hid (blk_step hb1 KB0.out)
          have KZ1 := Lib.hid (blk_step hb1 KZ0.out)
          have KA1c0 : w1.cell? ⟨w.heap.size, 0, none⟩ = some (.slice o f.nodes.length c) := cell_blk KA1.out 0
          have KA1c1 : w1.cell? ⟨w.heap.size, 1, none⟩ = some (.int .i64 f.room) := cell_blk KA1.out 1
          have KB1c0 : w1.cell? ⟨w.heap.size + 1, 0, none⟩ = some (.int .i64 u) := cell_blk KB1.out 0
          have KB1c1 : w1.cell? ⟨w.heap.size + 1, 1, none⟩ = some (.int .i64 g) := cell_blk KB1.out 1
          have KZ1c0 : w1.cell? ⟨w.heap.size + 2, 0, none⟩ = some (.slice none 0 0) := cell_blk KZ1.out 0
          have KZ1c1 : w1.cell? ⟨w.heap.size + 2, 1, none⟩ = some (.int .i64 0) := cell_blk KZ1.out 1
          clear hb1
          go_wp2_with fail
          refine (l1Mode_any _ _).mono ?_
          rintro e w1b ⟨rfl, rfl⟩
          rw [show inB 0 511 md = true by have h := HK.out; unfold askMd at h; simp only [Bool.and_eq_true] at h; exact h.2]
          go_wp2_with fail
          refine (l3Own_any f _ _ (HR.out.below HB1.out) HS.out).mono ?_
          rintro e w2 ⟨nv2, ps2, rfl, hps2, hO2, hb2⟩
          obtain ⟨oo2, cc2, rfl, -⟩ := owns_form hO2.row
          have hpl : nd < ps2.length ∧ ps2.length ≤ 1048576 := by have h9 : ps2.length = f.nodes.length := (by rw [← hps2]; simp); omega
          obtain ⟨hndl, hpl8⟩ := hpl
          have HPS := Lib.hid hps2
          have HB2 := Lib.hid (HB1.out.trans (hb2.mono HB1.out.size))
          have KA2 := Lib.hid (blk_step hb2 KA1.out)
          have KB2 := Lib.hid (blk_step hb2 KB1.out)
          have KZ2 := Lib.hid (blk_step hb2 KZ1.out)
          have hsz1 := lt_of_heap KZ1.out
          have HO2 := Lib.hid (hO2.low (R := w.heap.size + 3) hsz1)
          have HB2a := Lib.hid (HB2.out.alloc HB2.out.size (.cells #[.slice oo2 ps2.length cc2, .int .i64 f.room] 34))
          have KO2 := Lib.hid (heap_alloc_new w2 (.cells #[.slice oo2 ps2.length cc2, .int .i64 f.room] 34))
          have HO2a := Lib.hid (HO2.out.below ((Below.refl _ w2).alloc (Nat.le_refl _) (.cells #[.slice oo2 ps2.length cc2, .int .i64 f.room] 34)))
          have KA2a := Lib.hid ((Below.heap_alloc w2 (.cells #[.slice oo2 ps2.length cc2, .int .i64 f.room] 34) _ (lt_of_heap KA2.out)).trans KA2.out)
          have KB2a := Lib.hid ((Below.heap_alloc w2 (.cells #[.slice oo2 ps2.length cc2, .int .i64 f.room] 34) _ (lt_of_heap KB2.out)).trans KB2.out)
          have KZ2a := Lib.hid ((Below.heap_alloc w2 (.cells #[.slice oo2 ps2.length cc2, .int .i64 f.room] 34) _ (lt_of_heap KZ2.out)).trans KZ2.out)
          have KA2ac0 : (w2.alloc (.cells #[.slice oo2 ps2.length cc2, .int .i64 f.room] 34)).cell? ⟨w.heap.size, 0, none⟩ = some (.slice o f.nodes.length c) := cell_blk KA2a.out 0
          have KA2ac1 : (w2.alloc (.cells #[.slice oo2 ps2.length cc2, .int .i64 f.room] 34)).cell? ⟨w.heap.size, 1, none⟩ = some (.int .i64 f.room) := cell_blk KA2a.out 1
          have KB2ac0 : (w2.alloc (.cells #[.slice oo2 ps2.length cc2, .int .i64 f.room] 34)).cell? ⟨w.heap.size + 1, 0, none⟩ = some (.int .i64 u) := cell_blk KB2a.out 0
          have KB2ac1 : (w2.alloc (.cells #[.slice oo2 ps2.length cc2, .int .i64 f.room] 34)).cell? ⟨w.heap.size + 1, 1, none⟩ = some (.int .i64 g) := cell_blk KB2a.out 1
          clear hps2 hO2 hb2
          go_wp2_with fail
          refine (l4Find_isM HFD.out (HR.out.below HB2a.out) HL.out.1 HL.out.2 (by omega)).mono ?_
          rintro e w3 ⟨rfl, hb3⟩
          have HB3 := Lib.hid (HB2a.out.trans (hb3.mono HB2a.out.size))
          have KO3 := Lib.hid (blk_step hb3 KO2.out)
          have HO3 := Lib.hid (HO2a.out.below hb3)
          have KA3 := Lib.hid (blk_step hb3 KA2a.out)
          have KB3 := Lib.hid (blk_step hb3 KB2a.out)
          have KZ3 := Lib.hid (blk_step hb3 KZ2a.out)
          clear KA2ac0 KA2ac1 KB2ac0 KB2ac1
          have KA3c0 : w3.cell? ⟨w.heap.size, 0, none⟩ = some (.slice o f.nodes.length c) := cell_blk KA3.out 0
          have KA3c1 : w3.cell? ⟨w.heap.size, 1, none⟩ = some (.int .i64 f.room) := cell_blk KA3.out 1
          have KB3c0 : w3.cell? ⟨w.heap.size + 1, 0, none⟩ = some (.int .i64 u) := cell_blk KB3.out 0
          have KB3c1 : w3.cell? ⟨w.heap.size + 1, 1, none⟩ = some (.int .i64 g) := cell_blk KB3.out 1
          have KZ3c0 : w3.cell? ⟨w.heap.size + 2, 0, none⟩ = some (.slice none 0 0) := cell_blk KZ3.out 0
          have KZ3c1 : w3.cell? ⟨w.heap.size + 2, 1, none⟩ = some (.int .i64 0) := cell_blk KZ3.out 1
          have KZ3f := frozen_blk KZ3.out
          have ko0 : w3.cell? ⟨w2.heap.size, 0, none⟩ = some (.slice oo2 ps2.length cc2) := cell_blk KO3.out 0
          have ko1 : w3.cell? ⟨w2.heap.size, 1, none⟩ = some (.int .i64 f.room) := cell_blk KO3.out 1
          clear hb3
          clear KA1c0 KA1c1 KB1c0 KB1c1 KZ1c0 KZ1c1
          go_wp2
          have z0 := fun d os => cell_regrown (w := w3) KA3c0 d os
          have z1 := fun d os => cell_regrown (w := w3) KB3c0 d os
          refine wp_region_quiet_below (by kernel_rfl) (by kernel_rfl) ?_
          repeat (first | go_big_quiet_step (fail) | quiet_step (fail))
          refine wpQuiet_nil ?_
          intro w5 hwq
          have hb5 : Below w3.heap.size w3 w5 := by obtain ⟨pp, rfl⟩ := hwq; exact below_regrown _ _ _
          have HB5 := Lib.hid (HB3.out.trans (hb5.mono HB3.out.size))
          have KO5 := Lib.hid (blk_step hb5 KO3.out)
          have HO5 := Lib.hid (HO3.out.below hb5)
          have KA5 := Lib.hid (blk_step hb5 KA3.out)
          have KB5 := Lib.hid (blk_step hb5 KB3.out)
          have KZ5 := Lib.hid (blk_step hb5 KZ3.out)
          clear KA3c0 KA3c1 KB3c0 KB3c1 KZ3c0 KZ3c1 KZ3f ko0 ko1 hwq hb5 z0 z1
          have KZ5c0 : w5.cell? ⟨w.heap.size + 2, 0, none⟩ = some (.slice none 0 0) := cell_blk KZ5.out 0
          have KZ5c1 : w5.cell? ⟨w.heap.size + 2, 1, none⟩ = some (.int .i64 0) := cell_blk KZ5.out 1
          have KZ5f := frozen_blk KZ5.out
          have ko0 : w5.cell? ⟨w2.heap.size, 0, none⟩ = some (.slice oo2 ps2.length cc2) := cell_blk KO5.out 0
          have ko1 : w5.cell? ⟨w2.heap.size, 1, none⟩ = some (.int .i64 f.room) := cell_blk KO5.out 1
          obtain ⟨g9, cap9, e9, hRg, hgl, hn9, hm9, hc9, hfr9⟩ := HO5.out.at (i := nd) (by omega)
          simp only [Value.slice.injEq, true_and] at e9
          obtain ⟨rfl, rfl⟩ := e9
          have HPN := Lib.hid (at_map HPS.out (i := nd) (by omega))
          have x9 := hc9.c1
          have HW9 := Lib.hid (HO5.out.turn (i := nd) (j := 1) (by omega) (by decide) (.int .i64 md) { (ps2[nd]'(by omega)).1 with mode := md } rfl rfl)
          have HK9 : Hid (((w5.setCell ⟨g9, nd * 7 + 1, none⟩ (.int .i64 md)).heap[w.heap.size + 2]? = some (.cells #[.slice none 0 0, .int .i64 0] 34))) := Lib.hid ((Below.heap_setCell w5 ⟨g9, nd * 7 + 1, none⟩ _ _ (by simp only; omega)).trans KZ5.out)
          have HBL : Hid (Below w.heap.size w (w5.setCell ⟨g9, nd * 7 + 1, none⟩ (.int .i64 md))) := Lib.hid (HB5.out.setCell (p := ⟨g9, nd * 7 + 1, none⟩) (by simp only; omega) _)
          have hx9 : nd < ps2.length := by omega
          have hlt9 : g9 < w2.heap.size := HO2.out.ltE.1 g9 (by simp [Value.ownBlock])
          have hKO9 := (Below.heap_setCell w5 ⟨g9, nd * 7 + 1, none⟩ (.int .i64 md) w2.heap.size (by simp only; omega)).trans KO5.out
          have ko90 : (w5.setCell ⟨g9, nd * 7 + 1, none⟩ (.int .i64 md)).cell? ⟨w2.heap.size, 0, none⟩ = some (.slice (some ⟨g9, 0, none⟩) ps2.length cc2) := cell_blk hKO9 0
          have ko91 : (w5.setCell ⟨g9, nd * 7 + 1, none⟩ (.int .i64 md)).cell? ⟨w2.heap.size, 1, none⟩ = some (.int .i64 f.room) := cell_blk hKO9 1
          clear hKO9
          go_wp2
          have hq := two_set HK9.out (.slice (some ⟨g9, 0, none⟩) ps2.length cc2) (.int .i64 f.room)
          have t0 := (cell_blk hq 0).trans rfl
          have t1 := (cell_blk hq 1).trans rfl
          refine bodyPost_ret (v := .tuple #[.agg #[(.slice (some ⟨g9, 0, none⟩) ps2.length cc2), .int .i64 f.room], .int .i64 0, .bool true]) (by simp [results, Tryz.results25, go_sem, t0, t1]) rfl ?_
          have hA9 : Own _ w.heap.size _ _ := ((HW9.out.besides (b := w.heap.size + 2) (by omega) 0 (.slice (some ⟨g9, 0, none⟩) ps2.length cc2)).besides (b := w.heap.size + 2) (by omega) 1 (.int .i64 f.room)).low (by omega)
          have hB9 := bel_set2 (G := w.heap.size + 2) (x := (.slice (some ⟨g9, 0, none⟩) ps2.length cc2)) (y := .int .i64 f.room) HBL.out (by omega)
          first
            | exact ⟨_, ps2.set nd ({ (ps2[nd]'hx9).1 with mode := md }, (ps2[nd]'hx9).2), by rw [HF.out, HCD.out, HAK.out], by rw [HF.out, map_turn HPS.out, HPN.out], hA9, hB9⟩
            | exact ⟨_, by rw [HF.out, HCD.out, HAK.out], ps2.set nd ({ (ps2[nd]'hx9).1 with mode := md }, (ps2[nd]'hx9).2), by rw [HF.out, map_turn HPS.out, HPN.out], hA9, hB9⟩
        · have hu2 : u = (nodeAt f.nodes nd).uid := by
            by_cases h : u = (nodeAt f.nodes nd).uid
            · exact h
            · exact absurd ⟨hu0, h⟩ hu
          have hub1 : (u != 0) = true := by rw [bne_iff_ne]; exact hu0
          have hub2 : (u != (nodeAt f.nodes nd).uid) = false := by rw [bne_eq_false_iff_eq]; exact hu2
          clear hu hu0 hu2
          go_enter Tryz.func25, Tryz.ntmps25
          go_wp2_with fail
          refine (l4Asked_isM HK4.out (HR.out.below HB0.out) HS.out).mono ?_
          rintro e w1 ⟨rfl, hb1⟩
          have HB1 := Lib.hid (HB0.out.trans (hb1.mono HB0.out.size))
          have KA1 := Lib.hid (blk_step hb1 KA0.out)
          have KB1 := Lib.hid (blk_step hb1 KB0.out)
          have KZ1 := Lib.hid (blk_step hb1 KZ0.out)
          have KA1c0 : w1.cell? ⟨w.heap.size, 0, none⟩ = some (.slice o f.nodes.length c) := cell_blk KA1.out 0
          have KA1c1 : w1.cell? ⟨w.heap.size, 1, none⟩ = some (.int .i64 f.room) := cell_blk KA1.out 1
          have KB1c0 : w1.cell? ⟨w.heap.size + 1, 0, none⟩ = some (.int .i64 u) := cell_blk KB1.out 0
          have KB1c1 : w1.cell? ⟨w.heap.size + 1, 1, none⟩ = some (.int .i64 g) := cell_blk KB1.out 1
          have KZ1c0 : w1.cell? ⟨w.heap.size + 2, 0, none⟩ = some (.slice none 0 0) := cell_blk KZ1.out 0
          have KZ1c1 : w1.cell? ⟨w.heap.size + 2, 1, none⟩ = some (.int .i64 0) := cell_blk KZ1.out 1
          clear hb1
          go_wp2_with fail
          refine (l1Mode_any _ _).mono ?_
          rintro e w1b ⟨rfl, rfl⟩
          rw [show inB 0 511 md = true by have h := HK.out; unfold askMd at h; simp only [Bool.and_eq_true] at h; exact h.2]
          go_wp2_with fail
          refine (l3Own_any f _ _ (HR.out.below HB1.out) HS.out).mono ?_
          rintro e w2 ⟨nv2, ps2, rfl, hps2, hO2, hb2⟩
          obtain ⟨oo2, cc2, rfl, -⟩ := owns_form hO2.row
          have hpl : nd < ps2.length ∧ ps2.length ≤ 1048576 := by have h9 : ps2.length = f.nodes.length := (by rw [← hps2]; simp); omega
          obtain ⟨hndl, hpl8⟩ := hpl
          have HPS := Lib.hid hps2
          have HB2 := Lib.hid (HB1.out.trans (hb2.mono HB1.out.size))
          have KA2 := Lib.hid (blk_step hb2 KA1.out)
          have KB2 := Lib.hid (blk_step hb2 KB1.out)
          have KZ2 := Lib.hid (blk_step hb2 KZ1.out)
          have hsz1 := lt_of_heap KZ1.out
          have HO2 := Lib.hid (hO2.low (R := w.heap.size + 3) hsz1)
          have HB2a := Lib.hid (HB2.out.alloc HB2.out.size (.cells #[.slice oo2 ps2.length cc2, .int .i64 f.room] 34))
          have KO2 := Lib.hid (heap_alloc_new w2 (.cells #[.slice oo2 ps2.length cc2, .int .i64 f.room] 34))
          have HO2a := Lib.hid (HO2.out.below ((Below.refl _ w2).alloc (Nat.le_refl _) (.cells #[.slice oo2 ps2.length cc2, .int .i64 f.room] 34)))
          have KA2a := Lib.hid ((Below.heap_alloc w2 (.cells #[.slice oo2 ps2.length cc2, .int .i64 f.room] 34) _ (lt_of_heap KA2.out)).trans KA2.out)
          have KB2a := Lib.hid ((Below.heap_alloc w2 (.cells #[.slice oo2 ps2.length cc2, .int .i64 f.room] 34) _ (lt_of_heap KB2.out)).trans KB2.out)
          have KZ2a := Lib.hid ((Below.heap_alloc w2 (.cells #[.slice oo2 ps2.length cc2, .int .i64 f.room] 34) _ (lt_of_heap KZ2.out)).trans KZ2.out)
          have KA2ac0 : (w2.alloc (.cells #[.slice oo2 ps2.length cc2, .int .i64 f.room] 34)).cell? ⟨w.heap.size, 0, none⟩ = some (.slice o f.nodes.length c) := cell_blk KA2a.out 0
          have KA2ac1 : (w2.alloc (.cells #[.slice oo2 ps2.length cc2, .int .i64 f.room] 34)).cell? ⟨w.heap.size, 1, none⟩ = some (.int .i64 f.room) := cell_blk KA2a.out 1
          have KB2ac0 : (w2.alloc (.cells #[.slice oo2 ps2.length cc2, .int .i64 f.room] 34)).cell? ⟨w.heap.size + 1, 0, none⟩ = some (.int .i64 u) := cell_blk KB2a.out 0
          have KB2ac1 : (w2.alloc (.cells #[.slice oo2 ps2.length cc2, .int .i64 f.room] 34)).cell? ⟨w.heap.size + 1, 1, none⟩ = some (.int .i64 g) := cell_blk KB2a.out 1
          clear hps2 hO2 hb2
          go_wp2_with fail
          refine (l4Find_isM HFD.out (HR.out.below HB2a.out) HL.out.1 HL.out.2 (by omega)).mono ?_
          rintro e w3 ⟨rfl, hb3⟩
          have HB3 := Lib.hid (HB2a.out.trans (hb3.mono HB2a.out.size))
          have KO3 := Lib.hid (blk_step hb3 KO2.out)
          have HO3 := Lib.hid (HO2a.out.below hb3)
          have KA3 := Lib.hid (blk_step hb3 KA2a.out)
          have KB3 := Lib.hid (blk_step hb3 KB2a.out)
          have KZ3 := Lib.hid (blk_step hb3 KZ2a.out)
          clear KA2ac0 KA2ac1 KB2ac0 KB2ac1
          have KA3c0 : w3.cell? ⟨w.heap.size, 0, none⟩ = some (.slice o f.nodes.length c) := cell_blk KA3.out 0
          have KA3c1 : w3.cell? ⟨w.heap.size, 1, none⟩ = some (.int .i64 f.room) := cell_blk KA3.out 1
          have KB3c0 : w3.cell? ⟨w.heap.size + 1, 0, none⟩ = some (.int .i64 u) := cell_blk KB3.out 0
          have KB3c1 : w3.cell? ⟨w.heap.size + 1, 1, none⟩ = some (.int .i64 g) := cell_blk KB3.out 1
          have KZ3c0 : w3.cell? ⟨w.heap.size + 2, 0, none⟩ = some (.slice none 0 0) := cell_blk KZ3.out 0
          have KZ3c1 : w3.cell? ⟨w.heap.size + 2, 1, none⟩ = some (.int .i64 0) := cell_blk KZ3.out 1
          have KZ3f := frozen_blk KZ3.out
          have ko0 : w3.cell? ⟨w2.heap.size, 0, none⟩ = some (.slice oo2 ps2.length cc2) := cell_blk KO3.out 0
          have ko1 : w3.cell? ⟨w2.heap.size, 1, none⟩ = some (.int .i64 f.room) := cell_blk KO3.out 1
          clear hb3
          clear KA1c0 KA1c1 KB1c0 KB1c1 KZ1c0 KZ1c1
          obtain ⟨g3, f3, lv3, e3, hcc, hee⟩ := nod_cells (c := c) HH.out hlt HB3.out
          obtain ⟨d0, d1, d2, d3, d4, d5, d6⟩ := hcc
          subst e3
          obtain ⟨nq, hnq⟩ : ∃ nq, nodeAt f.nodes nd = nq := ⟨_, rfl⟩
          rw [hnq] at hub2 d2
          clear hee hnq d0 d1 d3 d4 d5 d6
          go_wp2
          have z0 := fun d os => cell_regrown (w := w3) KA3c0 d os
          have z1 := fun d os => cell_regrown (w := w3) KB3c0 d os
          have z2 := fun d os => cell_regrown (w := w3) d2 d os
          refine wp_region_quiet_below (by kernel_rfl) (by kernel_rfl) ?_
          repeat (first | go_big_quiet_step (fail) | quiet_step (fail))
          refine wpQuiet_nil ?_
          intro w5 hwq
          have hb5 : Below w3.heap.size w3 w5 := by obtain ⟨pp, rfl⟩ := hwq; exact below_regrown _ _ _
          have HB5 := Lib.hid (HB3.out.trans (hb5.mono HB3.out.size))
          have KO5 := Lib.hid (blk_step hb5 KO3.out)
          have HO5 := Lib.hid (HO3.out.below hb5)
          have KA5 := Lib.hid (blk_step hb5 KA3.out)
          have KB5 := Lib.hid (blk_step hb5 KB3.out)
          have KZ5 := Lib.hid (blk_step hb5 KZ3.out)
          clear KA3c0 KA3c1 KB3c0 KB3c1 KZ3c0 KZ3c1 KZ3f ko0 ko1 hwq hb5 z0 z1 z2 d2
          have KZ5c0 : w5.cell? ⟨w.heap.size + 2, 0, none⟩ = some (.slice none 0 0) := cell_blk KZ5.out 0
          have KZ5c1 : w5.cell? ⟨w.heap.size + 2, 1, none⟩ = some (.int .i64 0) := cell_blk KZ5.out 1
          have KZ5f := frozen_blk KZ5.out
          have ko0 : w5.cell? ⟨w2.heap.size, 0, none⟩ = some (.slice oo2 ps2.length cc2) := cell_blk KO5.out 0
          have ko1 : w5.cell? ⟨w2.heap.size, 1, none⟩ = some (.int .i64 f.room) := cell_blk KO5.out 1
          obtain ⟨g9, cap9, e9, hRg, hgl, hn9, hm9, hc9, hfr9⟩ := HO5.out.at (i := nd) (by omega)
          simp only [Value.slice.injEq, true_and] at e9
          obtain ⟨rfl, rfl⟩ := e9
          have HPN := Lib.hid (at_map HPS.out (i := nd) (by omega))
          have x9 := hc9.c1
          have HW9 := Lib.hid (HO5.out.turn (i := nd) (j := 1) (by omega) (by decide) (.int .i64 md) { (ps2[nd]'(by omega)).1 with mode := md } rfl rfl)
          have HK9 : Hid (((w5.setCell ⟨g9, nd * 7 + 1, none⟩ (.int .i64 md)).heap[w.heap.size + 2]? = some (.cells #[.slice none 0 0, .int .i64 0] 34))) := Lib.hid ((Below.heap_setCell w5 ⟨g9, nd * 7 + 1, none⟩ _ _ (by simp only; omega)).trans KZ5.out)
          have HBL : Hid (Below w.heap.size w (w5.setCell ⟨g9, nd * 7 + 1, none⟩ (.int .i64 md))) := Lib.hid (HB5.out.setCell (p := ⟨g9, nd * 7 + 1, none⟩) (by simp only; omega) _)
          have hx9 : nd < ps2.length := by omega
          have hlt9 : g9 < w2.heap.size := HO2.out.ltE.1 g9 (by simp [Value.ownBlock])
          have hKO9 := (Below.heap_setCell w5 ⟨g9, nd * 7 + 1, none⟩ (.int .i64 md) w2.heap.size (by simp only; omega)).trans KO5.out
          have ko90 : (w5.setCell ⟨g9, nd * 7 + 1, none⟩ (.int .i64 md)).cell? ⟨w2.heap.size, 0, none⟩ = some (.slice (some ⟨g9, 0, none⟩) ps2.length cc2) := cell_blk hKO9 0
          have ko91 : (w5.setCell ⟨g9, nd * 7 + 1, none⟩ (.int .i64 md)).cell? ⟨w2.heap.size, 1, none⟩ = some (.int .i64 f.room) := cell_blk hKO9 1
          clear hKO9
          go_wp2
          have hq := two_set HK9.out (.slice (some ⟨g9, 0, none⟩) ps2.length cc2) (.int .i64 f.room)
          have t0 := (cell_blk hq 0).trans rfl
          have t1 := (cell_blk hq 1).trans rfl
          refine bodyPost_ret (v := .tuple #[.agg #[(.slice (some ⟨g9, 0, none⟩) ps2.length cc2), .int .i64 f.room], .int .i64 0, .bool true]) (by simp [results, Tryz.results25, go_sem, t0, t1]) rfl ?_
          have hA9 : Own _ w.heap.size _ _ := ((HW9.out.besides (b := w.heap.size + 2) (by omega) 0 (.slice (some ⟨g9, 0, none⟩) ps2.length cc2)).besides (b := w.heap.size + 2) (by omega) 1 (.int .i64 f.room)).low (by omega)
          have hB9 := bel_set2 (G := w.heap.size + 2) (x := (.slice (some ⟨g9, 0, none⟩) ps2.length cc2)) (y := .int .i64 f.room) HBL.out (by omega)
          first
            | exact ⟨_, ps2.set nd ({ (ps2[nd]'hx9).1 with mode := md }, (ps2[nd]'hx9).2), by rw [HF.out, HCD.out, HAK.out], by rw [HF.out, map_turn HPS.out, HPN.out], hA9, hB9⟩
            | exact ⟨_, by rw [HF.out, HCD.out, HAK.out], ps2.set nd ({ (ps2[nd]'hx9).1 with mode := md }, (ps2[nd]'hx9).2), by rw [HF.out, map_turn HPS.out, HPN.out], hA9, hB9⟩
    · have hr : ownW f.nodes u g s.data.toList = (cd, 0) := by unfold ownW; rw [hfd]; simp [hc]
      have HF : Hid (F = f) := Lib.hid (by rw [hF]; exact setF_bad (by rw [hr]; exact hc))
      have HCD : Hid (CD = cd) := Lib.hid (by rw [hCD, hr]; rfl)
      have hcb : (cd != 0) = true := by rw [bne_iff_ne]; exact hc
      clear hF hCD hr hfd hc
      go_enter Tryz.func25, Tryz.ntmps25
      go_wp2_with fail
      refine (l4Asked_isM HK4.out (HR.out.below HB0.out) HS.out).mono ?_
      rintro e w1 ⟨rfl, hb1⟩
      have HB1 := Lib.hid (HB0.out.trans (hb1.mono HB0.out.size))
      have KA1 := Lib.hid (blk_step hb1 KA0.out)
      have KB1 := Lib.hid (blk_step hb1 KB0.out)
      have KZ1 := Lib.hid (blk_step hb1 KZ0.out)
      have KA1c0 : w1.cell? ⟨w.heap.size, 0, none⟩ = some (.slice o f.nodes.length c) := cell_blk KA1.out 0
      have KA1c1 : w1.cell? ⟨w.heap.size, 1, none⟩ = some (.int .i64 f.room) := cell_blk KA1.out 1
      have KB1c0 : w1.cell? ⟨w.heap.size + 1, 0, none⟩ = some (.int .i64 u) := cell_blk KB1.out 0
      have KB1c1 : w1.cell? ⟨w.heap.size + 1, 1, none⟩ = some (.int .i64 g) := cell_blk KB1.out 1
      have KZ1c0 : w1.cell? ⟨w.heap.size + 2, 0, none⟩ = some (.slice none 0 0) := cell_blk KZ1.out 0
      have KZ1c1 : w1.cell? ⟨w.heap.size + 2, 1, none⟩ = some (.int .i64 0) := cell_blk KZ1.out 1
      clear hb1
      go_wp2_with fail
      refine (l1Mode_any _ _).mono ?_
      rintro e w1b ⟨rfl, rfl⟩
      rw [show inB 0 511 md = true by have h := HK.out; unfold askMd at h; simp only [Bool.and_eq_true] at h; exact h.2]
      go_wp2_with fail
      refine (l3Own_any f _ _ (HR.out.below HB1.out) HS.out).mono ?_
      rintro e w2 ⟨nv2, ps2, rfl, hps2, hO2, hb2⟩
      obtain ⟨oo2, cc2, rfl, -⟩ := owns_form hO2.row
      have hpl : nd < ps2.length ∧ ps2.length ≤ 1048576 := by have h9 : ps2.length = f.nodes.length := (by rw [← hps2]; simp); omega
      obtain ⟨hndl, hpl8⟩ := hpl
      have HPS := Lib.hid hps2
      have HB2 := Lib.hid (HB1.out.trans (hb2.mono HB1.out.size))
      have KA2 := Lib.hid (blk_step hb2 KA1.out)
      have KB2 := Lib.hid (blk_step hb2 KB1.out)
      have KZ2 := Lib.hid (blk_step hb2 KZ1.out)
      have hsz1 := lt_of_heap KZ1.out
      have HO2 := Lib.hid (hO2.low (R := w.heap.size + 3) hsz1)
      have HB2a := Lib.hid (HB2.out.alloc HB2.out.size (.cells #[.slice oo2 ps2.length cc2, .int .i64 f.room] 34))
      have KO2 := Lib.hid (heap_alloc_new w2 (.cells #[.slice oo2 ps2.length cc2, .int .i64 f.room] 34))
      have HO2a := Lib.hid (HO2.out.below ((Below.refl _ w2).alloc (Nat.le_refl _) (.cells #[.slice oo2 ps2.length cc2, .int .i64 f.room] 34)))
      have KA2a := Lib.hid ((Below.heap_alloc w2 (.cells #[.slice oo2 ps2.length cc2, .int .i64 f.room] 34) _ (lt_of_heap KA2.out)).trans KA2.out)
      have KB2a := Lib.hid ((Below.heap_alloc w2 (.cells #[.slice oo2 ps2.length cc2, .int .i64 f.room] 34) _ (lt_of_heap KB2.out)).trans KB2.out)
      have KZ2a := Lib.hid ((Below.heap_alloc w2 (.cells #[.slice oo2 ps2.length cc2, .int .i64 f.room] 34) _ (lt_of_heap KZ2.out)).trans KZ2.out)
      have KA2ac0 : (w2.alloc (.cells #[.slice oo2 ps2.length cc2, .int .i64 f.room] 34)).cell? ⟨w.heap.size, 0, none⟩ = some (.slice o f.nodes.length c) := cell_blk KA2a.out 0
      have KA2ac1 : (w2.alloc (.cells #[.slice oo2 ps2.length cc2, .int .i64 f.room] 34)).cell? ⟨w.heap.size, 1, none⟩ = some (.int .i64 f.room) := cell_blk KA2a.out 1
      have KB2ac0 : (w2.alloc (.cells #[.slice oo2 ps2.length cc2, .int .i64 f.room] 34)).cell? ⟨w.heap.size + 1, 0, none⟩ = some (.int .i64 u) := cell_blk KB2a.out 0
      have KB2ac1 : (w2.alloc (.cells #[.slice oo2 ps2.length cc2, .int .i64 f.room] 34)).cell? ⟨w.heap.size + 1, 1, none⟩ = some (.int .i64 g) := cell_blk KB2a.out 1
      clear hps2 hO2 hb2
      go_wp2_with fail
      refine (l4Find_isM HFD.out (HR.out.below HB2a.out) HL.out.1 HL.out.2 (by omega)).mono ?_
      rintro e w3 ⟨rfl, hb3⟩
      have HB3 := Lib.hid (HB2a.out.trans (hb3.mono HB2a.out.size))
      have KO3 := Lib.hid (blk_step hb3 KO2.out)
      have HO3 := Lib.hid (HO2a.out.below hb3)
      have KA3 := Lib.hid (blk_step hb3 KA2a.out)
      have KB3 := Lib.hid (blk_step hb3 KB2a.out)
      have KZ3 := Lib.hid (blk_step hb3 KZ2a.out)
      clear KA2ac0 KA2ac1 KB2ac0 KB2ac1
      have KA3c0 : w3.cell? ⟨w.heap.size, 0, none⟩ = some (.slice o f.nodes.length c) := cell_blk KA3.out 0
      have KA3c1 : w3.cell? ⟨w.heap.size, 1, none⟩ = some (.int .i64 f.room) := cell_blk KA3.out 1
      have KB3c0 : w3.cell? ⟨w.heap.size + 1, 0, none⟩ = some (.int .i64 u) := cell_blk KB3.out 0
      have KB3c1 : w3.cell? ⟨w.heap.size + 1, 1, none⟩ = some (.int .i64 g) := cell_blk KB3.out 1
      have KZ3c0 : w3.cell? ⟨w.heap.size + 2, 0, none⟩ = some (.slice none 0 0) := cell_blk KZ3.out 0
      have KZ3c1 : w3.cell? ⟨w.heap.size + 2, 1, none⟩ = some (.int .i64 0) := cell_blk KZ3.out 1
      have KZ3f := frozen_blk KZ3.out
      have ko0 : w3.cell? ⟨w2.heap.size, 0, none⟩ = some (.slice oo2 ps2.length cc2) := cell_blk KO3.out 0
      have ko1 : w3.cell? ⟨w2.heap.size, 1, none⟩ = some (.int .i64 f.room) := cell_blk KO3.out 1
      clear hb3
      clear KA1c0 KA1c1 KB1c0 KB1c1 KZ1c0 KZ1c1
      go_wp2
      have hq := two_set KZ3.out (.slice oo2 ps2.length cc2) (.int .i64 f.room)
      have t0 := (cell_blk hq 0).trans rfl
      have t1 := (cell_blk hq 1).trans rfl
      refine bodyPost_ret (v := .tuple #[.agg #[(.slice oo2 ps2.length cc2), .int .i64 f.room], .int .i64 cd, .bool true]) (by simp [results, Tryz.results25, go_sem, t0, t1]) rfl ?_
      have hA9 : Own _ w.heap.size _ _ := ((HO3.out.besides (b := w.heap.size + 2) (by omega) 0 (.slice oo2 ps2.length cc2)).besides (b := w.heap.size + 2) (by omega) 1 (.int .i64 f.room)).low (by omega)
      have hB9 := bel_set2 (G := w.heap.size + 2) (x := (.slice oo2 ps2.length cc2)) (y := .int .i64 f.room) HB3.out (by omega)
      first
        | exact ⟨_, ps2, by rw [HF.out, HCD.out, HAK.out], by rw [HF.out]; exact HPS.out, hA9, hB9⟩
        | exact ⟨_, by rw [HF.out, HCD.out, HAK.out], ps2, by rw [HF.out]; exact HPS.out, hA9, hB9⟩
end Go.Proofs.YtpkmkpeabfmbiaaGreatDoor
