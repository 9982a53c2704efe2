/-
  Joined: WriM FileB.
  Conditions: as each states.
-/
import Derived.Deep.RegionHeld3
import Derived.Test.YtpkmkpeabfmbiaaGreatDoorLib12
import Derived.Test.YtpkmkpeabfmbiaaGreatDoorLib13
import Derived.Test.YtpkmkpeabfmbiaaGreatDoorLib21

/-
  What WriteFile answers, as plain data; the model's side.
  Conditions: at most 2^20 values and letters together; texts of at most 2^20 bytes.
-/
namespace Go.Proofs.YtpkmkpeabfmbiaaGreatDoor
open Go.ChangeShapes Go.WideShapes Go.ChangeAt Go.RowKit Go.Joins
set_option linter.unusedVariables false
set_option linter.unusedSimpArgs false

/-- Where WriteFile writes, or what stands in the way. -/
def wriW (f : FsD) (u g : Int) (l x : List UInt8) : Int × Nat :=
  if 60 < x.length then (1, 0) else if (filW f.nodes u g l 2).1 ≠ 0 then ((filW f.nodes u g l 2).1, 0)
  else if f.room < (sumD f.nodes : Int) - ((nodeAt f.nodes (filW f.nodes u g l 2).2).data.length : Int) + (x.length : Int) then (8, 0) else (0, (filW f.nodes u g l 2).2)
def wriN (x : List UInt8) (t : Int) (n : Nod) : Nod := { n with data := x, time := t }
theorem wriN_fit {x : ByteArray} {t : Int} (h : x.size ≤ 1048576) (n : Nod) (_ : n.data.length ≤ maxLen) : (wriN x.data.toList t n).data.length ≤ maxLen := by
  show x.data.toList.length ≤ maxLen
  rw [len_size]; unfold maxLen; omega
theorem l6File_is {f : FsD} {v : Value} {u g : Int} {s : ByteArray} {want : Int} {w : World} {cd : Int} {nd : Nat} (h : filW f.nodes u g s.data.toList want = (cd, nd)) (hR : FsA w v f) (hs : szF f ≤ 1048576) (hss : s.size ≤ 1048576) (hg : goodF f = true) :
    Calls Tryz.prog 67 #[v, .agg #[.int .i64 u, .int .i64 g], .string s, .int .i64 want] w fun e w' => e = .returned (.tuple #[.int .i64 (nd : Int), .int .i64 cd]) ∧ Below w.heap.size w w' := by
  have := l6File_any f v u g s want w hR hs hss hg
  rw [h] at this
  exact this
theorem sumD_fs {f : FsD} (h : szF f ≤ 1048576) : sumD f.nodes ≤ 1048576 := by
  have h1 := sumD_le f.nodes
  unfold szF at h; omega
theorem sumD_mem {ns : List Nod} {n : Nod} (h : n ∈ ns) : n.data.length ≤ sumD ns := by
  unfold sumD
  induction ns with
  | nil => cases h
  | cons a r ih =>
    simp only [List.map_cons, List.sum_cons]
    rcases List.mem_cons.1 h with rfl | h2
    · omega
    · have := ih h2; omega
theorem data_sum {ns : List Nod} {i : Nat} : (nodeAt ns i).data.length ≤ sumD ns := by
  by_cases h : i < ns.length
  · rw [show nodeAt ns i = ns[i] from getD_at h]
    exact sumD_mem (List.getElem_mem h)
  · have : nodeAt ns i = ⟨0, 0, 0, 0, 0, [], []⟩ := by unfold nodeAt; rw [List.getD_eq_getElem?_getD, List.getElem?_eq_none (by omega)]; rfl
    rw [this]; exact Nat.zero_le _

set_option maxRecDepth 100000 in
set_option maxHeartbeats 8000000 in
theorem specWriteFile_any (f : FsD) (v : Value) (u g : Int) (s x : ByteArray) (t : Int) (w : World) (hR : FsA w v f) (hs : szF f ≤ 1048576) (hss : s.size ≤ 1048576) (hsx : x.size ≤ 1048576) : Calls Tryz.prog 32 #[v, .agg #[.int .i64 u, .int .i64 g], .string s, .string x, .int .i64 t] w fun e w' => ∃ nv ps, e = .returned (.tuple #[.agg #[nv, .int .i64 (setF (askT f u g t) f (wriW f u g s.data.toList x.data.toList) (wriN x.data.toList t)).room], .int .i64 (setC (askT f u g t) (wriW f u g s.data.toList x.data.toList)), .bool (askT f u g t)]) ∧ ps.map Prod.fst = (setF (askT f u g t) f (wriW f u g s.data.toList x.data.toList) (wriN x.data.toList t)).nodes ∧ Own w' w.heap.size nv ps ∧ Below w.heap.size w w' := by
  have HR := Lib.hid hR
  obtain ⟨nv, rfl, hN⟩ := hR
  obtain ⟨o, c, rfl, hm, hH⟩ := hN
  unfold maxLen at hm
  have HH := Lib.hid hH
  have HS := Lib.hid hs
  have HSU := Lib.hid (sumD_fs hs)
  have hl : f.nodes.length ≤ 1048576 := (lists_small hs).1
  have HB0 : Hid (Below w.heap.size w (((w.alloc (.cells #[.slice o f.nodes.length c, .int .i64 f.room] 34)).alloc (.cells #[.int .i64 u, .int .i64 g] 36)).alloc (.cells #[.slice none 0 0, .int .i64 0] 34))) := Lib.hid ((((Below.refl _ _).alloc (Nat.le_refl _) _).alloc (by simp) _).alloc (by simp; omega) _)
  have KA0 := Lib.hid (m3_0 w (.cells #[.slice o f.nodes.length c, .int .i64 f.room] 34) (.cells #[.int .i64 u, .int .i64 g] 36) (.cells #[.slice none 0 0, .int .i64 0] 34))
  have KB0 := Lib.hid (m3_1 w (.cells #[.slice o f.nodes.length c, .int .i64 f.room] 34) (.cells #[.int .i64 u, .int .i64 g] 36) (.cells #[.slice none 0 0, .int .i64 0] 34))
  have KZ0 := Lib.hid (m3_2 w (.cells #[.slice o f.nodes.length c, .int .i64 f.room] 34) (.cells #[.int .i64 u, .int .i64 g] 36) (.cells #[.slice none 0 0, .int .i64 0] 34))
  clear hH hs
  obtain ⟨F, hF⟩ : ∃ F, F = (setF (askT f u g t) f (wriW f u g s.data.toList x.data.toList) (wriN x.data.toList t)) := ⟨_, rfl⟩
  obtain ⟨CD, hCD⟩ : ∃ C, C = (setC (askT f u g t) (wriW f u g s.data.toList x.data.toList)) := ⟨_, rfl⟩
  obtain ⟨AK, hAK⟩ : ∃ A, A = (askT f u g t) := ⟨_, rfl⟩
  rw [← hF, ← hCD, ← hAK]
  have hxl : x.data.toList.length = x.size := len_size x
  cases hk : askT f u g t with
  | false =>
    have HAK : Hid (AK = false) := Lib.hid (by rw [hAK, hk])
    have HF : Hid (F = fs0) := Lib.hid (by rw [hF, hk]; rfl)
    have HCD : Hid (CD = 0) := Lib.hid (by rw [hCD, hk]; rfl)
    have HK := Lib.hid hk
    clear hk hF hCD hAK hxl
    go_enter Tryz.func32, Tryz.ntmps32
    go_wp2_with fail
    refine (l5Asked_is HK.out (HR.out.below HB0.out) HS.out).mono ?_
    rintro e w1 ⟨rfl, hb1⟩
    have HB1 := Lib.hid (HB0.out.trans (hb1.mono HB0.out.size))
    have KA1 := Lib.hid (blk_step hb1 KA0.out)
    have KB1 := Lib.hid (blk_step hb1 KB0.out)
    have KZ1 := Lib.hid (blk_step hb1 KZ0.out)
    have KA1c0 : w1.cell? ⟨w.heap.size, 0, none⟩ = some (.slice o f.nodes.length c) := cell_blk KA1.out 0
    have KA1c1 : w1.cell? ⟨w.heap.size, 1, none⟩ = some (.int .i64 f.room) := cell_blk KA1.out 1
    have KB1c0 : w1.cell? ⟨w.heap.size + 1, 0, none⟩ = some (.int .i64 u) := cell_blk KB1.out 0
    have KB1c1 : w1.cell? ⟨w.heap.size + 1, 1, none⟩ = some (.int .i64 g) := cell_blk KB1.out 1
    have KZ1c0 : w1.cell? ⟨w.heap.size + 2, 0, none⟩ = some (.slice none 0 0) := cell_blk KZ1.out 0
    have KZ1c1 : w1.cell? ⟨w.heap.size + 2, 1, none⟩ = some (.int .i64 0) := cell_blk KZ1.out 1
    have KZ1f := frozen_blk KZ1.out
    clear hb1
    have hq := two_set KZ1.out (.slice none 0 0) (.int .i64 0)
    have t0 := (cell_blk hq 0).trans rfl
    have t1 := (cell_blk hq 1).trans rfl
    go_wp2
    refine bodyPost_ret (v := .tuple #[.agg #[.slice none 0 0, .int .i64 0], .int .i64 0, .bool false]) (by simp [results, Tryz.results32, go_sem, t0, t1]) rfl ?_
    exact ⟨_, [], by rw [HF.out, HCD.out, HAK.out]; rfl, by rw [HF.out]; rfl, Own.nil _ _, bel_set2 HB1.out (by omega)⟩
  | true =>
    have HAK : Hid (AK = true) := Lib.hid (by rw [hAK, hk])
    have hk4 : askB4 f u g = true := by unfold askT at hk; simp only [Bool.and_eq_true] at hk; exact hk.1
    have HK := Lib.hid hk
    have HGD := Lib.hid (ask_good hk4)
    rw [hk] at hF hCD
    by_cases hx6 : 60 < x.size
    · have hr : wriW f u g s.data.toList x.data.toList = (1, 0) := by unfold wriW; rw [hxl, if_pos hx6]
      have HF : Hid (F = f) := Lib.hid (by rw [hF]; exact setF_bad (by rw [hr]; simp))
      have HCD : Hid (CD = 1) := Lib.hid (by rw [hCD, hr]; rfl)
      have hxi : (60 : Int) < (x.size : Int) := by omega
      clear hk hk4 hAK hF hCD hr hxl
      go_enter Tryz.func32, Tryz.ntmps32
      go_wp2_with fail
      refine (l5Asked_is HK.out (HR.out.below HB0.out) HS.out).mono ?_
      rintro e w1 ⟨rfl, hb1⟩
      have HB1 := Lib.hid (HB0.out.trans (hb1.mono HB0.out.size))
      have KA1 := Lib.hid (blk_step hb1 KA0.out)
      have KB1 := Lib.hid (blk_step hb1 KB0.out)
      have KZ1 := Lib.hid (blk_step hb1 KZ0.out)
      have KA1c0 : w1.cell? ⟨w.heap.size, 0, none⟩ = some (.slice o f.nodes.length c) := cell_blk KA1.out 0
      have KA1c1 : w1.cell? ⟨w.heap.size, 1, none⟩ = some (.int .i64 f.room) := cell_blk KA1.out 1
      have KB1c0 : w1.cell? ⟨w.heap.size + 1, 0, none⟩ = some (.int .i64 u) := cell_blk KB1.out 0
      have KB1c1 : w1.cell? ⟨w.heap.size + 1, 1, none⟩ = some (.int .i64 g) := cell_blk KB1.out 1
      have KZ1c0 : w1.cell? ⟨w.heap.size + 2, 0, none⟩ = some (.slice none 0 0) := cell_blk KZ1.out 0
      have KZ1c1 : w1.cell? ⟨w.heap.size + 2, 1, none⟩ = some (.int .i64 0) := cell_blk KZ1.out 1
      clear hb1
      go_wp2_with fail
      refine (l3Own_any f _ _ (HR.out.below HB1.out) HS.out).mono ?_
      rintro e w2 ⟨nv2, ps2, rfl, hps2, hO2, hb2⟩
      obtain ⟨oo2, cc2, rfl, -⟩ := owns_form hO2.row
      have HLN : Hid (ps2.length = f.nodes.length) := Lib.hid (by rw [← hps2]; simp)
      have hpl8 : ps2.length ≤ 1048576 := by have h9 := HLN.out; omega
      have HPS := Lib.hid hps2
      have HB2 := Lib.hid (HB1.out.trans (hb2.mono HB1.out.size))
      have KA2 := Lib.hid (blk_step hb2 KA1.out)
      have KB2 := Lib.hid (blk_step hb2 KB1.out)
      have KZ2 := Lib.hid (blk_step hb2 KZ1.out)
      have hsz1 := lt_of_heap KZ1.out
      have HO2 := Lib.hid (hO2.low (R := w.heap.size + 3) hsz1)
      have HB2a := Lib.hid (HB2.out.alloc HB2.out.size (.cells #[.slice oo2 ps2.length cc2, .int .i64 f.room] 34))
      have KO2 := Lib.hid (heap_alloc_new w2 (.cells #[.slice oo2 ps2.length cc2, .int .i64 f.room] 34))
      have HO2a := Lib.hid (HO2.out.below ((Below.refl _ w2).alloc (Nat.le_refl _) (.cells #[.slice oo2 ps2.length cc2, .int .i64 f.room] 34)))
      have KA2a := Lib.hid ((Below.heap_alloc w2 (.cells #[.slice oo2 ps2.length cc2, .int .i64 f.room] 34) _ (lt_of_heap KA2.out)).trans KA2.out)
      have KB2a := Lib.hid ((Below.heap_alloc w2 (.cells #[.slice oo2 ps2.length cc2, .int .i64 f.room] 34) _ (lt_of_heap KB2.out)).trans KB2.out)
      have KZ2a := Lib.hid ((Below.heap_alloc w2 (.cells #[.slice oo2 ps2.length cc2, .int .i64 f.room] 34) _ (lt_of_heap KZ2.out)).trans KZ2.out)
      clear KA1c0 KA1c1 KB1c0 KB1c1 KZ1c0 KZ1c1
      clear hps2 hO2 hb2
      have KZ2ac0 : (w2.alloc (.cells #[.slice oo2 ps2.length cc2, .int .i64 f.room] 34)).cell? ⟨w.heap.size + 2, 0, none⟩ = some (.slice none 0 0) := cell_blk KZ2a.out 0
      have KZ2ac1 : (w2.alloc (.cells #[.slice oo2 ps2.length cc2, .int .i64 f.room] 34)).cell? ⟨w.heap.size + 2, 1, none⟩ = some (.int .i64 0) := cell_blk KZ2a.out 1
      have KZ2af := frozen_blk KZ2a.out
      have ko0 : (w2.alloc (.cells #[.slice oo2 ps2.length cc2, .int .i64 f.room] 34)).cell? ⟨w2.heap.size, 0, none⟩ = some (.slice oo2 ps2.length cc2) := cell_blk KO2.out 0
      have ko1 : (w2.alloc (.cells #[.slice oo2 ps2.length cc2, .int .i64 f.room] 34)).cell? ⟨w2.heap.size, 1, none⟩ = some (.int .i64 f.room) := cell_blk KO2.out 1
      go_wp2
      have hq := two_set KZ2a.out (.slice oo2 ps2.length cc2) (.int .i64 f.room)
      have t0 := (cell_blk hq 0).trans rfl
      have t1 := (cell_blk hq 1).trans rfl
      refine bodyPost_ret (v := .tuple #[.agg #[(.slice oo2 ps2.length cc2), .int .i64 f.room], .int .i64 1, .bool true]) (by simp [results, Tryz.results32, go_sem, t0, t1]) rfl ?_
      have hA9 : Own _ w.heap.size _ _ := ((HO2a.out.besides (b := w.heap.size + 2) (by omega) 0 (.slice oo2 ps2.length cc2)).besides (b := w.heap.size + 2) (by omega) 1 (.int .i64 f.room)).low (by omega)
      have hB9 := bel_set2 (G := w.heap.size + 2) (x := (.slice oo2 ps2.length cc2)) (y := .int .i64 f.room) HB2a.out (by omega)
      first
        | exact ⟨_, ps2, by rw [HF.out, HCD.out, HAK.out], by rw [HF.out]; exact HPS.out, hA9, hB9⟩
        | exact ⟨_, by rw [HF.out, HCD.out, HAK.out], ps2, by rw [HF.out]; exact HPS.out, hA9, hB9⟩
    · have hxi : ¬ ((60 : Int) < (x.size : Int)) := by omega
      have hx60 : x.size ≤ 60 := by omega
      obtain ⟨⟨cd, nd⟩, hfd⟩ : ∃ q, filW f.nodes u g s.data.toList 2 = q := ⟨_, rfl⟩
      have hlt : nd < f.nodes.length := by have h7 := filW_lt (look_of (ask_good hk4) HS.out).1 u g s.data.toList 2; rw [hfd] at h7; exact h7
      have HFD := Lib.hid hfd
      have HDS : Hid ((nodeAt f.nodes nd).data.length ≤ sumD f.nodes) := Lib.hid data_sum
      by_cases hc : cd = 0
      · subst hc
        by_cases hro : f.room < (sumD f.nodes : Int) - ((nodeAt f.nodes nd).data.length : Int) + (x.size : Int)
        · have hr : wriW f u g s.data.toList x.data.toList = (8, 0) := by unfold wriW; rw [hxl, if_neg hx6, hfd]; simp [hro]
          have HF : Hid (F = f) := Lib.hid (by rw [hF]; exact setF_bad (by rw [hr]; simp))
          have HCD : Hid (CD = 8) := Lib.hid (by rw [hCD, hr]; rfl)
          have HRO := Lib.hid hro
          clear hk hk4 hAK hF hCD hr hxl hfd hro hx6
          go_enter Tryz.func32, Tryz.ntmps32
          go_wp2_with fail
          refine (l5Asked_is HK.out (HR.out.below HB0.out) HS.out).mono ?_
          rintro e w1 ⟨rfl, hb1⟩
          have HB1 := Lib.hid (HB0.out.trans (hb1.mono HB0.out.size))
          have KA1 := Lib.hid (blk_step hb1 KA0.out)
          have KB1 := Lib.hid (blk_step hb1 KB0.out)
          have KZ1 := Lib.hid (blk_step hb1 KZ0.out)
          have KA1c0 : w1.cell? ⟨w.heap.size, 0, none⟩ = some (.slice o f.nodes.length c) := cell_blk KA1.out 0
          have KA1c1 : w1.cell? ⟨w.heap.size, 1, none⟩ = some (.int .i64 f.room) := cell_blk KA1.out 1
          have KB1c0 : w1.cell? ⟨w.heap.size + 1, 0, none⟩ = some (.int .i64 u) := cell_blk KB1.out 0
          have KB1c1 : w1.cell? ⟨w.heap.size + 1, 1, none⟩ = some (.int .i64 g) := cell_blk KB1.out 1
          have KZ1c0 : w1.cell? ⟨w.heap.size + 2, 0, none⟩ = some (.slice none 0 0) := cell_blk KZ1.out 0
          have KZ1c1 : w1.cell? ⟨w.heap.size + 2, 1, none⟩ = some (.int .i64 0) := cell_blk KZ1.out 1
          clear hb1
          go_wp2_with fail
          refine (l3Own_any f _ _ (HR.out.below HB1.out) HS.out).mono ?_
          rintro e w2 ⟨nv2, ps2, rfl, hps2, hO2, hb2⟩
          obtain ⟨oo2, cc2, rfl, -⟩ := owns_form hO2.row
          have HLN : Hid (ps2.length = f.nodes.length) := Lib.hid (by rw [← hps2]; simp)
          have hpl8 : ps2.length ≤ 1048576 := by have h9 := HLN.out; omega
          have HPS := Lib.hid hps2
          have HB2 := Lib.hid (HB1.out.trans (hb2.mono HB1.out.size))
          have KA2 := Lib.hid (blk_step hb2 KA1.out)
          have KB2 := Lib.hid (blk_step hb2 KB1.out)
          have KZ2 := Lib.hid (blk_step hb2 KZ1.out)
          have hsz1 := lt_of_heap KZ1.out
          have HO2 := Lib.hid (hO2.low (R := w.heap.size + 3) hsz1)
          have HB2a := Lib.hid (HB2.out.alloc HB2.out.size (.cells #[.slice oo2 ps2.length cc2, .int .i64 f.room] 34))
          have KO2 := Lib.hid (heap_alloc_new w2 (.cells #[.slice oo2 ps2.length cc2, .int .i64 f.room] 34))
          have HO2a := Lib.hid (HO2.out.below ((Below.refl _ w2).alloc (Nat.le_refl _) (.cells #[.slice oo2 ps2.length cc2, .int .i64 f.room] 34)))
          have KA2a := Lib.hid ((Below.heap_alloc w2 (.cells #[.slice oo2 ps2.length cc2, .int .i64 f.room] 34) _ (lt_of_heap KA2.out)).trans KA2.out)
          have KB2a := Lib.hid ((Below.heap_alloc w2 (.cells #[.slice oo2 ps2.length cc2, .int .i64 f.room] 34) _ (lt_of_heap KB2.out)).trans KB2.out)
          have KZ2a := Lib.hid ((Below.heap_alloc w2 (.cells #[.slice oo2 ps2.length cc2, .int .i64 f.room] 34) _ (lt_of_heap KZ2.out)).trans KZ2.out)
          clear KA1c0 KA1c1 KB1c0 KB1c1 KZ1c0 KZ1c1
          clear hps2 hO2 hb2
          have KA2ac0 : (w2.alloc (.cells #[.slice oo2 ps2.length cc2, .int .i64 f.room] 34)).cell? ⟨w.heap.size, 0, none⟩ = some (.slice o f.nodes.length c) := cell_blk KA2a.out 0
          have KA2ac1 : (w2.alloc (.cells #[.slice oo2 ps2.length cc2, .int .i64 f.room] 34)).cell? ⟨w.heap.size, 1, none⟩ = some (.int .i64 f.room) := cell_blk KA2a.out 1
          have KB2ac0 : (w2.alloc (.cells #[.slice oo2 ps2.length cc2, .int .i64 f.room] 34)).cell? ⟨w.heap.size + 1, 0, none⟩ = some (.int .i64 u) := cell_blk KB2a.out 0
          have KB2ac1 : (w2.alloc (.cells #[.slice oo2 ps2.length cc2, .int .i64 f.room] 34)).cell? ⟨w.heap.size + 1, 1, none⟩ = some (.int .i64 g) := cell_blk KB2a.out 1
          go_wp2_with fail
          refine (l6File_is HFD.out (HR.out.below HB2a.out) HS.out hss HGD.out).mono ?_
          rintro e w3 ⟨rfl, hb3⟩
          have HB3 := Lib.hid (HB2a.out.trans (hb3.mono HB2a.out.size))
          have KO3 := Lib.hid (blk_step hb3 KO2.out)
          have HO3 := Lib.hid (HO2a.out.below hb3)
          have KA3 := Lib.hid (blk_step hb3 KA2a.out)
          have KB3 := Lib.hid (blk_step hb3 KB2a.out)
          have KZ3 := Lib.hid (blk_step hb3 KZ2a.out)
          clear KA2ac0 KA2ac1 KB2ac0 KB2ac1
          have KA3c0 : w3.cell? ⟨w.heap.size, 0, none⟩ = some (.slice o f.nodes.length c) := cell_blk KA3.out 0
          have KA3c1 : w3.cell? ⟨w.heap.size, 1, none⟩ = some (.int .i64 f.room) := cell_blk KA3.out 1
          have KB3c0 : w3.cell? ⟨w.heap.size + 1, 0, none⟩ = some (.int .i64 u) := cell_blk KB3.out 0
          have KB3c1 : w3.cell? ⟨w.heap.size + 1, 1, none⟩ = some (.int .i64 g) := cell_blk KB3.out 1
          have KZ3c0 : w3.cell? ⟨w.heap.size + 2, 0, none⟩ = some (.slice none 0 0) := cell_blk KZ3.out 0
          have KZ3c1 : w3.cell? ⟨w.heap.size + 2, 1, none⟩ = some (.int .i64 0) := cell_blk KZ3.out 1
          have KZ3f := frozen_blk KZ3.out
          have ko0 : w3.cell? ⟨w2.heap.size, 0, none⟩ = some (.slice oo2 ps2.length cc2) := cell_blk KO3.out 0
          have ko1 : w3.cell? ⟨w2.heap.size, 1, none⟩ = some (.int .i64 f.room) := cell_blk KO3.out 1
          clear hb3
          obtain ⟨g3, f3, lv3, e3, hcc, hee⟩ := nod_cells (c := c) HH.out hlt HB3.out
          obtain ⟨d0, d1, d2, d3, d4, d5, d6⟩ := hcc
          subst e3
          obtain ⟨xo, hxo⟩ : ∃ xo, bs (nodeAt f.nodes nd).data = xo := ⟨_, rfl⟩
          have HXO : Hid (xo.size = (nodeAt f.nodes nd).data.length) := Lib.hid (by rw [← hxo]; exact bs_size _)
          have hxs : xo.size ≤ 1048576 := by have h1 := HDS.out; have h2 := HSU.out; rw [HXO.out]; omega
          rw [hxo] at d5
          have hlg := World.block_lt_of_cell? w3 _ d5
          clear hee hxo d0 d1 d2 d3 d4 d6
          have HQ0 : Hid (Below w3.heap.size w3 w3) := Lib.hid (Below.refl _ _)
          have KS : Hid (∀ W, Below w3.heap.size w3 W → (fun w' => w'.cell? ⟨w.heap.size, 0, none⟩ = some (.slice (some ⟨g3, f3, none⟩) f.nodes.length c) ∧ w'.cell? ⟨w.heap.size, 1, none⟩ = some (.int .i64 f.room) ∧ w'.cell? ⟨g3, f3 + nd * 7 + 5, none⟩ = some (.string xo)) W) := Lib.hid (fun W h => ⟨(h.cell (p := ⟨w.heap.size, 0, none⟩) (lt_of_heap KA3.out)).trans (cell_blk KA3.out 0), (h.cell (p := ⟨w.heap.size, 1, none⟩) (lt_of_heap KA3.out)).trans (cell_blk KA3.out 1), (h.cell (p := ⟨g3, f3 + nd * 7 + 5, none⟩) hlg).trans d5⟩)
          obtain ⟨SS, hSS⟩ : ∃ SS, sumD f.nodes = SS := ⟨_, rfl⟩
          have HSS := Lib.hid hSS
          have HBY : Hid (∀ v9 W, FsA W v9 f → Calls Tryz.prog 68 #[v9] W fun e w' => e = .returned (.int .i64 (SS : Int)) ∧ Below W.heap.size W w') := Lib.hid (fun v9 W h => by rw [← hSS]; exact l3Bytes_any f v9 W h HS.out)
          have hS8 : SS ≤ 1048576 := by have h := HSU.out; omega
          have HR3 := Lib.hid (HR.out.below HB3.out)
          have hw1 : IntKind.i64.wrap ((SS : Int) - (xo.size : Int)) = (SS : Int) - (xo.size : Int) := IntWalk.i64_in _ (by omega)
          have hw2 : IntKind.i64.wrap ((SS : Int) - (xo.size : Int) + (x.size : Int)) = (SS : Int) - (xo.size : Int) + (x.size : Int) := IntWalk.i64_in _ (by omega)
          clear hSS
          go_wp2
          go_region_held3 (fun w' => w'.cell? ⟨w.heap.size, 0, none⟩ = some (.slice (some ⟨g3, f3, none⟩) f.nodes.length c) ∧ w'.cell? ⟨w.heap.size, 1, none⟩ = some (.int .i64 f.room) ∧ w'.cell? ⟨g3, f3 + nd * 7 + 5, none⟩ = some (.string xo)) (first | exact KS.out _ (by (first | (with_reducible exact HQ0.out) | (with_reducible exact bel_dr HQ0.out) | (with_reducible exact HQ5.out) | (with_reducible exact bel_dr HQ5.out))))
            (first | (go_at_call 68; (with_reducible refine (HBY.out _ _ (HR3.out.below (by (first | (with_reducible exact HQ0.out) | (with_reducible exact bel_dr HQ0.out))))).mono ?_); rintro e w5 ⟨rfl, hb5⟩; have HQ5 := Lib.hid (bel_both (w := w3) (by (first | (with_reducible exact HQ0.out) | (with_reducible exact bel_dr HQ0.out))) hb5).2; clear hb5))
          have HB5 := Lib.hid (bel_step HB3.out HQ5.out)
          have KO5 := Lib.hid (blk_step HQ5.out KO3.out)
          have HO5 := Lib.hid (HO3.out.below HQ5.out)
          have KZ5 := Lib.hid (blk_step HQ5.out KZ3.out)
          clear KA3c0 KA3c1 KB3c0 KB3c1 KZ3c0 KZ3c1 KZ3f ko0 ko1 d5 hlg
          have KZ5c0 : w5.cell? ⟨w.heap.size + 2, 0, none⟩ = some (.slice none 0 0) := cell_blk KZ5.out 0
          have KZ5c1 : w5.cell? ⟨w.heap.size + 2, 1, none⟩ = some (.int .i64 0) := cell_blk KZ5.out 1
          have KZ5f := frozen_blk KZ5.out
          have ko0 : w5.cell? ⟨w2.heap.size, 0, none⟩ = some (.slice oo2 ps2.length cc2) := cell_blk KO5.out 0
          have ko1 : w5.cell? ⟨w2.heap.size, 1, none⟩ = some (.int .i64 f.room) := cell_blk KO5.out 1
          have hro9 : f.room < (SS : Int) - (xo.size : Int) + (x.size : Int) := by have h1 := HRO.out; rw [HSS.out, ← HXO.out] at h1; exact h1
          go_wp2
          have hq := two_set KZ5.out (.slice oo2 ps2.length cc2) (.int .i64 f.room)
          have t0 := (cell_blk hq 0).trans rfl
          have t1 := (cell_blk hq 1).trans rfl
          refine bodyPost_ret (v := .tuple #[.agg #[(.slice oo2 ps2.length cc2), .int .i64 f.room], .int .i64 8, .bool true]) (by simp [results, Tryz.results32, go_sem, t0, t1]) rfl ?_
          have hA9 : Own _ w.heap.size _ _ := ((HO5.out.besides (b := w.heap.size + 2) (by omega) 0 (.slice oo2 ps2.length cc2)).besides (b := w.heap.size + 2) (by omega) 1 (.int .i64 f.room)).low (by omega)
          have hB9 := bel_set2 (G := w.heap.size + 2) (x := (.slice oo2 ps2.length cc2)) (y := .int .i64 f.room) HB5.out (by omega)
          first
            | exact ⟨_, ps2, by rw [HF.out, HCD.out, HAK.out], by rw [HF.out]; exact HPS.out, hA9, hB9⟩
            | exact ⟨_, by rw [HF.out, HCD.out, HAK.out], ps2, by rw [HF.out]; exact HPS.out, hA9, hB9⟩
        · have hr : wriW f u g s.data.toList x.data.toList = (0, nd) := by unfold wriW; rw [hxl, if_neg hx6, hfd]; simp [hro]
          have HF : Hid (F = ⟨f.nodes.set nd (wriN x.data.toList t (nodeAt f.nodes nd)), f.room⟩) := Lib.hid (by rw [hF, hr]; rfl)
          have HCD : Hid (CD = 0) := Lib.hid (by rw [hCD, hr]; rfl)
          have HRO := Lib.hid hro
          clear hk hk4 hAK hF hCD hr hxl hfd hro hx6
          go_enter Tryz.func32, Tryz.ntmps32
          go_wp2_with fail
          refine (l5Asked_is HK.out (HR.out.below HB0.out) HS.out).mono ?_
          rintro e w1 ⟨rfl, hb1⟩
          have HB1 := Lib.hid (HB0.out.trans (hb1.mono HB0.out.size))
          have KA1 := Lib.hid (blk_step hb1 KA0.out)
          have KB1 := Lib.hid (blk_step hb1 KB0.out)
          have KZ1 := Lib.hid (blk_step hb1 KZ0.out)
          have KA1c0 : w1.cell? ⟨w.heap.size, 0, none⟩ = some (.slice o f.nodes.length c) := cell_blk KA1.out 0
          have KA1c1 : w1.cell? ⟨w.heap.size, 1, none⟩ = some (.int .i64 f.room) := cell_blk KA1.out 1
          have KB1c0 : w1.cell? ⟨w.heap.size + 1, 0, none⟩ = some (.int .i64 u) := cell_blk KB1.out 0
          have KB1c1 : w1.cell? ⟨w.heap.size + 1, 1, none⟩ = some (.int .i64 g) := cell_blk KB1.out 1
          have KZ1c0 : w1.cell? ⟨w.heap.size + 2, 0, none⟩ = some (.slice none 0 0) := cell_blk KZ1.out 0
          have KZ1c1 : w1.cell? ⟨w.heap.size + 2, 1, none⟩ = some (.int .i64 0) := cell_blk KZ1.out 1
          clear hb1
          go_wp2_with fail
          refine (l3Own_any f _ _ (HR.out.below HB1.out) HS.out).mono ?_
          rintro e w2 ⟨nv2, ps2, rfl, hps2, hO2, hb2⟩
          obtain ⟨oo2, cc2, rfl, -⟩ := owns_form hO2.row
          have HLN : Hid (ps2.length = f.nodes.length) := Lib.hid (by rw [← hps2]; simp)
          have hpl8 : ps2.length ≤ 1048576 := by have h9 := HLN.out; omega
          have HPS := Lib.hid hps2
          have HB2 := Lib.hid (HB1.out.trans (hb2.mono HB1.out.size))
          have KA2 := Lib.hid (blk_step hb2 KA1.out)
          have KB2 := Lib.hid (blk_step hb2 KB1.out)
          have KZ2 := Lib.hid (blk_step hb2 KZ1.out)
          have hsz1 := lt_of_heap KZ1.out
          have HO2 := Lib.hid (hO2.low (R := w.heap.size + 3) hsz1)
          have HB2a := Lib.hid (HB2.out.alloc HB2.out.size (.cells #[.slice oo2 ps2.length cc2, .int .i64 f.room] 34))
          have KO2 := Lib.hid (heap_alloc_new w2 (.cells #[.slice oo2 ps2.length cc2, .int .i64 f.room] 34))
          have HO2a := Lib.hid (HO2.out.below ((Below.refl _ w2).alloc (Nat.le_refl _) (.cells #[.slice oo2 ps2.length cc2, .int .i64 f.room] 34)))
          have KA2a := Lib.hid ((Below.heap_alloc w2 (.cells #[.slice oo2 ps2.length cc2, .int .i64 f.room] 34) _ (lt_of_heap KA2.out)).trans KA2.out)
          have KB2a := Lib.hid ((Below.heap_alloc w2 (.cells #[.slice oo2 ps2.length cc2, .int .i64 f.room] 34) _ (lt_of_heap KB2.out)).trans KB2.out)
          have KZ2a := Lib.hid ((Below.heap_alloc w2 (.cells #[.slice oo2 ps2.length cc2, .int .i64 f.room] 34) _ (lt_of_heap KZ2.out)).trans KZ2.out)
          clear KA1c0 KA1c1 KB1c0 KB1c1 KZ1c0 KZ1c1
          clear hps2 hO2 hb2
          have KA2ac0 : (w2.alloc (.cells #[.slice oo2 ps2.length cc2, .int .i64 f.room] 34)).cell? ⟨w.heap.size, 0, none⟩ = some (.slice o f.nodes.length c) := cell_blk KA2a.out 0
          have KA2ac1 : (w2.alloc (.cells #[.slice oo2 ps2.length cc2, .int .i64 f.room] 34)).cell? ⟨w.heap.size, 1, none⟩ = some (.int .i64 f.room) := cell_blk KA2a.out 1
          have KB2ac0 : (w2.alloc (.cells #[.slice oo2 ps2.length cc2, .int .i64 f.room] 34)).cell? ⟨w.heap.size + 1, 0, none⟩ = some (.int .i64 u) := cell_blk KB2a.out 0
          have KB2ac1 : (w2.alloc (.cells #[.slice oo2 ps2.length cc2, .int .i64 f.room] 34)).cell? ⟨w.heap.size + 1, 1, none⟩ = some (.int .i64 g) := cell_blk KB2a.out 1
          go_wp2_with fail
          refine (l6File_is HFD.out (HR.out.below HB2a.out) HS.out hss HGD.out).mono ?_
          rintro e w3 ⟨rfl, hb3⟩
          have HB3 := Lib.hid (HB2a.out.trans (hb3.mono HB2a.out.size))
          have KO3 := Lib.hid (blk_step hb3 KO2.out)
          have HO3 := Lib.hid (HO2a.out.below hb3)
          have KA3 := Lib.hid (blk_step hb3 KA2a.out)
          have KB3 := Lib.hid (blk_step hb3 KB2a.out)
          have KZ3 := Lib.hid (blk_step hb3 KZ2a.out)
          clear KA2ac0 KA2ac1 KB2ac0 KB2ac1
          have KA3c0 : w3.cell? ⟨w.heap.size, 0, none⟩ = some (.slice o f.nodes.length c) := cell_blk KA3.out 0
          have KA3c1 : w3.cell? ⟨w.heap.size, 1, none⟩ = some (.int .i64 f.room) := cell_blk KA3.out 1
          have KB3c0 : w3.cell? ⟨w.heap.size + 1, 0, none⟩ = some (.int .i64 u) := cell_blk KB3.out 0
          have KB3c1 : w3.cell? ⟨w.heap.size + 1, 1, none⟩ = some (.int .i64 g) := cell_blk KB3.out 1
          have KZ3c0 : w3.cell? ⟨w.heap.size + 2, 0, none⟩ = some (.slice none 0 0) := cell_blk KZ3.out 0
          have KZ3c1 : w3.cell? ⟨w.heap.size + 2, 1, none⟩ = some (.int .i64 0) := cell_blk KZ3.out 1
          have KZ3f := frozen_blk KZ3.out
          have ko0 : w3.cell? ⟨w2.heap.size, 0, none⟩ = some (.slice oo2 ps2.length cc2) := cell_blk KO3.out 0
          have ko1 : w3.cell? ⟨w2.heap.size, 1, none⟩ = some (.int .i64 f.room) := cell_blk KO3.out 1
          clear hb3
          obtain ⟨g3, f3, lv3, e3, hcc, hee⟩ := nod_cells (c := c) HH.out hlt HB3.out
          obtain ⟨d0, d1, d2, d3, d4, d5, d6⟩ := hcc
          subst e3
          obtain ⟨xo, hxo⟩ : ∃ xo, bs (nodeAt f.nodes nd).data = xo := ⟨_, rfl⟩
          have HXO : Hid (xo.size = (nodeAt f.nodes nd).data.length) := Lib.hid (by rw [← hxo]; exact bs_size _)
          have hxs : xo.size ≤ 1048576 := by have h1 := HDS.out; have h2 := HSU.out; rw [HXO.out]; omega
          rw [hxo] at d5
          have hlg := World.block_lt_of_cell? w3 _ d5
          clear hee hxo d0 d1 d2 d3 d4 d6
          have HQ0 : Hid (Below w3.heap.size w3 w3) := Lib.hid (Below.refl _ _)
          have KS : Hid (∀ W, Below w3.heap.size w3 W → (fun w' => w'.cell? ⟨w.heap.size, 0, none⟩ = some (.slice (some ⟨g3, f3, none⟩) f.nodes.length c) ∧ w'.cell? ⟨w.heap.size, 1, none⟩ = some (.int .i64 f.room) ∧ w'.cell? ⟨g3, f3 + nd * 7 + 5, none⟩ = some (.string xo)) W) := Lib.hid (fun W h => ⟨(h.cell (p := ⟨w.heap.size, 0, none⟩) (lt_of_heap KA3.out)).trans (cell_blk KA3.out 0), (h.cell (p := ⟨w.heap.size, 1, none⟩) (lt_of_heap KA3.out)).trans (cell_blk KA3.out 1), (h.cell (p := ⟨g3, f3 + nd * 7 + 5, none⟩) hlg).trans d5⟩)
          obtain ⟨SS, hSS⟩ : ∃ SS, sumD f.nodes = SS := ⟨_, rfl⟩
          have HSS := Lib.hid hSS
          have HBY : Hid (∀ v9 W, FsA W v9 f → Calls Tryz.prog 68 #[v9] W fun e w' => e = .returned (.int .i64 (SS : Int)) ∧ Below W.heap.size W w') := Lib.hid (fun v9 W h => by rw [← hSS]; exact l3Bytes_any f v9 W h HS.out)
          have hS8 : SS ≤ 1048576 := by have h := HSU.out; omega
          have HR3 := Lib.hid (HR.out.below HB3.out)
          have hw1 : IntKind.i64.wrap ((SS : Int) - (xo.size : Int)) = (SS : Int) - (xo.size : Int) := IntWalk.i64_in _ (by omega)
          have hw2 : IntKind.i64.wrap ((SS : Int) - (xo.size : Int) + (x.size : Int)) = (SS : Int) - (xo.size : Int) + (x.size : Int) := IntWalk.i64_in _ (by omega)
          clear hSS
          go_wp2
          go_region_held3 (fun w' => w'.cell? ⟨w.heap.size, 0, none⟩ = some (.slice (some ⟨g3, f3, none⟩) f.nodes.length c) ∧ w'.cell? ⟨w.heap.size, 1, none⟩ = some (.int .i64 f.room) ∧ w'.cell? ⟨g3, f3 + nd * 7 + 5, none⟩ = some (.string xo)) (first | exact KS.out _ (by (first | (with_reducible exact HQ0.out) | (with_reducible exact bel_dr HQ0.out) | (with_reducible exact HQ5.out) | (with_reducible exact bel_dr HQ5.out))))
            (first | (go_at_call 68; (with_reducible refine (HBY.out _ _ (HR3.out.below (by (first | (with_reducible exact HQ0.out) | (with_reducible exact bel_dr HQ0.out))))).mono ?_); rintro e w5 ⟨rfl, hb5⟩; have HQ5 := Lib.hid (bel_both (w := w3) (by (first | (with_reducible exact HQ0.out) | (with_reducible exact bel_dr HQ0.out))) hb5).2; clear hb5))
          have HB5 := Lib.hid (bel_step HB3.out HQ5.out)
          have KO5 := Lib.hid (blk_step HQ5.out KO3.out)
          have HO5 := Lib.hid (HO3.out.below HQ5.out)
          have KZ5 := Lib.hid (blk_step HQ5.out KZ3.out)
          clear KA3c0 KA3c1 KB3c0 KB3c1 KZ3c0 KZ3c1 KZ3f ko0 ko1 d5 hlg
          have KZ5c0 : w5.cell? ⟨w.heap.size + 2, 0, none⟩ = some (.slice none 0 0) := cell_blk KZ5.out 0
          have KZ5c1 : w5.cell? ⟨w.heap.size + 2, 1, none⟩ = some (.int .i64 0) := cell_blk KZ5.out 1
          have KZ5f := frozen_blk KZ5.out
          have ko0 : w5.cell? ⟨w2.heap.size, 0, none⟩ = some (.slice oo2 ps2.length cc2) := cell_blk KO5.out 0
          have ko1 : w5.cell? ⟨w2.heap.size, 1, none⟩ = some (.int .i64 f.room) := cell_blk KO5.out 1
          have hro9 : ¬ (f.room < (SS : Int) - (xo.size : Int) + (x.size : Int)) := by have h1 := HRO.out; rw [HSS.out, ← HXO.out] at h1; omega
          have hndl : nd < ps2.length := by rw [HLN.out]; exact hlt
          obtain ⟨g9, cap9, e9, hRg, hgl, hn9, hm9, hc9, hfr9⟩ := HO5.out.at hndl
          simp only [Value.slice.injEq, true_and] at e9
          obtain ⟨rfl, rfl⟩ := e9
          have HPN := Lib.hid (at_map HPS.out hndl)
          have x9 := hc9.c5
          have hlt9 : g9 < w2.heap.size := HO2.out.ltE.1 g9 (by simp [Value.ownBlock])
          have HW8 := Lib.hid (HO5.out.turn hndl (show 5 < 7 by decide) (.string x) { (ps2[nd]'hndl).1 with data := x.data.toList } (by show (nodV _).set 5 (.string x) = _; unfold nodV; simp [bs_of]) rfl)
          have hlen8 : (ps2.set nd ({ (ps2[nd]'hndl).1 with data := x.data.toList }, (ps2[nd]'hndl).2)).length = ps2.length := by simp
          have hnd8 : nd < (ps2.set nd ({ (ps2[nd]'hndl).1 with data := x.data.toList }, (ps2[nd]'hndl).2)).length := by simpa using hndl
          have hel8 : (ps2.set nd ({ (ps2[nd]'hndl).1 with data := x.data.toList }, (ps2[nd]'hndl).2))[nd]'hnd8 = ({ (ps2[nd]'hndl).1 with data := x.data.toList }, (ps2[nd]'hndl).2) := by simp
          have HW9 : Hid (Own ((w5.setCell ⟨g9, nd * 7 + 5, none⟩ (.string x)).setCell ⟨g9, nd * 7 + 4, none⟩ (.int .i64 t)) (w.heap.size + 3) (.slice (some ⟨g9, 0, none⟩) ps2.length cc2) (ps2.set nd (wriN x.data.toList t (ps2[nd]'hndl).1, (ps2[nd]'hndl).2))) := Lib.hid (by
            have h8 : Own (w5.setCell ⟨g9, nd * 7 + 5, none⟩ (.string x)) (w.heap.size + 3) (.slice (some ⟨g9, 0, none⟩) (ps2.set nd ({ (ps2[nd]'hndl).1 with data := x.data.toList }, (ps2[nd]'hndl).2)).length cc2) (ps2.set nd ({ (ps2[nd]'hndl).1 with data := x.data.toList }, (ps2[nd]'hndl).2)) := by rw [hlen8]; exact HW8.out
            have h9 := h8.turn hnd8 (show 4 < 7 by decide) (.int .i64 t) (wriN x.data.toList t (ps2[nd]'hndl).1) (by rw [hel8]; rfl) (by rw [hel8]; rfl)
            rw [hel8, hlen8, List.set_set] at h9
            exact h9)
          have hK9 := (Below.heap_setCell (w5.setCell ⟨g9, nd * 7 + 5, none⟩ (.string x)) ⟨g9, nd * 7 + 4, none⟩ (.int .i64 t) (w.heap.size + 2) (by simp only; omega)).trans ((Below.heap_setCell w5 ⟨g9, nd * 7 + 5, none⟩ (.string x) (w.heap.size + 2) (by simp only; omega)).trans KZ5.out)
          have HK9 := Lib.hid hK9
          have HBL : Hid (Below w.heap.size w ((w5.setCell ⟨g9, nd * 7 + 5, none⟩ (.string x)).setCell ⟨g9, nd * 7 + 4, none⟩ (.int .i64 t))) := Lib.hid ((HB5.out.setCell (p := ⟨g9, nd * 7 + 5, none⟩) (by simp only; omega) _).setCell (p := ⟨g9, nd * 7 + 4, none⟩) (by simp only; omega) _)
          have hKO8 := (Below.heap_setCell w5 ⟨g9, nd * 7 + 5, none⟩ (.string x) w2.heap.size (by simp only; omega)).trans KO5.out
          have hKO9 := (Below.heap_setCell (w5.setCell ⟨g9, nd * 7 + 5, none⟩ (.string x)) ⟨g9, nd * 7 + 4, none⟩ (.int .i64 t) w2.heap.size (by simp only; omega)).trans hKO8
          have ko80 : (w5.setCell ⟨g9, nd * 7 + 5, none⟩ (.string x)).cell? ⟨w2.heap.size, 0, none⟩ = some (.slice (some ⟨g9, 0, none⟩) ps2.length cc2) := cell_blk hKO8 0
          have ko90 : ((w5.setCell ⟨g9, nd * 7 + 5, none⟩ (.string x)).setCell ⟨g9, nd * 7 + 4, none⟩ (.int .i64 t)).cell? ⟨w2.heap.size, 0, none⟩ = some (.slice (some ⟨g9, 0, none⟩) ps2.length cc2) := cell_blk hKO9 0
          have ko91 : ((w5.setCell ⟨g9, nd * 7 + 5, none⟩ (.string x)).setCell ⟨g9, nd * 7 + 4, none⟩ (.int .i64 t)).cell? ⟨w2.heap.size, 1, none⟩ = some (.int .i64 f.room) := cell_blk hKO9 1
          have x8 := hc9.c4
          clear hKO8 hKO9 hK9 hlen8 hnd8 hel8 hc9
          go_wp2
          have hq := two_set HK9.out (.slice (some ⟨g9, 0, none⟩) ps2.length cc2) (.int .i64 f.room)
          have t0 := (cell_blk hq 0).trans rfl
          have t1 := (cell_blk hq 1).trans rfl
          refine bodyPost_ret (v := .tuple #[.agg #[(.slice (some ⟨g9, 0, none⟩) ps2.length cc2), .int .i64 f.room], .int .i64 0, .bool true]) (by simp [results, Tryz.results32, go_sem, t0, t1]) rfl ?_
          have hA9 : Own _ w.heap.size _ _ := ((HW9.out.besides (b := w.heap.size + 2) (by omega) 0 (.slice (some ⟨g9, 0, none⟩) ps2.length cc2)).besides (b := w.heap.size + 2) (by omega) 1 (.int .i64 f.room)).low (by omega)
          have hB9 := bel_set2 (G := w.heap.size + 2) (x := (.slice (some ⟨g9, 0, none⟩) ps2.length cc2)) (y := .int .i64 f.room) HBL.out (by omega)
          first
            | exact ⟨_, (ps2.set nd (wriN x.data.toList t (ps2[nd]'hndl).1, (ps2[nd]'hndl).2)), by rw [HF.out, HCD.out, HAK.out], by rw [HF.out, map_turn HPS.out, HPN.out], hA9, hB9⟩
            | exact ⟨_, by rw [HF.out, HCD.out, HAK.out], (ps2.set nd (wriN x.data.toList t (ps2[nd]'hndl).1, (ps2[nd]'hndl).2)), by rw [HF.out, map_turn HPS.out, HPN.out], hA9, hB9⟩
      · have hr : wriW f u g s.data.toList x.data.toList = (cd, 0) := by unfold wriW; rw [hxl, if_neg hx6, hfd]; simp [hc]
        have HF : Hid (F = f) := Lib.hid (by rw [hF]; exact setF_bad (by rw [hr]; exact hc))
        have HCD : Hid (CD = cd) := Lib.hid (by rw [hCD, hr]; rfl)
        have hcb : (cd != 0) = true := by rw [bne_iff_ne]; exact hc
        clear hk hk4 hAK hF hCD hr hxl hfd hc hx6
        go_enter Tryz.func32, Tryz.ntmps32
        go_wp2_with fail
        refine (l5Asked_is HK.out (HR.out.below HB0.out) HS.out).mono ?_
        rintro e w1 ⟨rfl, hb1⟩
        have HB1 := Lib.hid (HB0.out.trans (hb1.mono HB0.out.size))
        have KA1 := Lib.hid (blk_step hb1 KA0.out)
        have KB1 := Lib.hid (blk_step hb1 KB0.out)
        have KZ1 := Lib.hid (blk_step hb1 KZ0.out)
        have KA1c0 : w1.cell? ⟨w.heap.size, 0, none⟩ = some (.slice o f.nodes.length c) := cell_blk KA1.out 0
        have KA1c1 : w1.cell? ⟨w.heap.size, 1, none⟩ = some (.int .i64 f.room) := cell_blk KA1.out 1
        have KB1c0 : w1.cell? ⟨w.heap.size + 1, 0, none⟩ = some (.int .i64 u) := cell_blk KB1.out 0
        have KB1c1 : w1.cell? ⟨w.heap.size + 1, 1, none⟩ = some (.int .i64 g) := cell_blk KB1.out 1
        have KZ1c0 : w1.cell? ⟨w.heap.size + 2, 0, none⟩ = some (.slice none 0 0) := cell_blk KZ1.out 0
        have KZ1c1 : w1.cell? ⟨w.heap.size + 2, 1, none⟩ = some (.int .i64 0) := cell_blk KZ1.out 1
        clear hb1
        go_wp2_with fail
        refine (l3Own_any f _ _ (HR.out.below HB1.out) HS.out).mono ?_
        rintro e w2 ⟨nv2, ps2, rfl, hps2, hO2, hb2⟩
        obtain ⟨oo2, cc2, rfl, -⟩ := owns_form hO2.row
        have HLN : Hid (ps2.length = f.nodes.length) := Lib.hid (by rw [← hps2]; simp)
        have hpl8 : ps2.length ≤ 1048576 := by have h9 := HLN.out; omega
        have HPS := Lib.hid hps2
        have HB2 := Lib.hid (HB1.out.trans (hb2.mono HB1.out.size))
        have KA2 := Lib.hid (blk_step hb2 KA1.out)
        have KB2 := Lib.hid (blk_step hb2 KB1.out)
        have KZ2 := Lib.hid (blk_step hb2 KZ1.out)
        have hsz1 := lt_of_heap KZ1.out
        have HO2 := Lib.hid (hO2.low (R := w.heap.size + 3) hsz1)
        have HB2a := Lib.hid (HB2.out.alloc HB2.out.size (.cells #[.slice oo2 ps2.length cc2, .int .i64 f.room] 34))
        have KO2 := Lib.hid (heap_alloc_new w2 (.cells #[.slice oo2 ps2.length cc2, .int .i64 f.room] 34))
        have HO2a := Lib.hid (HO2.out.below ((Below.refl _ w2).alloc (Nat.le_refl _) (.cells #[.slice oo2 ps2.length cc2, .int .i64 f.room] 34)))
        have KA2a := Lib.hid ((Below.heap_alloc w2 (.cells #[.slice oo2 ps2.length cc2, .int .i64 f.room] 34) _ (lt_of_heap KA2.out)).trans KA2.out)
        have KB2a := Lib.hid ((Below.heap_alloc w2 (.cells #[.slice oo2 ps2.length cc2, .int .i64 f.room] 34) _ (lt_of_heap KB2.out)).trans KB2.out)
        have KZ2a := Lib.hid ((Below.heap_alloc w2 (.cells #[.slice oo2 ps2.length cc2, .int .i64 f.room] 34) _ (lt_of_heap KZ2.out)).trans KZ2.out)
        clear KA1c0 KA1c1 KB1c0 KB1c1 KZ1c0 KZ1c1
        clear hps2 hO2 hb2
        have KA2ac0 : (w2.alloc (.cells #[.slice oo2 ps2.length cc2, .int .i64 f.room] 34)).cell? ⟨w.heap.size, 0, none⟩ = some (.slice o f.nodes.length c) := cell_blk KA2a.out 0
        have KA2ac1 : (w2.alloc (.cells #[.slice oo2 ps2.length cc2, .int .i64 f.room] 34)).cell? ⟨w.heap.size, 1, none⟩ = some (.int .i64 f.room) := cell_blk KA2a.out 1
        have KB2ac0 : (w2.alloc (.cells #[.slice oo2 ps2.length cc2, .int .i64 f.room] 34)).cell? ⟨w.heap.size + 1, 0, none⟩ = some (.int .i64 u) := cell_blk KB2a.out 0
        have KB2ac1 : (w2.alloc (.cells #[.slice oo2 ps2.length cc2, .int .i64 f.room] 34)).cell? ⟨w.heap.size + 1, 1, none⟩ = some (.int .i64 g) := cell_blk KB2a.out 1
        go_wp2_with fail
        refine (l6File_is HFD.out (HR.out.below HB2a.out) HS.out hss HGD.out).mono ?_
        rintro e w3 ⟨rfl, hb3⟩
        have HB3 := Lib.hid (HB2a.out.trans (hb3.mono HB2a.out.size))
        have KO3 := Lib.hid (blk_step hb3 KO2.out)
        have HO3 := Lib.hid (HO2a.out.below hb3)
        have KA3 := Lib.hid (blk_step hb3 KA2a.out)
        have KB3 := Lib.hid (blk_step hb3 KB2a.out)
        have KZ3 := Lib.hid (blk_step hb3 KZ2a.out)
        clear KA2ac0 KA2ac1 KB2ac0 KB2ac1
        have KA3c0 : w3.cell? ⟨w.heap.size, 0, none⟩ = some (.slice o f.nodes.length c) := cell_blk KA3.out 0
        have KA3c1 : w3.cell? ⟨w.heap.size, 1, none⟩ = some (.int .i64 f.room) := cell_blk KA3.out 1
        have KB3c0 : w3.cell? ⟨w.heap.size + 1, 0, none⟩ = some (.int .i64 u) := cell_blk KB3.out 0
        have KB3c1 : w3.cell? ⟨w.heap.size + 1, 1, none⟩ = some (.int .i64 g) := cell_blk KB3.out 1
        have KZ3c0 : w3.cell? ⟨w.heap.size + 2, 0, none⟩ = some (.slice none 0 0) := cell_blk KZ3.out 0
        have KZ3c1 : w3.cell? ⟨w.heap.size + 2, 1, none⟩ = some (.int .i64 0) := cell_blk KZ3.out 1
        have KZ3f := frozen_blk KZ3.out
        have ko0 : w3.cell? ⟨w2.heap.size, 0, none⟩ = some (.slice oo2 ps2.length cc2) := cell_blk KO3.out 0
        have ko1 : w3.cell? ⟨w2.heap.size, 1, none⟩ = some (.int .i64 f.room) := cell_blk KO3.out 1
        clear hb3
        go_wp2
        have hq := two_set KZ3.out (.slice oo2 ps2.length cc2) (.int .i64 f.room)
        have t0 := (cell_blk hq 0).trans rfl
        have t1 := (cell_blk hq 1).trans rfl
        refine bodyPost_ret (v := .tuple #[.agg #[(.slice oo2 ps2.length cc2), .int .i64 f.room], .int .i64 cd, .bool true]) (by simp [results, Tryz.results32, go_sem, t0, t1]) rfl ?_
        have hA9 : Own _ w.heap.size _ _ := ((HO3.out.besides (b := w.heap.size + 2) (by omega) 0 (.slice oo2 ps2.length cc2)).besides (b := w.heap.size + 2) (by omega) 1 (.int .i64 f.room)).low (by omega)
        have hB9 := bel_set2 (G := w.heap.size + 2) (x := (.slice oo2 ps2.length cc2)) (y := .int .i64 f.room) HB3.out (by omega)
        first
          | exact ⟨_, ps2, by rw [HF.out, HCD.out, HAK.out], by rw [HF.out]; exact HPS.out, hA9, hB9⟩
          | exact ⟨_, by rw [HF.out, HCD.out, HAK.out], ps2, by rw [HF.out]; exact HPS.out, hA9, hB9⟩
end Go.Proofs.YtpkmkpeabfmbiaaGreatDoor


/-
  The program's fileAt and ReadFile.
  Conditions: at most 2^20 values and letters together; a text of at most 2^20 bytes; the variable errors.errorType as the program's text lays it.
-/
namespace Go.Proofs.YtpkmkpeabfmbiaaGreatDoor
open Go.ChangeShapes Go.WideShapes Go.ChangeAt Go.RowKit Go.Joins
set_option linter.unusedVariables false
set_option linter.unusedSimpArgs false

theorem attr_ask {f : FsD} (h : goodF f = true) {u g want : Int} (hc : credB u g = true) (hw : inB 0 7 want = true) {i : Nat} (hi : i < f.nodes.length) : askB u g (nodeAt f.nodes i).mode (nodeAt f.nodes i).uid (nodeAt f.nodes i).gid want = true := by
  obtain ⟨h1, h2, h3⟩ := node_attr h hi
  unfold askB
  rw [hc, h1, h2, h3, hw]; rfl
set_option maxHeartbeats 4000000 in
theorem fileAt_any (f : FsD) (v : Value) (u g : Int) (s : ByteArray) (want : Int) (w : World) (hR : FsA w v f) (hs : szF f ≤ 1048576) (hk : askB4 f u g = true) (hw : inB 0 7 want = true) (hss : s.size ≤ 1048576) :
    Calls Tryz.prog 103 #[v, .agg #[.int .i64 u, .int .i64 g], .string s, .int .i64 want] w fun e w' => e = .returned (.tuple #[.int .i64 ((filW f.nodes u g s.data.toList want).2 : Nat), errV s (filW f.nodes u g s.data.toList want).1]) ∧ Below w.heap.size w w' := by
  have HR := Lib.hid hR
  obtain ⟨nv, rfl, hN⟩ := hR
  have HN := Lib.hid hN
  obtain ⟨o, c, rfl, hm, hH⟩ := hN
  have HH := Lib.hid hH
  unfold maxLen at hm
  have HS := Lib.hid hs
  have hl : f.nodes.length ≤ 1048576 := (lists_small hs).1
  have HB0 : Hid (Below w.heap.size w ((w.alloc (.cells #[.slice o f.nodes.length c, .int .i64 f.room] 34)).alloc (.cells #[.int .i64 u, .int .i64 g] 36))) := Lib.hid (((Below.refl _ _).alloc (Nat.le_refl _) _).alloc (by simp) _)
  have KA0 := Lib.hid (alloc3_fst' w (.cells #[.slice o f.nodes.length c, .int .i64 f.room] 34) (.cells #[.int .i64 u, .int .i64 g] 36))
  have KB0 := Lib.hid (alloc3_snd' w (.cells #[.slice o f.nodes.length c, .int .i64 f.room] 34) (.cells #[.int .i64 u, .int .i64 g] 36))
  clear hH
  have HK := Lib.hid hk
  have HW := Lib.hid hw
  have HL := Lib.hid (look_of (ask_good hk) HS.out)
  obtain ⟨⟨cd, nd⟩, hfd⟩ : ∃ q, lkFind f.nodes u g s.data.toList true = q := ⟨_, rfl⟩
  have hlt : nd < f.nodes.length := by have h7 := lkFind_lt HL.out.1 u g s.data.toList true; rw [hfd] at h7; exact h7
  have HFD := Lib.hid hfd
  clear hs hk hw
  by_cases hc : cd = 0
  · by_cases hk2 : (nodeAt f.nodes nd).kind = 2
    · have HV : Hid (filW f.nodes u g s.data.toList want = (7, 0)) := Lib.hid (by unfold filW; rw [hfd]; simp [hc, hk2])
      subst hc
      clear hfd
      go_enter Tryz.func103, Tryz.ntmps103
      go_wp2_with fail
      refine (nodeAt_is HFD.out (HR.out.below HB0.out) HS.out HK.out hss).mono ?_
      rintro e w1 ⟨rfl, hb1⟩
      have HB1 := Lib.hid (HB0.out.trans (hb1.mono HB0.out.size))
      have KA1 := Lib.hid ((hb1.block w.heap.size (lt_of_heap KA0.out)).trans KA0.out)
      have KB1 := Lib.hid ((hb1.block (w.heap.size + 1) (lt_of_heap KB0.out)).trans KB0.out)
      have x1a : w1.cell? ⟨w.heap.size, 0, none⟩ = some (.slice o f.nodes.length c) := cell_blk KA1.out 0
      have x1b : w1.cell? ⟨w.heap.size, 1, none⟩ = some (.int .i64 f.room) := cell_blk KA1.out 1
      have y1a : w1.cell? ⟨w.heap.size + 1, 0, none⟩ = some (.int .i64 u) := cell_blk KB1.out 0
      have y1b : w1.cell? ⟨w.heap.size + 1, 1, none⟩ = some (.int .i64 g) := cell_blk KB1.out 1
      clear hb1
      rw [errV_ok]
      obtain ⟨g3, f3, lv3, e3, hcc, hee⟩ := nod_cells (c := c) HH.out hlt HB1.out
      obtain ⟨d0, d1, d2, d3, d4, d5, d6⟩ := hcc
      subst e3
      rw [hk2] at d0
      clear hee
      go_wp2
      go_ret2
      exact ⟨by rw [HV.out]; show _ = Ending.returned (.tuple #[.int .i64 ((0 : Nat) : Int), errV s 7]); rfl, HB1.out⟩
    · have hkn := hk2
      cases hmy : mayB u g (nodeAt f.nodes nd).mode (nodeAt f.nodes nd).uid (nodeAt f.nodes nd).gid want with
      | false =>
        have HMY := Lib.hid hmy
        have HV : Hid (filW f.nodes u g s.data.toList want = (4, 0)) := Lib.hid (by unfold filW; rw [hfd]; simp [hc, hk2, hmy])
        subst hc
        clear hfd hmy hk2
        go_enter Tryz.func103, Tryz.ntmps103
        go_wp2_with fail
        refine (nodeAt_is HFD.out (HR.out.below HB0.out) HS.out HK.out hss).mono ?_
        rintro e w1 ⟨rfl, hb1⟩
        have HB1 := Lib.hid (HB0.out.trans (hb1.mono HB0.out.size))
        have KA1 := Lib.hid ((hb1.block w.heap.size (lt_of_heap KA0.out)).trans KA0.out)
        have KB1 := Lib.hid ((hb1.block (w.heap.size + 1) (lt_of_heap KB0.out)).trans KB0.out)
        have x1a : w1.cell? ⟨w.heap.size, 0, none⟩ = some (.slice o f.nodes.length c) := cell_blk KA1.out 0
        have x1b : w1.cell? ⟨w.heap.size, 1, none⟩ = some (.int .i64 f.room) := cell_blk KA1.out 1
        have y1a : w1.cell? ⟨w.heap.size + 1, 0, none⟩ = some (.int .i64 u) := cell_blk KB1.out 0
        have y1b : w1.cell? ⟨w.heap.size + 1, 1, none⟩ = some (.int .i64 g) := cell_blk KB1.out 1
        clear hb1
        rw [errV_ok]
        obtain ⟨o5, c5, e5, -, hH5⟩ := HN.out.below HB1.out
        simp only [Value.slice.injEq, true_and] at e5
        obtain ⟨rfl, rfl⟩ := e5
        obtain ⟨g5, f5, l5, rfl, hg5, hc5, -, -⟩ := hH5 nd hlt
        have hqe : f.nodes[nd] = nodeAt f.nodes nd := (getD_at hlt).symm
        rw [hqe] at hc5
        have HC5 := Lib.hid hc5
        have HAS : Hid (askB u g (nodeAt f.nodes nd).mode (nodeAt f.nodes nd).uid (nodeAt f.nodes nd).gid want = true) := Lib.hid (attr_ask (ask_good HK.out) (ask_cred HK.out) HW.out hlt)
        obtain ⟨nq, hnq⟩ : ∃ nq, nq = nodeAt f.nodes nd := ⟨_, rfl⟩
        rw [← hnq] at HC5 HAS HMY hkn
        clear hH5 hc5 hqe hnq
        have z0 := fun d os => cell_regrown (w := w1) x1a d os
        have z1 := fun d os => cell_regrown (w := w1) y1a d os
        have z2 := fun d os => cell_regrown (w := w1) y1b d os
        have zk := HC5.out.c0
        have kb : (nq.kind == 2) = false := beq_eq_false_iff_ne.2 hkn
        clear z0 z1 z2
        go_wp2_with fail
        refine (mayAt_is HMY.out hg5 HC5.out HAS.out).mono ?_
        rintro e w6 ⟨rfl, hb6⟩
        have HB6 := Lib.hid (HB1.out.trans (hb6.mono HB1.out.size))
        clear hb6
        go_wp2
        go_ret2
        exact ⟨by rw [HV.out]; show _ = Ending.returned (.tuple #[.int .i64 ((0 : Nat) : Int), errV s 4]); rfl, HB6.out⟩
      | true =>
        have HMY := Lib.hid hmy
        have HV : Hid (filW f.nodes u g s.data.toList want = (0, nd)) := Lib.hid (by unfold filW; rw [hfd]; simp [hc, hk2, hmy])
        subst hc
        clear hfd hmy hk2
        go_enter Tryz.func103, Tryz.ntmps103
        go_wp2_with fail
        refine (nodeAt_is HFD.out (HR.out.below HB0.out) HS.out HK.out hss).mono ?_
        rintro e w1 ⟨rfl, hb1⟩
        have HB1 := Lib.hid (HB0.out.trans (hb1.mono HB0.out.size))
        have KA1 := Lib.hid ((hb1.block w.heap.size (lt_of_heap KA0.out)).trans KA0.out)
        have KB1 := Lib.hid ((hb1.block (w.heap.size + 1) (lt_of_heap KB0.out)).trans KB0.out)
        have x1a : w1.cell? ⟨w.heap.size, 0, none⟩ = some (.slice o f.nodes.length c) := cell_blk KA1.out 0
        have x1b : w1.cell? ⟨w.heap.size, 1, none⟩ = some (.int .i64 f.room) := cell_blk KA1.out 1
        have y1a : w1.cell? ⟨w.heap.size + 1, 0, none⟩ = some (.int .i64 u) := cell_blk KB1.out 0
        have y1b : w1.cell? ⟨w.heap.size + 1, 1, none⟩ = some (.int .i64 g) := cell_blk KB1.out 1
        clear hb1
        rw [errV_ok]
        obtain ⟨o5, c5, e5, -, hH5⟩ := HN.out.below HB1.out
        simp only [Value.slice.injEq, true_and] at e5
        obtain ⟨rfl, rfl⟩ := e5
        obtain ⟨g5, f5, l5, rfl, hg5, hc5, -, -⟩ := hH5 nd hlt
        have hqe : f.nodes[nd] = nodeAt f.nodes nd := (getD_at hlt).symm
        rw [hqe] at hc5
        have HC5 := Lib.hid hc5
        have HAS : Hid (askB u g (nodeAt f.nodes nd).mode (nodeAt f.nodes nd).uid (nodeAt f.nodes nd).gid want = true) := Lib.hid (attr_ask (ask_good HK.out) (ask_cred HK.out) HW.out hlt)
        obtain ⟨nq, hnq⟩ : ∃ nq, nq = nodeAt f.nodes nd := ⟨_, rfl⟩
        rw [← hnq] at HC5 HAS HMY hkn
        clear hH5 hc5 hqe hnq
        have z0 := fun d os => cell_regrown (w := w1) x1a d os
        have z1 := fun d os => cell_regrown (w := w1) y1a d os
        have z2 := fun d os => cell_regrown (w := w1) y1b d os
        have zk := HC5.out.c0
        have kb : (nq.kind == 2) = false := beq_eq_false_iff_ne.2 hkn
        clear z0 z1 z2
        go_wp2_with fail
        refine (mayAt_is HMY.out hg5 HC5.out HAS.out).mono ?_
        rintro e w6 ⟨rfl, hb6⟩
        have HB6 := Lib.hid (HB1.out.trans (hb6.mono HB1.out.size))
        clear hb6
        go_wp2
        go_ret2
        exact ⟨by rw [HV.out]; rfl, HB6.out⟩
  · have HV : Hid (filW f.nodes u g s.data.toList want = (cd, 0)) := Lib.hid (by unfold filW; rw [hfd]; simp [hc])
    have HE := Lib.hid (errV_not s hc)
    clear hfd hc
    go_enter Tryz.func103, Tryz.ntmps103
    go_wp2_with fail
    refine (nodeAt_is HFD.out (HR.out.below HB0.out) HS.out HK.out hss).mono ?_
    rintro e w1 ⟨rfl, hb1⟩
    have HB1 := Lib.hid (HB0.out.trans (hb1.mono HB0.out.size))
    have KA1 := Lib.hid ((hb1.block w.heap.size (lt_of_heap KA0.out)).trans KA0.out)
    have KB1 := Lib.hid ((hb1.block (w.heap.size + 1) (lt_of_heap KB0.out)).trans KB0.out)
    have x1a : w1.cell? ⟨w.heap.size, 0, none⟩ = some (.slice o f.nodes.length c) := cell_blk KA1.out 0
    have x1b : w1.cell? ⟨w.heap.size, 1, none⟩ = some (.int .i64 f.room) := cell_blk KA1.out 1
    have y1a : w1.cell? ⟨w.heap.size + 1, 0, none⟩ = some (.int .i64 u) := cell_blk KB1.out 0
    have y1b : w1.cell? ⟨w.heap.size + 1, 1, none⟩ = some (.int .i64 g) := cell_blk KB1.out 1
    clear hb1
    rw [HE.out]
    go_wp2
    go_ret2
    exact ⟨by rw [HV.out]; show _ = Ending.returned (.tuple #[.int .i64 ((0 : Nat) : Int), errV s cd]); rw [HE.out]; rfl, HB1.out⟩
theorem fileAt_is {f : FsD} {v : Value} {u g : Int} {s : ByteArray} {want : Int} {w : World} {cd : Int} {nd : Nat} (h : filW f.nodes u g s.data.toList want = (cd, nd)) (hR : FsA w v f) (hs : szF f ≤ 1048576) (hk : askB4 f u g = true) (hw : inB 0 7 want = true) (hss : s.size ≤ 1048576) :
    Calls Tryz.prog 103 #[v, .agg #[.int .i64 u, .int .i64 g], .string s, .int .i64 want] w fun e w' => e = .returned (.tuple #[.int .i64 (nd : Int), errV s cd]) ∧ Below w.heap.size w w' := by
  have := fileAt_any f v u g s want w hR hs hk hw hss
  rw [h] at this
  exact this

end Go.Proofs.YtpkmkpeabfmbiaaGreatDoor
