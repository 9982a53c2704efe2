
/-
  PathTo: the model's l3Path and PathTo, the program's pathFromRoot and PathTo, with the same answer.
  Conditions: at most 2^20 values and letters together.
-/
import Derived.Test.YtdjpngdgbijedaaInoG
import Derived.Test.YtdjpngdgbijedaaOfC
namespace Go.Proofs.Ytdjpngdgbijedaa
open Go.ChangeShapes Go.WideShapes Go.ChangeAt Go.RowKit Go.Joins
set_option linter.unusedVariables false
set_option linter.unusedSimpArgs false

/-- The names from node 0 to a node, n steps up at most. -/
def nmsUp (P : Int → Pl) : Nat → Int → List (List UInt8)
  | 0, _ => []
  | n + 1, i => if i = 0 then [] else nmsUp P n ((P i).dir : Int) ++ [(P i).name]
theorem nmsUp_zero (P : Int → Pl) : ∀ n, nmsUp P n 0 = []
  | 0 => rfl
  | n + 1 => by rw [nmsUp, if_pos rfl]
theorem nmsUp_more (P : Int → Pl) : ∀ (n m : Nat) (i : Int), upN P n i = 0 → n ≤ m → nmsUp P m i = nmsUp P n i
  | 0, m, i, h, _ => by
    have h' : i = 0 := h
    rw [h', nmsUp_zero, nmsUp_zero]
  | n + 1, 0, i, _, hm => absurd hm (by omega)
  | n + 1, m + 1, i, h, hm => by
    rw [nmsUp, nmsUp]
    by_cases h0 : i = 0
    · rw [if_pos h0, if_pos h0]
    · rw [if_neg h0, if_neg h0, nmsUp_more P n m _ (by rw [← upN_one]; exact h) (by omega)]
theorem nmsUp_len (P : Int → Pl) : ∀ (n : Nat) (i : Int), (nmsUp P n i).length ≤ n
  | 0, i => by simp [nmsUp]
  | n + 1, i => by
    rw [nmsUp]
    by_cases h0 : i = 0
    · rw [if_pos h0]; simp
    · rw [if_neg h0]
      have := nmsUp_len P n ((P i).dir : Int)
      simp; omega
theorem nmsUp_all {P : Int → Pl} {b : Nat} (h : ∀ i, (P i).name.length ≤ b) : ∀ (n : Nat) (i : Int), ∀ p ∈ nmsUp P n i, p.length ≤ b
  | 0, i => by simp [nmsUp]
  | n + 1, i => by
    rw [nmsUp]
    by_cases h0 : i = 0
    · rw [if_pos h0]; simp
    · rw [if_neg h0]
      intro p hp
      rcases List.mem_append.1 hp with hp | hp
      · exact nmsUp_all h n _ p hp
      · rw [List.mem_singleton.1 hp]; exact h i
theorem slashed_le (b : Nat) : ∀ (ps : List (List UInt8)), (∀ p ∈ ps, p.length ≤ b) → (slashed ps).length ≤ (b + 1) * ps.length
  | [], _ => by simp [slashed]
  | p :: ps, h => by
    have h1 := slashed_le b ps (fun q hq => h q (by simp [hq]))
    have h2 := h p (by simp)
    have e : slashed (p :: ps) = 47 :: p ++ slashed ps := by simp [slashed]
    rw [e]
    simp only [List.length_append, List.length_cons, Nat.mul_add, Nat.mul_one]
    omega
theorem lastN_mem (i : Int) : ∀ (es : List Ent) (s : List UInt8), lastN i s es = s ∨ ∃ e ∈ es, lastN i s es = e.name
  | [], s => .inl rfl
  | e :: es, s => by
    unfold lastN
    rw [List.foldl_cons]
    by_cases he : e.node = i
    · rw [if_pos he]
      rcases lastN_mem i es e.name with h | ⟨x, hx, h⟩
      · exact .inr ⟨e, by simp, h⟩
      · exact .inr ⟨x, by simp [hx], h⟩
    · rw [if_neg he]
      rcases lastN_mem i es s with h | ⟨x, hx, h⟩
      · exact .inl h
      · exact .inr ⟨x, by simp [hx], h⟩
theorem lastN_take (i : Int) (s : List UInt8) {es : List Ent} {j : Nat} (h : j < es.length) : lastN i s (es.take (j + 1)) = if es[j].node = i then es[j].name else lastN i s (es.take j) := by
  unfold lastN
  rw [List.take_succ_eq_append_getElem h, List.foldl_append]
  rfl
theorem name_le {l : List UInt8} (h : nameB l = true) : l.length ≤ 8 := by
  have h1 := name_part h
  simp [partB] at h1
  omega
theorem ent_name {f : FsD} (h : goodF f = true) {n : Nod} (hn : n ∈ f.nodes) {e : Ent} (he : e ∈ n.list) : e.name.length ≤ 8 := by
  have h1 := (nodOk_iff.1 ((goodF_GoodF h).2.2.2.2.1 n hn)).1
  have h2 := (nodOkI_dir h1 (fun x => by rw [x] at he; cases he)).2
  obtain ⟨k, hk, rfl⟩ := List.getElem_of_mem he
  unfold entsOkI at h2
  rw [List.all_eq_true] at h2
  have h3 := h2 k (List.mem_range.2 hk)
  rw [entOkI_is hk] at h3
  simp only [Bool.and_eq_true, entGoodB] at h3
  exact name_le h3.1.1
theorem place_name {f : FsD} (h : goodF f = true) (i : Int) : (placesF f.nodes i).name.length ≤ 8 := by
  by_cases hl : 0 < links i f.nodes
  · obtain ⟨d, hd, -, -, e3⟩ := pl_some hl
    rw [e3]
    rcases lastN_mem i f.nodes[d].list [] with h1 | ⟨e, he, h1⟩
    · rw [h1]; simp
    · rw [h1]; exact ent_name h (List.getElem_mem hd) he
  · rw [pl_none (by omega)]; simp [pl0]
/-- The way up from a directory ends at node 0. -/
theorem good_up {f : FsD} (h : goodF f = true) {m : Nat} (hm : m < f.nodes.length) (hk : kindAt f.nodes m = 2) : upN (placesF f.nodes) f.nodes.length m = 0 := by
  have hI := (good_iff f).2 (goodF_GoodF h)
  have hp := good_pos h
  have h0 : links (0 : Int) f.nodes = 0 := ((goodF_GoodF h).2.2.2.2.2 0 hp).1 rfl
  rcases Nat.eq_zero_or_pos m with rfl | hpm
  · exact upN_zero (by rw [pl_none h0]; rfl) _
  · have h1 := hI.2.2.2.2.1 m hm
    unfold wellB at h1
    rw [if_neg (by rintro (h2 | h2) <;> omega), if_pos hk] at h1
    simp at h1
    exact h1.2
noncomputable def pathF (f : FsD) (node : Int) : List UInt8 := if parK f node = true then pathL (nmsUp (placesF f.nodes) f.nodes.length node) else []
/-- A directory above another one. -/
theorem good_above {f : FsD} (h : goodF f = true) {m : Nat} (hm : m < f.nodes.length) (hm0 : m ≠ 0) (hk : kindAt f.nodes m = 2) : ∃ d, ∃ hd : d < f.nodes.length, (placesF f.nodes m).dir = d ∧ parentOf m f.nodes = d ∧ kindAt f.nodes d = 2 ∧ (placesF f.nodes m).name = lastN m [] f.nodes[d].list := by
  have h1 : links m f.nodes = 1 := ((goodF_GoodF h).2.2.2.2.2 m hm).2.1 (by omega) hk
  obtain ⟨d, hd, e1, e2, e3⟩ := pl_some (ns := f.nodes) (i := m) (by omega)
  refine ⟨d, hd, e1, parent_is h1 hd e2, ?_, e3⟩
  have h4 := (nodOkI_dir ((nodOk_iff.1 ((goodF_GoodF h).2.2.2.2.1 _ (List.getElem_mem hd))).1) (fun x => by rw [x] at e2; simp [linksE, tot] at e2)).1
  rw [← h4]; simp [kindAt, List.getD, hd]

set_option maxHeartbeats 4000000 in
theorem l3Path_any (f : FsD) (hg : goodF f = true) (hs : szF f ≤ 1048576) : ∀ (n m : Nat) (v : Value) (w : World), n ≤ 1048576 → m < f.nodes.length → kindAt f.nodes m = 2 → upN (placesF f.nodes) n m = 0 → FsA w v f →
    Calls Try.prog 51 #[v, .int .i64 (m : Int)] w fun e w' => ∃ u, e = .returned u ∧ Lst w' w.heap.size u (nmsUp (placesF f.nodes) n m) ∧ Below w.heap.size w w' := by
  intro n
  induction n with
  | zero =>
    intro m v w _ hm hk hu hR
    have h0 : (m : Int) = 0 := hu
    obtain ⟨nv, rfl, hN⟩ := hR
    obtain ⟨o, c, rfl, -, -⟩ := hN
    rw [h0]
    have hbw : Below w.heap.size w (w.alloc (.cells #[.slice o f.nodes.length c, .int .i64 f.room] 24)) := (Below.refl _ _).alloc (Nat.le_refl _) _
    go_enter Try.func51, Try.ntmps51
    go_wp2
    go_ret
    exact ⟨_, rfl, Lst.nil _ _, hbw⟩
  | succ n ih =>
    intro m v w hn hm hk hu hR
    have HIH := Lib.hid ih
    have HR := Lib.hid hR
    obtain ⟨nv, rfl, hN⟩ := hR
    obtain ⟨o, c, rfl, hmm, hH⟩ := hN
    have HH := Lib.hid hH
    have HS := Lib.hid hs
    have HLS : Hid (∀ n ∈ f.nodes, n.list.length ≤ 1048576) := Lib.hid (fun n hn => ((lists_small hs).2 n hn).1)
    have hl : f.nodes.length ≤ 1048576 := (lists_small hs).1
    have hbw : Below w.heap.size w (w.alloc (.cells #[.slice o f.nodes.length c, .int .i64 f.room] 24)) := (Below.refl _ _).alloc (Nat.le_refl _) _
    have HB0 := Lib.hid hbw
    have HK0 := Lib.hid (heap_alloc_new w (.cells #[.slice o f.nodes.length c, .int .i64 f.room] 24))
    clear ih hH hbw hs
    unfold maxLen at hmm
    by_cases hm0 : m = 0
    · subst hm0
      have HZ : Hid (nmsUp (placesF f.nodes) (n + 1) ((0 : Nat) : Int) = []) := Lib.hid (nmsUp_zero _ _)
      go_enter Try.func51, Try.ntmps51
      go_wp2
      go_ret
      exact ⟨_, rfl, by rw [HZ.out]; exact Lst.nil _ _, HB0.out⟩
    · obtain ⟨d, hd, e1, e2, e3, e4⟩ := good_above hg hm hm0 hk
      have hmi : ((m : Int) == 0) = false := by rw [beq_eq_false_iff_ne]; omega
      have HP : Hid (parentOf (m : Int) f.nodes = d) := Lib.hid e2
      have HUP : Hid (upN (placesF f.nodes) n (d : Int) = 0) := Lib.hid (by rw [upN_one, e1] at hu; exact hu)
      have HKD := Lib.hid e3
      have HNM : Hid (nmsUp (placesF f.nodes) (n + 1) (m : Int) = nmsUp (placesF f.nodes) n (d : Int) ++ [lastN m [] f.nodes[d].list]) := Lib.hid (by rw [nmsUp, if_neg (by omega), e1, e4])
      have hql := HLS.out _ (List.getElem_mem hd)
      obtain ⟨g, off, lv, rfl, hg2, hcc, he, -⟩ := HH.out d hd
      have HC6 := Lib.hid hcc.c6
      obtain ⟨q, hqq⟩ : ∃ q, q = f.nodes[d] := ⟨_, rfl⟩
      rw [← hqq] at he hql HNM
      obtain ⟨oe, ce, rfl, -, hE⟩ := he
      have HE := Lib.hid hE
      have hnl := nmsUp_len (placesF f.nodes) n (d : Int)
      clear hcc hqq hE hk hu e1 e2 e3 e4
      obtain ⟨i0, hi, hz0, hz1, hz2⟩ := info_parts strInfo
      go_enter Try.func51, Try.ntmps51
      go_wp2_with fail
      refine (l3Parent_any f m _ _ (HR.out.below HB0.out) HS.out).mono ?_
      rintro e w1 ⟨rfl, hb1⟩
      rw [HP.out]
      have HB1 := Lib.hid (HB0.out.trans (hb1.mono HB0.out.size))
      have HK1 := Lib.hid ((hb1.block w.heap.size (lt_of_heap HK0.out)).trans HK0.out)
      have x1 := (cell_blk HK1.out 0).trans rfl
      have d6 := (HB1.out.cell (p := ⟨g, off + d * 7 + 6, none⟩) hg2).trans HC6.out
      clear hb1
      go_wp2
      go_loopw [6, 21] (fun t i wr => ∃ j : Nat, j ≤ q.list.length ∧ i = .int .i64 j ∧ t = .string (bs (lastN m [] (q.list.take j))) ∧ Below w.heap.size w wr ∧ wr.heap[w.heap.size]? = some (.cells #[.slice (some ⟨g, off, none⟩) f.nodes.length c, .int .i64 f.room] 24)) (fun _ i _ => q.list.length - (intOf i).toNat)
      case atStart => exact ⟨0, Nat.zero_le _, rfl, rfl, HB1.out, HK1.out⟩
      case round =>
        obtain ⟨j, hj, rfl, rfl, hB, hb⟩ := hrel
        by_cases hlt : j < q.list.length
        · obtain ⟨g3, f3, rfl, q3, y1, y2, -⟩ := HE.out j hlt
          have a1 := (hB.cell (p := ⟨g3, f3 + j * 2, none⟩) q3).trans y1
          have a2 := (hB.cell (p := ⟨g3, f3 + j * 2 + 1, none⟩) q3).trans y2
          have HT := Lib.hid (lastN_take (m : Int) [] hlt)
          obtain ⟨y, hyy⟩ : ∃ y, y = bs q.list[j].name := ⟨_, rfl⟩
          have HY := Lib.hid hyy
          rw [← hyy] at a1
          obtain ⟨r, hr⟩ : ∃ r, r = q.list[j].node := ⟨_, rfl⟩
          rw [← hr] at a2 HT
          have HA : Hid (∀ oo, Below w.heap.size w (wr.alloc oo)) := Lib.hid (fun oo => hB.alloc hB.size oo)
          have HW : Hid (∀ oo, (wr.alloc oo).heap[w.heap.size]? = some (.cells #[.slice (some ⟨g, off, none⟩) f.nodes.length c, .int .i64 f.room] 24)) := Lib.hid (fun oo => (Below.heap_alloc _ _ _ (lt_of_heap hb)).trans hb)
          clear y1 y2 hyy hr hB hb
          by_cases hrn : r = (m : Int)
          · have HT2 : Hid (lastN m [] (q.list.take (j + 1)) = q.list[j].name) := Lib.hid (by rw [HT.out, if_pos hrn])
            subst hrn
            go_wp2
            go_roundw
            case rel => exact ⟨j + 1, hlt, by go_num, by rw [HT2.out, ← HY.out], HA.out _, HW.out _⟩
            case measure => simp [intOf]; omega
          · have HT2 : Hid (lastN m [] (q.list.take (j + 1)) = lastN m [] (q.list.take j)) := Lib.hid (by rw [HT.out, if_neg hrn])
            have hrb : (r == (m : Int)) = false := beq_eq_false_iff_ne.2 hrn
            clear hrn
            go_wp2
            go_roundw
            case rel => exact ⟨j + 1, hlt, by go_num, by rw [HT2.out], HA.out _, HW.out _⟩
            case measure => simp [intOf]; omega
        · have HT : Hid (q.list.take j = q.list) := Lib.hid (List.take_of_length_le (by omega))
          rw [HT.out]
          have x2 := (cell_blk hb 0).trans rfl
          have y2 := (cell_blk hb 1).trans rfl
          have hsz := hB.size
          obtain ⟨x, hx⟩ : ∃ x, x = bs (lastN m [] q.list) := ⟨_, rfl⟩
          have HX := Lib.hid hx
          rw [← hx]
          clear hx hb
          go_wp2_with fail
          refine (HIH.out d _ _ (by omega) hd HKD.out HUP.out (HR.out.below hB)).mono ?_
          rintro e w5 ⟨u5, rfl, hL5, hb5⟩
          have hB5 := hB.trans (hb5.mono hB.size)
          have hL : Lst w5 w.heap.size u5 _ := lst_mono hL5 hsz
          clear hL5 hb5
          go_wp2_with (at_builtin; refine wpList_append_own _ rfl _ _ 62 rfl w.heap.size 9 i0 (.string ⟨#[]⟩) 1 16 Try.underlying62 hi hz0 hz1 hz2 rfl (by decide) _ _ _ rfl (hL.alloc _) ⟨w5.heap.size, 0, none⟩ 1 1 [.string x] rfl rfl (cell_one_new _ _ _) (by simp [Value.oneCell']) (by unfold maxLen; omega) (by omega) (by have := hB5.size; simp; omega) ?_)
          intro v6 w6 hown6 hgrow6 _
          have hb6 := below_app hB5 hB5.size hL hgrow6
          have HL6 := Lib.hid (Lst.snoc HX.out hown6)
          clear hown6 hgrow6 hL
          go_wp2
          go_ret
          exact ⟨_, rfl, by rw [HNM.out]; exact HL6.out, hb6⟩
end Go.Proofs.Ytdjpngdgbijedaa
