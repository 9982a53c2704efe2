/-
  Joined: LookP OfC InoP LookJ InoQ LookQ FileB TabH.
  Conditions: as each states.
-/
import Derived.Deep.DeepHandedRow
import Derived.LaidLaws
import Derived.LaidHandle
import Derived.Test.YtbmbbioanlcioaaGreatDoorCards
import Derived.Test.YtbmbbioanlcioaaGreatDoorTie
import Derived.Test.YtbmbbioanlcioaaGreatDoorLib3
import Derived.Test.YtbmbbioanlcioaaGreatDoorLib9
import Derived.Test.YtbmbbioanlcioaaGreatDoorLib10
import Derived.Test.YtbmbbioanlcioaaGreatDoorLib11
import Derived.Test.YtbmbbioanlcioaaGreatDoorLib13

/-
  The program's side of chapter 4: canLook, nodeAt, FindNode, linkAt, ReadLink.
  Conditions: at most 2^20 values and letters together; a text of at most 2^20 bytes; the variable errors.errorType as the program's text lays it.
-/
namespace Go.Proofs.YtbmbbioanlcioaaGreatDoor
open Go.ChangeShapes Go.WideShapes Go.ChangeAt Go.RowKit Go.Joins
set_option linter.unusedVariables false
set_option linter.unusedSimpArgs false

set_option maxHeartbeats 2000000 in
theorem canLook_any (f : FsD) (v : Value) (u g : Int) (w : World) (hR : FsA w v f) (hs : szF f ≤ 1048576) : Calls Tryz.prog 32 #[v, .agg #[.int .i64 u, .int .i64 g]] w fun e w' => e = .returned (.bool (askB4 f u g)) ∧ Below w.heap.size w w' := by
  have HR := Lib.hid hR
  obtain ⟨nv, rfl, hN⟩ := hR
  have HN := Lib.hid hN
  obtain ⟨o, c, rfl, hm, hH⟩ := hN
  unfold maxLen at hm
  have HS := Lib.hid hs
  have hl : f.nodes.length ≤ 1048576 := (lists_small hs).1
  have HB0 : Hid (Below w.heap.size w ((w.alloc (.cells #[.slice o f.nodes.length c, .int .i64 f.room] 32)).alloc (.cells #[.int .i64 u, .int .i64 g] 34))) := Lib.hid (((Below.refl _ _).alloc (Nat.le_refl _) _).alloc (by simp) _)
  have KA0 := Lib.hid (alloc3_fst' w (.cells #[.slice o f.nodes.length c, .int .i64 f.room] 32) (.cells #[.int .i64 u, .int .i64 g] 34))
  have KB0 := Lib.hid (alloc3_snd' w (.cells #[.slice o f.nodes.length c, .int .i64 f.room] 32) (.cells #[.int .i64 u, .int .i64 g] 34))
  clear hH
  clear hs
  by_cases hg : goodF f = true
  · have HG := Lib.hid hg
    have HF : Hid (askB4 f u g = credB u g) := Lib.hid (by unfold askB4; rw [HG.out]; rfl)
    clear hg
    go_enter Tryz.func32, Tryz.ntmps32
    go_wp2_with fail
    refine (goodFs_any f _ _ (HR.out.below HB0.out) HS.out).mono ?_
    rintro e w1 ⟨rfl, hb1⟩
    rw [HG.out]
    have HB1 := Lib.hid (HB0.out.trans (hb1.mono HB0.out.size))
    have KA1 := Lib.hid ((hb1.block w.heap.size (lt_of_heap KA0.out)).trans KA0.out)
    have KB1 := Lib.hid ((hb1.block (w.heap.size + 1) (lt_of_heap KB0.out)).trans KB0.out)
    have x1a : w1.cell? ⟨w.heap.size, 0, none⟩ = some (.slice o f.nodes.length c) := cell_blk KA1.out 0
    have x1b : w1.cell? ⟨w.heap.size, 1, none⟩ = some (.int .i64 f.room) := cell_blk KA1.out 1
    have y1a : w1.cell? ⟨w.heap.size + 1, 0, none⟩ = some (.int .i64 u) := cell_blk KB1.out 0
    have y1b : w1.cell? ⟨w.heap.size + 1, 1, none⟩ = some (.int .i64 g) := cell_blk KB1.out 1
    clear hb1
    go_wp2_with fail
    refine (goodCred_any u g _).mono ?_
    rintro e w2 ⟨rfl, hb2⟩
    have HB2 := Lib.hid (HB1.out.trans (hb2.mono HB1.out.size))
    clear hb2
    go_wp2
    go_ret
    exact ⟨ret_bool HF.out.symm, HB2.out⟩
  · have HG : Hid (goodF f = false) := Lib.hid (by simpa using hg)
    have HF : Hid (askB4 f u g = false) := Lib.hid (by unfold askB4; rw [HG.out]; rfl)
    clear hg
    go_enter Tryz.func32, Tryz.ntmps32
    go_wp2_with fail
    refine (goodFs_any f _ _ (HR.out.below HB0.out) HS.out).mono ?_
    rintro e w1 ⟨rfl, hb1⟩
    rw [HG.out]
    have HB1 := Lib.hid (HB0.out.trans (hb1.mono HB0.out.size))
    clear hb1
    go_wp2
    go_ret
    exact ⟨ret_bool HF.out.symm, HB1.out⟩
theorem canLook_is {f : FsD} {v : Value} {u g : Int} {w : World} {b : Bool} (h : askB4 f u g = b) (hR : FsA w v f) (hs : szF f ≤ 1048576) : Calls Tryz.prog 32 #[v, .agg #[.int .i64 u, .int .i64 g]] w fun e w' => e = .returned (.bool b) ∧ Below w.heap.size w w' := by
  rw [← h]; exact canLook_any f v u g w hR hs

set_option maxHeartbeats 2000000 in
theorem nodeAt_no (f : FsD) (v : Value) (u g : Int) (s : ByteArray) (fol : Bool) (w : World) (hR : FsA w v f) (hs : szF f ≤ 1048576) (hss : s.size ≤ 1048576) (hw : wgB s.data.toList = false) :
    Calls Tryz.prog 46 #[v, .agg #[.int .i64 u, .int .i64 g], .string s, .bool fol] w fun e w' => e = .returned (.tuple #[.int .i64 0, faultV s 1]) ∧ Below w.heap.size w w' := by
  have HR := Lib.hid hR
  obtain ⟨nv, rfl, hN⟩ := hR
  have HN := Lib.hid hN
  obtain ⟨o, c, rfl, hm, hH⟩ := hN
  unfold maxLen at hm
  have HS := Lib.hid hs
  have hl : f.nodes.length ≤ 1048576 := (lists_small hs).1
  have HB0 : Hid (Below w.heap.size w ((w.alloc (.cells #[.slice o f.nodes.length c, .int .i64 f.room] 32)).alloc (.cells #[.int .i64 u, .int .i64 g] 34))) := Lib.hid (((Below.refl _ _).alloc (Nat.le_refl _) _).alloc (by simp) _)
  have KA0 := Lib.hid (alloc3_fst' w (.cells #[.slice o f.nodes.length c, .int .i64 f.room] 32) (.cells #[.int .i64 u, .int .i64 g] 34))
  have KB0 := Lib.hid (alloc3_snd' w (.cells #[.slice o f.nodes.length c, .int .i64 f.room] 32) (.cells #[.int .i64 u, .int .i64 g] 34))
  clear hH
  have HW := Lib.hid hw
  clear hw hs
  go_enter Tryz.func46, Tryz.ntmps46
  go_wp2_with fail
  refine (isWholePath_is HW.out (by omega)).mono ?_
  rintro e w1 ⟨rfl, hb1⟩
  have HB1 := Lib.hid (HB0.out.trans (hb1.mono HB0.out.size))
  clear hb1
  go_wp2
  go_ret2
  exact ⟨rfl, HB1.out⟩
theorem nodeAt_any (f : FsD) (v : Value) (u g : Int) (s : ByteArray) (fol : Bool) (w : World) (hR : FsA w v f) (hs : szF f ≤ 1048576) (hgood : goodF f = true) (hcred : credB u g = true) (hss : s.size ≤ 1048576) :
    Calls Tryz.prog 46 #[v, .agg #[.int .i64 u, .int .i64 g], .string s, .bool fol] w fun e w' => e = .returned (.tuple #[.int .i64 ((lkFind f.nodes u g s.data.toList fol).2 : Nat), errV s (lkFind f.nodes u g s.data.toList fol).1]) ∧ Below w.heap.size w w' := by
  by_cases hw : wgB s.data.toList = true
  · cases fol with
    | false => exact nodeAt_f f v u g s w hR hgood hcred hs hss hw
    | true => exact nodeAt_t f v u g s w hR hgood hcred hs hss hw
  · have h1 : lkFind f.nodes u g s.data.toList fol = (1, 0) := by
      unfold lkFind
      rw [if_neg]
      intro h
      apply hw
      unfold wgB
      rw [h.1, h.2]; rfl
    rw [h1]
    exact nodeAt_no f v u g s fol w hR hs hss (by simpa using hw)
theorem ask_cred {f : FsD} {u g : Int} (h : askB4 f u g = true) : credB u g = true := by unfold askB4 at h; simp only [Bool.and_eq_true] at h; exact h.2
theorem nodeAt_is {f : FsD} {v : Value} {u g : Int} {s : ByteArray} {fol : Bool} {w : World} {cd : Int} {nd : Nat} (h : lkFind f.nodes u g s.data.toList fol = (cd, nd)) (hR : FsA w v f) (hs : szF f ≤ 1048576) (hk : askB4 f u g = true) (hss : s.size ≤ 1048576) :
    Calls Tryz.prog 46 #[v, .agg #[.int .i64 u, .int .i64 g], .string s, .bool fol] w fun e w' => e = .returned (.tuple #[.int .i64 (nd : Int), errV s cd]) ∧ Below w.heap.size w w' := by
  have := nodeAt_any f v u g s fol w hR hs (ask_good hk) (ask_cred hk) hss
  rw [h] at this
  exact this

end Go.Proofs.YtbmbbioanlcioaaGreatDoor


/-
  The contract of spec.l2Of.
  Conditions: lists of texts that together have at most 2^30 bytes.
-/
namespace Go.Proofs.YtbmbbioanlcioaaGreatDoor
open Go.ChangeShapes Go.WideShapes Go.ChangeAt Go.RowKit Go.Joins
set_option linter.unusedVariables false

theorem slashed_take {ps : List (List UInt8)} {k : Nat} (h : k < ps.length) : slashed (ps.take (k + 1)) = slashed (ps.take k) ++ 47 :: ps[k] := by
  rw [List.take_succ_eq_append_getElem h, slashed_snoc]
theorem slashed_app (a b : List (List UInt8)) : slashed (a ++ b) = slashed a ++ slashed b := by simp [slashed]
theorem slashed_pre (ps : List (List UInt8)) (k : Nat) : (slashed (ps.take k)).length ≤ (slashed ps).length := by
  conv => rhs; rw [← List.take_append_drop k ps]
  rw [slashed_app]; simp

end Go.Proofs.YtbmbbioanlcioaaGreatDoor


/-
  PathTo: the model's l3Path and PathTo, the program's pathFromRoot and PathTo, with the same answer.
  Conditions: at most 2^20 values and letters together.
-/
namespace Go.Proofs.YtbmbbioanlcioaaGreatDoor
open Go.ChangeShapes Go.WideShapes Go.ChangeAt Go.RowKit Go.Joins
set_option linter.unusedVariables false
set_option linter.unusedSimpArgs false

/-- The names from node 0 to a node, n steps up at most. -/
def nmsUp (P : Int → Pl) : Nat → Int → List (List UInt8)
  | 0, _ => []
  | n + 1, i => if i = 0 then [] else nmsUp P n ((P i).dir : Int) ++ [(P i).name]
theorem nmsUp_zero (P : Int → Pl) : ∀ n, nmsUp P n 0 = []
  | 0 => rfl
  | n + 1 => by rw [nmsUp, if_pos rfl]
theorem nmsUp_more (P : Int → Pl) : ∀ (n m : Nat) (i : Int), upN P n i = 0 → n ≤ m → nmsUp P m i = nmsUp P n i
  | 0, m, i, h, _ => by
    have h' : i = 0 := h
    rw [h', nmsUp_zero, nmsUp_zero]
  | n + 1, 0, i, _, hm => absurd hm (by omega)
  | n + 1, m + 1, i, h, hm => by
    rw [nmsUp, nmsUp]
    by_cases h0 : i = 0
    · rw [if_pos h0, if_pos h0]
    · rw [if_neg h0, if_neg h0, nmsUp_more P n m _ (by rw [← upN_one]; exact h) (by omega)]
theorem nmsUp_len (P : Int → Pl) : ∀ (n : Nat) (i : Int), (nmsUp P n i).length ≤ n
  | 0, i => by simp [nmsUp]
  | n + 1, i => by
    rw [nmsUp]
    by_cases h0 : i = 0
    · rw [if_pos h0]; simp
    · rw [if_neg h0]
      have := nmsUp_len P n ((P i).dir : Int)
      simp; omega
theorem nmsUp_all {P : Int → Pl} {b : Nat} (h : ∀ i, (P i).name.length ≤ b) : ∀ (n : Nat) (i : Int), ∀ p ∈ nmsUp P n i, p.length ≤ b
  | 0, i => by simp [nmsUp]
  | n + 1, i => by
    rw [nmsUp]
    by_cases h0 : i = 0
    · rw [if_pos h0]; simp
    · rw [if_neg h0]
      intro p hp
      rcases List.mem_append.1 hp with hp | hp
      · exact nmsUp_all h n _ p hp
      · rw [List.mem_singleton.1 hp]; exact h i
theorem slashed_le (b : Nat) : ∀ (ps : List (List UInt8)), (∀ p ∈ ps, p.length ≤ b) → (slashed ps).length ≤ (b + 1) * ps.length
  | [], _ => by simp [slashed]
  | p :: ps, h => by
    have h1 := slashed_le b ps (fun q hq => h q (by simp [hq]))
    have h2 := h p (by simp)
    have e : slashed (p :: ps) = 47 :: p ++ slashed ps := by simp [slashed]
    rw [e]
    simp only [List.length_append, List.length_cons, Nat.mul_add, Nat.mul_one]
    omega
theorem lastN_mem (i : Int) : ∀ (es : List Ent) (s : List UInt8), lastN i s es = s ∨ ∃ e ∈ es, lastN i s es = e.name
  | [], s => .inl rfl
  | e :: es, s => by
    unfold lastN
    rw [List.foldl_cons]
    by_cases he : e.node = i
    · rw [if_pos he]
      rcases lastN_mem i es e.name with h | ⟨x, hx, h⟩
      · exact .inr ⟨e, by simp, h⟩
      · exact .inr ⟨x, by simp [hx], h⟩
    · rw [if_neg he]
      rcases lastN_mem i es s with h | ⟨x, hx, h⟩
      · exact .inl h
      · exact .inr ⟨x, by simp [hx], h⟩
theorem lastN_take (i : Int) (s : List UInt8) {es : List Ent} {j : Nat} (h : j < es.length) : lastN i s (es.take (j + 1)) = if es[j].node = i then es[j].name else lastN i s (es.take j) := by
  unfold lastN
  rw [List.take_succ_eq_append_getElem h, List.foldl_append]
  rfl
theorem name_le {l : List UInt8} (h : nameB l = true) : l.length ≤ 8 := by
  have h1 := name_part h
  simp [partB] at h1
  omega
theorem ent_name {f : FsD} (h : goodF f = true) {n : Nod} (hn : n ∈ f.nodes) {e : Ent} (he : e ∈ n.list) : e.name.length ≤ 8 := by
  have h1 := (nodOk_iff.1 ((goodF_GoodF h).2.2.2.2.1 n hn)).1
  have h2 := (nodOkI_dir h1 (fun x => by rw [x] at he; cases he)).2
  obtain ⟨k, hk, rfl⟩ := List.getElem_of_mem he
  unfold entsOkI at h2
  rw [List.all_eq_true] at h2
  have h3 := h2 k (List.mem_range.2 hk)
  rw [entOkI_is hk] at h3
  simp only [Bool.and_eq_true, entGoodB] at h3
  exact name_le h3.1.1
theorem place_name {f : FsD} (h : goodF f = true) (i : Int) : (placesF f.nodes i).name.length ≤ 8 := by
  by_cases hl : 0 < links i f.nodes
  · obtain ⟨d, hd, -, -, e3⟩ := pl_some hl
    rw [e3]
    rcases lastN_mem i f.nodes[d].list [] with h1 | ⟨e, he, h1⟩
    · rw [h1]; simp
    · rw [h1]; exact ent_name h (List.getElem_mem hd) he
  · rw [pl_none (by omega)]; simp [pl0]
/-- The way up from a directory ends at node 0. -/
theorem good_up {f : FsD} (h : goodF f = true) {m : Nat} (hm : m < f.nodes.length) (hk : kindAt f.nodes m = 2) : upN (placesF f.nodes) f.nodes.length m = 0 := by
  have hI := (good_iff f).2 (goodF_GoodF h)
  have hp := good_pos h
  have h0 : links (0 : Int) f.nodes = 0 := ((goodF_GoodF h).2.2.2.2.2 0 hp).1 rfl
  rcases Nat.eq_zero_or_pos m with rfl | hpm
  · exact upN_zero (by rw [pl_none h0]; rfl) _
  · have h1 := hI.2.2.2.2.1 m hm
    unfold wellB at h1
    rw [if_neg (by rintro (h2 | h2) <;> omega), if_pos hk] at h1
    simp at h1
    exact h1.2
noncomputable def pathF (f : FsD) (node : Int) : List UInt8 := if parK f node = true then pathL (nmsUp (placesF f.nodes) f.nodes.length node) else []
/-- A directory above another one. -/
theorem good_above {f : FsD} (h : goodF f = true) {m : Nat} (hm : m < f.nodes.length) (hm0 : m ≠ 0) (hk : kindAt f.nodes m = 2) : ∃ d, ∃ hd : d < f.nodes.length, (placesF f.nodes m).dir = d ∧ parentOf m f.nodes = d ∧ kindAt f.nodes d = 2 ∧ (placesF f.nodes m).name = lastN m [] f.nodes[d].list := by
  have h1 : links m f.nodes = 1 := ((goodF_GoodF h).2.2.2.2.2 m hm).2.1 (by omega) hk
  obtain ⟨d, hd, e1, e2, e3⟩ := pl_some (ns := f.nodes) (i := m) (by omega)
  refine ⟨d, hd, e1, parent_is h1 hd e2, ?_, e3⟩
  have h4 := (nodOkI_dir ((nodOk_iff.1 ((goodF_GoodF h).2.2.2.2.1 _ (List.getElem_mem hd))).1) (fun x => by rw [x] at e2; simp [linksE, tot] at e2)).1
  rw [← h4]; simp [kindAt, List.getD, hd]

end Go.Proofs.YtbmbbioanlcioaaGreatDoor


/-
  The model's RealPath, ListDir and CodeText.
  Conditions: at most 2^20 values and letters together; a text of at most 2^20 bytes.
-/
namespace Go.Proofs.YtbmbbioanlcioaaGreatDoor
open Go.ChangeShapes Go.WideShapes Go.ChangeAt Go.RowKit Go.Joins
set_option linter.unusedVariables false
set_option linter.unusedSimpArgs false

theorem dirF_lt {f : FsD} (hF : LookFs f) (u g : Int) (l : List UInt8) : (dirF f.nodes u g l).2 < f.nodes.length := by
  unfold dirF
  split
  · exact hF.pos
  · exact lkFind_lt hF u g l true
theorem dirF_kind {ns : List Nod} {u g : Int} {l : List UInt8} (h : (dirF ns u g l).1 = 0) : (nodeAt ns (dirF ns u g l).2).kind = 2 := by
  unfold dirF at h ⊢
  by_cases hc : (lkFind ns u g l true).1 = 0 ∧ (nodeAt ns (lkFind ns u g l true).2).kind ≠ 2
  · rw [if_pos hc] at h; exact absurd h (by decide)
  · rw [if_neg hc] at h ⊢
    by_cases hk : (nodeAt ns (lkFind ns u g l true).2).kind = 2
    · exact hk
    · exact absurd ⟨h, hk⟩ hc
theorem kind_at {ns : List Nod} {i : Nat} (hi : i < ns.length) : kindAt ns (i : Int) = (nodeAt ns i).kind := by
  unfold kindAt nodeAt; simp
theorem names_smallL {f : FsD} (h : goodF f = true) (m : Int) : (slashed (nmsUp (placesF f.nodes) f.nodes.length m)).length ≤ 360 := by
  have h1 := nmsUp_len (placesF f.nodes) f.nodes.length m
  have h2 := slashed_le 8 _ (nmsUp_all (place_name h) f.nodes.length m)
  have h3 := inB_t (goodF_GoodF h).1
  omega
/-- What RealPath tells: a text and a code. -/
noncomputable def rpF (f : FsD) (u g : Int) (l : List UInt8) : List UInt8 × Int :=
  if (dirF f.nodes u g l).1 ≠ 0 then ([], (dirF f.nodes u g l).1) else (pathL (nmsUp (placesF f.nodes) f.nodes.length ((dirF f.nodes u g l).2 : Nat)), 0)
noncomputable def rpT (f : FsD) (u g : Int) (l : List UInt8) : List UInt8 := if askB4 f u g = true then (rpF f u g l).1 else []
noncomputable def rpC (f : FsD) (u g : Int) (l : List UInt8) : Int := if askB4 f u g = true then (rpF f u g l).2 else 0
/-- What ListDir tells: names and a code. -/
def ldC0 (ns : List Nod) (u g : Int) (l : List UInt8) : Int :=
  if (dirF ns u g l).1 = 0 ∧ mayB u g (nodeAt ns (dirF ns u g l).2).mode (nodeAt ns (dirF ns u g l).2).uid (nodeAt ns (dirF ns u g l).2).gid 4 = false then 4 else (dirF ns u g l).1
def namesOf (es : List Ent) : List (List UInt8) := es.map fun e => e.name
noncomputable def ldL (f : FsD) (u g : Int) (l : List UInt8) : List (List UInt8) := if askB4 f u g = true ∧ ldC0 f.nodes u g l = 0 then namesOf (nodeAt f.nodes (dirF f.nodes u g l).2).list else []
noncomputable def ldC (f : FsD) (u g : Int) (l : List UInt8) : Int := if askB4 f u g = true then ldC0 f.nodes u g l else 0
theorem names_take {es : List Ent} {k : Nat} (h : k < es.length) : namesOf (es.take (k + 1)) = namesOf (es.take k) ++ [es[k].name] := by
  unfold namesOf; rw [List.take_succ_eq_append_getElem h, List.map_append]; rfl
theorem cell_new1 (w : World) (a : Obj) (v : Value) (t : TypeId) : ∀ j u, [v][j]? = some u → ((w.alloc a).alloc (.cells #[v] t)).cell? ((⟨w.heap.size + 1, 0, none⟩ : Addr).add j) = some u := by
  have h := cell_one_new (w.alloc a) v t
  rw [World.size_alloc] at h
  exact h
end Go.Proofs.YtbmbbioanlcioaaGreatDoor


/-
  Contracts of the model's PathTo, of the program's pathFromRoot and PathTo: the same answer.
  Conditions: at most 2^20 values and letters together.
-/
namespace Go.Proofs.YtbmbbioanlcioaaGreatDoor
open Go.ChangeShapes Go.WideShapes Go.ChangeAt Go.RowKit Go.Joins
set_option linter.unusedVariables false
set_option linter.unusedSimpArgs false

theorem tupSB {a a' : ByteArray} {b b' : Bool} (h1 : a = a') (h2 : b = b') : Ending.returned (.tuple #[.string a, .bool b]) = .returned (.tuple #[.string a', .bool b']) := by rw [h1, h2]
def strLen : Value → Nat
  | .string s => s.size
  | _ => 0
theorem names_small {f : FsD} (h : goodF f = true) (m : Int) : (slashed (nmsUp (placesF f.nodes) f.nodes.length m)).length ≤ 360 := by
  have h1 := nmsUp_len (placesF f.nodes) f.nodes.length m
  have h2 := slashed_le 8 _ (nmsUp_all (place_name h) f.nodes.length m)
  have h3 := inB_t (goodF_GoodF h).1
  omega
theorem slashed_nil {ps : List (List UInt8)} : slashed ps = [] ↔ ps = [] := by
  cases ps <;> simp [slashed]

end Go.Proofs.YtbmbbioanlcioaaGreatDoor


/-
  The program's linkAt, ReadLink, dirAt, RealPath.
  Conditions: at most 2^20 values and letters together; a text of at most 2^20 bytes; the variable errors.errorType as the program's text lays it.
-/
namespace Go.Proofs.YtbmbbioanlcioaaGreatDoor
open Go.ChangeShapes Go.WideShapes Go.ChangeAt Go.RowKit Go.Joins
set_option linter.unusedVariables false
set_option linter.unusedSimpArgs false

theorem errV_ok (p : ByteArray) : errV p 0 = .nilIface := rfl
theorem lkFind_zero {ns : List Nod} {u g : Int} {l : List UInt8} {fol : Bool} (h : (lkFind ns u g l fol).1 ≠ 0) : (lkFind ns u g l fol).2 = 0 := by
  unfold lkFind at h ⊢
  by_cases h1 : goodB l = true ∧ wholeB l = true
  · rw [if_pos h1] at h ⊢
    by_cases h2 : (lkGo ns u g (fol || slashB l) ⟨0, parts l, 0⟩).1 ≠ 0
    · rw [if_pos h2]
    · rw [if_neg h2] at h ⊢
      by_cases h3 : slashB l = true ∧ (nodeAt ns (lkGo ns u g (fol || slashB l) ⟨0, parts l, 0⟩).2).kind ≠ 2
      · rw [if_pos h3]
      · rw [if_neg h3] at h; exact absurd rfl h
  · rw [if_neg h1]
/-- What dirAt finds: a code and a node. -/
def dirW (ns : List Nod) (u g : Int) (l : List UInt8) (want : Int) : Int × Nat :=
  if (lkFind ns u g l true).1 ≠ 0 then ((lkFind ns u g l true).1, 0)
  else if dirC (nodeAt ns (lkFind ns u g l true).2) u g want ≠ 0 then (dirC (nodeAt ns (lkFind ns u g l true).2) u g want, 0)
  else (0, (lkFind ns u g l true).2)
theorem dirW_none (ns : List Nod) (u g : Int) (l : List UInt8) : dirW ns u g l 0 = dirF ns u g l := by
  unfold dirW dirF
  by_cases h1 : (lkFind ns u g l true).1 = 0
  · rw [if_neg (by simp [h1]), dirC_none]
    by_cases h2 : (nodeAt ns (lkFind ns u g l true).2).kind = 2
    · rw [if_neg (by simp [h2]), if_neg (by simp [h2])]
      rw [← h1]
    · rw [if_pos h2, if_pos (show (3 : Int) ≠ 0 by decide), if_pos (show (lkFind ns u g l true).1 = 0 ∧ (nodeAt ns (lkFind ns u g l true).2).kind ≠ 2 from ⟨h1, h2⟩)]
  · rw [if_pos h1, if_neg (fun h => h1 h.1)]
    have h2 := lkFind_zero h1
    exact Prod.ext rfl h2.symm

end Go.Proofs.YtbmbbioanlcioaaGreatDoor


/-
  The program's fileAt and ReadFile.
  Conditions: at most 2^20 values and letters together; a text of at most 2^20 bytes; the variable errors.errorType as the program's text lays it.
-/
namespace Go.Proofs.YtbmbbioanlcioaaGreatDoor
open Go.ChangeShapes Go.WideShapes Go.ChangeAt Go.RowKit Go.Joins
set_option linter.unusedVariables false
set_option linter.unusedSimpArgs false

theorem attr_ask {f : FsD} (h : goodF f = true) {u g want : Int} (hc : credB u g = true) (hw : inB 0 7 want = true) {i : Nat} (hi : i < f.nodes.length) : askB u g (nodeAt f.nodes i).mode (nodeAt f.nodes i).uid (nodeAt f.nodes i).gid want = true := by
  obtain ⟨h1, h2, h3⟩ := node_attr h hi
  unfold askB
  rw [hc, h1, h2, h3, hw]; rfl
set_option maxHeartbeats 4000000 in
theorem fileAt_any (f : FsD) (v : Value) (u g : Int) (s : ByteArray) (want : Int) (w : World) (hR : FsA w v f) (hs : szF f ≤ 1048576) (hk : askB4 f u g = true) (hw : inB 0 7 want = true) (hss : s.size ≤ 1048576) :
    Calls Tryz.prog 33 #[v, .agg #[.int .i64 u, .int .i64 g], .string s, .int .i64 want] w fun e w' => e = .returned (.tuple #[.int .i64 ((filW f.nodes u g s.data.toList want).2 : Nat), errV s (filW f.nodes u g s.data.toList want).1]) ∧ Below w.heap.size w w' := by
  have HR := Lib.hid hR
  obtain ⟨nv, rfl, hN⟩ := hR
  have HN := Lib.hid hN
  obtain ⟨o, c, rfl, hm, hH⟩ := hN
  have HH := Lib.hid hH
  unfold maxLen at hm
  have HS := Lib.hid hs
  have hl : f.nodes.length ≤ 1048576 := (lists_small hs).1
  have HB0 : Hid (Below w.heap.size w ((w.alloc (.cells #[.slice o f.nodes.length c, .int .i64 f.room] 32)).alloc (.cells #[.int .i64 u, .int .i64 g] 34))) := Lib.hid (((Below.refl _ _).alloc (Nat.le_refl _) _).alloc (by simp) _)
  have KA0 := Lib.hid (alloc3_fst' w (.cells #[.slice o f.nodes.length c, .int .i64 f.room] 32) (.cells #[.int .i64 u, .int .i64 g] 34))
  have KB0 := Lib.hid (alloc3_snd' w (.cells #[.slice o f.nodes.length c, .int .i64 f.room] 32) (.cells #[.int .i64 u, .int .i64 g] 34))
  clear hH
  have HK := Lib.hid hk
  have HW := Lib.hid hw
  have HL := Lib.hid (look_of (ask_good hk) HS.out)
  obtain ⟨⟨cd, nd⟩, hfd⟩ : ∃ q, lkFind f.nodes u g s.data.toList true = q := ⟨_, rfl⟩
  have hlt : nd < f.nodes.length := by have h7 := lkFind_lt HL.out.1 u g s.data.toList true; rw [hfd] at h7; exact h7
  have HFD := Lib.hid hfd
  clear hs hk hw
  by_cases hc : cd = 0
  · by_cases hk2 : (nodeAt f.nodes nd).kind = 2
    · have HV : Hid (filW f.nodes u g s.data.toList want = (7, 0)) := Lib.hid (by unfold filW; rw [hfd]; simp [hc, hk2])
      subst hc
      clear hfd
      go_enter Tryz.func33, Tryz.ntmps33
      go_wp2_with fail
      refine (nodeAt_is HFD.out (HR.out.below HB0.out) HS.out HK.out hss).mono ?_
      rintro e w1 ⟨rfl, hb1⟩
      have HB1 := Lib.hid (HB0.out.trans (hb1.mono HB0.out.size))
      have KA1 := Lib.hid ((hb1.block w.heap.size (lt_of_heap KA0.out)).trans KA0.out)
      have KB1 := Lib.hid ((hb1.block (w.heap.size + 1) (lt_of_heap KB0.out)).trans KB0.out)
      have x1a : w1.cell? ⟨w.heap.size, 0, none⟩ = some (.slice o f.nodes.length c) := cell_blk KA1.out 0
      have x1b : w1.cell? ⟨w.heap.size, 1, none⟩ = some (.int .i64 f.room) := cell_blk KA1.out 1
      have y1a : w1.cell? ⟨w.heap.size + 1, 0, none⟩ = some (.int .i64 u) := cell_blk KB1.out 0
      have y1b : w1.cell? ⟨w.heap.size + 1, 1, none⟩ = some (.int .i64 g) := cell_blk KB1.out 1
      clear hb1
      rw [errV_ok]
      obtain ⟨g3, f3, lv3, e3, hcc, hee⟩ := nod_cells (c := c) HH.out hlt HB1.out
      obtain ⟨d0, d1, d2, d3, d4, d5, d6⟩ := hcc
      subst e3
      rw [hk2] at d0
      clear hee
      go_wp2
      go_ret2
      exact ⟨by rw [HV.out]; show _ = Ending.returned (.tuple #[.int .i64 ((0 : Nat) : Int), errV s 7]); rfl, HB1.out⟩
    · have hkn := hk2
      cases hmy : mayB u g (nodeAt f.nodes nd).mode (nodeAt f.nodes nd).uid (nodeAt f.nodes nd).gid want with
      | false =>
        have HMY := Lib.hid hmy
        have HV : Hid (filW f.nodes u g s.data.toList want = (4, 0)) := Lib.hid (by unfold filW; rw [hfd]; simp [hc, hk2, hmy])
        subst hc
        clear hfd hmy hk2
        go_enter Tryz.func33, Tryz.ntmps33
        go_wp2_with fail
        refine (nodeAt_is HFD.out (HR.out.below HB0.out) HS.out HK.out hss).mono ?_
        rintro e w1 ⟨rfl, hb1⟩
        have HB1 := Lib.hid (HB0.out.trans (hb1.mono HB0.out.size))
        have KA1 := Lib.hid ((hb1.block w.heap.size (lt_of_heap KA0.out)).trans KA0.out)
        have KB1 := Lib.hid ((hb1.block (w.heap.size + 1) (lt_of_heap KB0.out)).trans KB0.out)
        have x1a : w1.cell? ⟨w.heap.size, 0, none⟩ = some (.slice o f.nodes.length c) := cell_blk KA1.out 0
        have x1b : w1.cell? ⟨w.heap.size, 1, none⟩ = some (.int .i64 f.room) := cell_blk KA1.out 1
        have y1a : w1.cell? ⟨w.heap.size + 1, 0, none⟩ = some (.int .i64 u) := cell_blk KB1.out 0
        have y1b : w1.cell? ⟨w.heap.size + 1, 1, none⟩ = some (.int .i64 g) := cell_blk KB1.out 1
        clear hb1
        rw [errV_ok]
        obtain ⟨o5, c5, e5, -, hH5⟩ := HN.out.below HB1.out
        simp only [Value.slice.injEq, true_and] at e5
        obtain ⟨rfl, rfl⟩ := e5
        obtain ⟨g5, f5, l5, rfl, hg5, hc5, -, -⟩ := hH5 nd hlt
        have hqe : f.nodes[nd] = nodeAt f.nodes nd := (getD_at hlt).symm
        rw [hqe] at hc5
        have HC5 := Lib.hid hc5
        have HAS : Hid (askB u g (nodeAt f.nodes nd).mode (nodeAt f.nodes nd).uid (nodeAt f.nodes nd).gid want = true) := Lib.hid (attr_ask (ask_good HK.out) (ask_cred HK.out) HW.out hlt)
        obtain ⟨nq, hnq⟩ : ∃ nq, nq = nodeAt f.nodes nd := ⟨_, rfl⟩
        rw [← hnq] at HC5 HAS HMY hkn
        clear hH5 hc5 hqe hnq
        have z0 := fun d os => cell_regrown (w := w1) x1a d os
        have z1 := fun d os => cell_regrown (w := w1) y1a d os
        have z2 := fun d os => cell_regrown (w := w1) y1b d os
        have zk := HC5.out.c0
        have kb : (nq.kind == 2) = false := beq_eq_false_iff_ne.2 hkn
        clear z0 z1 z2
        go_wp2_with fail
        refine (mayAt_is HMY.out hg5 HC5.out HAS.out).mono ?_
        rintro e w6 ⟨rfl, hb6⟩
        have HB6 := Lib.hid (HB1.out.trans (hb6.mono HB1.out.size))
        clear hb6
        go_wp2
        go_ret2
        exact ⟨by rw [HV.out]; show _ = Ending.returned (.tuple #[.int .i64 ((0 : Nat) : Int), errV s 4]); rfl, HB6.out⟩
      | true =>
        have HMY := Lib.hid hmy
        have HV : Hid (filW f.nodes u g s.data.toList want = (0, nd)) := Lib.hid (by unfold filW; rw [hfd]; simp [hc, hk2, hmy])
        subst hc
        clear hfd hmy hk2
        go_enter Tryz.func33, Tryz.ntmps33
        go_wp2_with fail
        refine (nodeAt_is HFD.out (HR.out.below HB0.out) HS.out HK.out hss).mono ?_
        rintro e w1 ⟨rfl, hb1⟩
        have HB1 := Lib.hid (HB0.out.trans (hb1.mono HB0.out.size))
        have KA1 := Lib.hid ((hb1.block w.heap.size (lt_of_heap KA0.out)).trans KA0.out)
        have KB1 := Lib.hid ((hb1.block (w.heap.size + 1) (lt_of_heap KB0.out)).trans KB0.out)
        have x1a : w1.cell? ⟨w.heap.size, 0, none⟩ = some (.slice o f.nodes.length c) := cell_blk KA1.out 0
        have x1b : w1.cell? ⟨w.heap.size, 1, none⟩ = some (.int .i64 f.room) := cell_blk KA1.out 1
        have y1a : w1.cell? ⟨w.heap.size + 1, 0, none⟩ = some (.int .i64 u) := cell_blk KB1.out 0
        have y1b : w1.cell? ⟨w.heap.size + 1, 1, none⟩ = some (.int .i64 g) := cell_blk KB1.out 1
        clear hb1
        rw [errV_ok]
        obtain ⟨o5, c5, e5, -, hH5⟩ := HN.out.below HB1.out
        simp only [Value.slice.injEq, true_and] at e5
        obtain ⟨rfl, rfl⟩ := e5
        obtain ⟨g5, f5, l5, rfl, hg5, hc5, -, -⟩ := hH5 nd hlt
        have hqe : f.nodes[nd] = nodeAt f.nodes nd := (getD_at hlt).symm
        rw [hqe] at hc5
        have HC5 := Lib.hid hc5
        have HAS : Hid (askB u g (nodeAt f.nodes nd).mode (nodeAt f.nodes nd).uid (nodeAt f.nodes nd).gid want = true) := Lib.hid (attr_ask (ask_good HK.out) (ask_cred HK.out) HW.out hlt)
        obtain ⟨nq, hnq⟩ : ∃ nq, nq = nodeAt f.nodes nd := ⟨_, rfl⟩
        rw [← hnq] at HC5 HAS HMY hkn
        clear hH5 hc5 hqe hnq
        have z0 := fun d os => cell_regrown (w := w1) x1a d os
        have z1 := fun d os => cell_regrown (w := w1) y1a d os
        have z2 := fun d os => cell_regrown (w := w1) y1b d os
        have zk := HC5.out.c0
        have kb : (nq.kind == 2) = false := beq_eq_false_iff_ne.2 hkn
        clear z0 z1 z2
        go_wp2_with fail
        refine (mayAt_is HMY.out hg5 HC5.out HAS.out).mono ?_
        rintro e w6 ⟨rfl, hb6⟩
        have HB6 := Lib.hid (HB1.out.trans (hb6.mono HB1.out.size))
        clear hb6
        go_wp2
        go_ret2
        exact ⟨by rw [HV.out]; rfl, HB6.out⟩
  · have HV : Hid (filW f.nodes u g s.data.toList want = (cd, 0)) := Lib.hid (by unfold filW; rw [hfd]; simp [hc])
    have HE := Lib.hid (errV_not s hc)
    clear hfd hc
    go_enter Tryz.func33, Tryz.ntmps33
    go_wp2_with fail
    refine (nodeAt_is HFD.out (HR.out.below HB0.out) HS.out HK.out hss).mono ?_
    rintro e w1 ⟨rfl, hb1⟩
    have HB1 := Lib.hid (HB0.out.trans (hb1.mono HB0.out.size))
    have KA1 := Lib.hid ((hb1.block w.heap.size (lt_of_heap KA0.out)).trans KA0.out)
    have KB1 := Lib.hid ((hb1.block (w.heap.size + 1) (lt_of_heap KB0.out)).trans KB0.out)
    have x1a : w1.cell? ⟨w.heap.size, 0, none⟩ = some (.slice o f.nodes.length c) := cell_blk KA1.out 0
    have x1b : w1.cell? ⟨w.heap.size, 1, none⟩ = some (.int .i64 f.room) := cell_blk KA1.out 1
    have y1a : w1.cell? ⟨w.heap.size + 1, 0, none⟩ = some (.int .i64 u) := cell_blk KB1.out 0
    have y1b : w1.cell? ⟨w.heap.size + 1, 1, none⟩ = some (.int .i64 g) := cell_blk KB1.out 1
    clear hb1
    rw [HE.out]
    go_wp2
    go_ret2
    exact ⟨by rw [HV.out]; show _ = Ending.returned (.tuple #[.int .i64 ((0 : Nat) : Int), errV s cd]); rw [HE.out]; rfl, HB1.out⟩
theorem fileAt_is {f : FsD} {v : Value} {u g : Int} {s : ByteArray} {want : Int} {w : World} {cd : Int} {nd : Nat} (h : filW f.nodes u g s.data.toList want = (cd, nd)) (hR : FsA w v f) (hs : szF f ≤ 1048576) (hk : askB4 f u g = true) (hw : inB 0 7 want = true) (hss : s.size ≤ 1048576) :
    Calls Tryz.prog 33 #[v, .agg #[.int .i64 u, .int .i64 g], .string s, .int .i64 want] w fun e w' => e = .returned (.tuple #[.int .i64 (nd : Int), errV s cd]) ∧ Below w.heap.size w w' := by
  have := fileAt_any f v u g s want w hR hs hk hw hss
  rw [h] at this
  exact this

set_option maxHeartbeats 4000000 in
theorem readFile_any (f : FsD) (v : Value) (u g : Int) (s : ByteArray) (w : World) (hR : FsA w v f) (hs : szF f ≤ 1048576) (hss : s.size ≤ 1048576) (hE : ErrT w) : Calls Tryz.prog 13 #[v, .agg #[.int .i64 u, .int .i64 g], .string s] w fun e w' => e = .returned (.tuple #[.string (bs (rfT f u g s.data.toList)), .int .i64 (rfC f u g s.data.toList), .bool (askB4 f u g)]) ∧ Below w.heap.size w w' := by
  have HR := Lib.hid hR
  obtain ⟨nv, rfl, hN⟩ := hR
  have HN := Lib.hid hN
  obtain ⟨o, c, rfl, hm, hH⟩ := hN
  have HH := Lib.hid hH
  unfold maxLen at hm
  have HS := Lib.hid hs
  have hl : f.nodes.length ≤ 1048576 := (lists_small hs).1
  have HB0 : Hid (Below w.heap.size w ((w.alloc (.cells #[.slice o f.nodes.length c, .int .i64 f.room] 32)).alloc (.cells #[.int .i64 u, .int .i64 g] 34))) := Lib.hid (((Below.refl _ _).alloc (Nat.le_refl _) _).alloc (by simp) _)
  have KA0 := Lib.hid (alloc3_fst' w (.cells #[.slice o f.nodes.length c, .int .i64 f.room] 32) (.cells #[.int .i64 u, .int .i64 g] 34))
  have KB0 := Lib.hid (alloc3_snd' w (.cells #[.slice o f.nodes.length c, .int .i64 f.room] 32) (.cells #[.int .i64 u, .int .i64 g] 34))
  clear hH
  have HET := Lib.hid hE
  clear hs hE
  by_cases hk : askB4 f u g = true
  · have HK := Lib.hid hk
    have HL := Lib.hid (look_of (ask_good hk) HS.out)
    obtain ⟨⟨cd, nd⟩, hfd⟩ : ∃ q, filW f.nodes u g s.data.toList 4 = q := ⟨_, rfl⟩
    have hlt : nd < f.nodes.length := by have h7 := filW_lt HL.out.1 u g s.data.toList 4; rw [hfd] at h7; exact h7
    have HFD := Lib.hid hfd
    by_cases hc : cd = 0
    · have HV : Hid (rfT f u g s.data.toList = (nodeAt f.nodes nd).data ∧ rfC f u g s.data.toList = 0) := Lib.hid (by unfold rfT rfC rfT0; rw [if_pos hk, if_pos hk, hfd]; simp [hc])
      subst hc
      clear hk hfd
      go_enter Tryz.func13, Tryz.ntmps13
      go_wp2_with fail
      refine (canLook_is HK.out (HR.out.below HB0.out) HS.out).mono ?_
      rintro e w1 ⟨rfl, hb1⟩
      have HB1 := Lib.hid (HB0.out.trans (hb1.mono HB0.out.size))
      have KA1 := Lib.hid ((hb1.block w.heap.size (lt_of_heap KA0.out)).trans KA0.out)
      have KB1 := Lib.hid ((hb1.block (w.heap.size + 1) (lt_of_heap KB0.out)).trans KB0.out)
      have x1a : w1.cell? ⟨w.heap.size, 0, none⟩ = some (.slice o f.nodes.length c) := cell_blk KA1.out 0
      have x1b : w1.cell? ⟨w.heap.size, 1, none⟩ = some (.int .i64 f.room) := cell_blk KA1.out 1
      have y1a : w1.cell? ⟨w.heap.size + 1, 0, none⟩ = some (.int .i64 u) := cell_blk KB1.out 0
      have y1b : w1.cell? ⟨w.heap.size + 1, 1, none⟩ = some (.int .i64 g) := cell_blk KB1.out 1
      clear hb1
      go_wp2_with fail
      refine (fileAt_is HFD.out (HR.out.below HB1.out) HS.out HK.out (by decide) hss).mono ?_
      rintro e w2 ⟨rfl, hb2⟩
      rw [errV_ok]
      have HB2 := Lib.hid (HB1.out.trans (hb2.mono HB1.out.size))
      have KA2 := Lib.hid ((hb2.block w.heap.size (lt_of_heap KA1.out)).trans KA1.out)
      have KB2 := Lib.hid ((hb2.block (w.heap.size + 1) (lt_of_heap KB1.out)).trans KB1.out)
      have x2a : w2.cell? ⟨w.heap.size, 0, none⟩ = some (.slice o f.nodes.length c) := cell_blk KA2.out 0
      have x2b : w2.cell? ⟨w.heap.size, 1, none⟩ = some (.int .i64 f.room) := cell_blk KA2.out 1
      have y2a : w2.cell? ⟨w.heap.size + 1, 0, none⟩ = some (.int .i64 u) := cell_blk KB2.out 0
      have y2b : w2.cell? ⟨w.heap.size + 1, 1, none⟩ = some (.int .i64 g) := cell_blk KB2.out 1
      clear hb2
      obtain ⟨g3, f3, lv3, e3, hcc, hee⟩ := nod_cells (c := c) HH.out hlt HB2.out
      obtain ⟨d0, d1, d2, d3, d4, d5, d6⟩ := hcc
      subst e3
      clear hee
      go_wp2
      go_ret3
      exact ⟨by rw [HV.out.1, HV.out.2, HK.out]; rfl, HB2.out⟩
    · have HV : Hid (rfT f u g s.data.toList = [] ∧ rfC f u g s.data.toList = cd) := Lib.hid (by unfold rfT rfC rfT0; rw [if_pos hk, if_pos hk, hfd]; simp [hc])
      have HE := Lib.hid (errV_not s hc)
      clear hk hfd hc
      go_enter Tryz.func13, Tryz.ntmps13
      go_wp2_with fail
      refine (canLook_is HK.out (HR.out.below HB0.out) HS.out).mono ?_
      rintro e w1 ⟨rfl, hb1⟩
      have HB1 := Lib.hid (HB0.out.trans (hb1.mono HB0.out.size))
      have KA1 := Lib.hid ((hb1.block w.heap.size (lt_of_heap KA0.out)).trans KA0.out)
      have KB1 := Lib.hid ((hb1.block (w.heap.size + 1) (lt_of_heap KB0.out)).trans KB0.out)
      have x1a : w1.cell? ⟨w.heap.size, 0, none⟩ = some (.slice o f.nodes.length c) := cell_blk KA1.out 0
      have x1b : w1.cell? ⟨w.heap.size, 1, none⟩ = some (.int .i64 f.room) := cell_blk KA1.out 1
      have y1a : w1.cell? ⟨w.heap.size + 1, 0, none⟩ = some (.int .i64 u) := cell_blk KB1.out 0
      have y1b : w1.cell? ⟨w.heap.size + 1, 1, none⟩ = some (.int .i64 g) := cell_blk KB1.out 1
      clear hb1
      go_wp2_with fail
      refine (fileAt_is HFD.out (HR.out.below HB1.out) HS.out HK.out (by decide) hss).mono ?_
      rintro e w2 ⟨rfl, hb2⟩
      have HB2 := Lib.hid (HB1.out.trans (hb2.mono HB1.out.size))
      clear hb2
      rw [HE.out]
      go_wp2_with fail
      rw [← HE.out]
      refine (codeOf_any s cd _ (HET.out.below HB2.out HET.out.1)).mono ?_
      rintro e w3 ⟨rfl, hb3⟩
      have HB3 := Lib.hid (HB2.out.trans (hb3.mono HB2.out.size))
      clear hb3
      go_wp2
      go_ret3
      exact ⟨by rw [HV.out.1, HV.out.2, HK.out]; rfl, HB3.out⟩
  · have HK : Hid (askB4 f u g = false) := Lib.hid (by simpa using hk)
    have HV : Hid (rfT f u g s.data.toList = [] ∧ rfC f u g s.data.toList = 0) := Lib.hid (by unfold rfT rfC; rw [HK.out]; exact ⟨rfl, rfl⟩)
    clear hk
    go_enter Tryz.func13, Tryz.ntmps13
    go_wp2_with fail
    refine (canLook_is HK.out (HR.out.below HB0.out) HS.out).mono ?_
    rintro e w1 ⟨rfl, hb1⟩
    have HB1 := Lib.hid (HB0.out.trans (hb1.mono HB0.out.size))
    clear hb1
    go_wp2
    go_ret3
    exact ⟨by rw [HV.out.1, HV.out.2, HK.out]; rfl, HB1.out⟩
end Go.Proofs.YtbmbbioanlcioaaGreatDoor


/-
  What the listed variable errors.errorType gives a walk: its cell; and a world for a witness that holds it.
  Conditions: as each states.
-/
namespace Go.Proofs.YtbmbbioanlcioaaGreatDoor
open Go.ChangeShapes Go.WideShapes Go.ChangeAt Go.RowKit Go.Joins

theorem own : ownKnob Tryz.prog.godebug = none := by kernel_rfl
theorem laidOut : laidOutB Tryz.prog = true := by kernel_rfl
theorem gErr : Tryz.prog.globalNamed "errors.errorType" = some 0 := by kernel_rfl
theorem rtErr : (Tryz.prog.cutTypes.find? (·.1 == "internal/reflectlite.rtype")).map (·.2) = some 177 := by kernel_rfl
theorem oneErr : ((List.range Tryz.prog.types.size).filter fun t => Tryz.prog.rowNamed t [101, 114, 114, 111, 114]) = [61] := by kernel_rfl
theorem hdErr : typeHandle Tryz.prog 61 = .pointer (some ⟨2, 61, none⟩) := by kernel_rfl
theorem errT_of {W : World} (h : laidMetH Tryz.prog [("errors.errorType", Rows.laid_errors_errorType)] W) : ErrT W := by
  have h' : laidMet Tryz.prog [] W ∧ handlesMet Tryz.prog [("errors.errorType", Rows.laid_errors_errorType)] W := h
  obtain ⟨name, u, ty, e1, e2, e3, e4, e5⟩ := h'.2 _ (List.mem_singleton.2 rfl)
  have en : name = [101, 114, 114, 111, 114] := (Option.some.inj e1).symm
  subst en
  obtain rfl := Option.some.inj (rtErr.symm.trans e2)
  have hm : ty ∈ (List.range Tryz.prog.types.size).filter fun t => Tryz.prog.rowNamed t [101, 114, 114, 111, 114] := List.mem_filter.2 ⟨List.mem_range.2 e3, e4⟩
  rw [oneErr] at hm
  obtain rfl := List.mem_singleton.1 hm
  rw [hdErr] at e5
  have hc : W.cell? ⟨0, 0, none⟩ = some (.iface 177 (.agg #[.pointer (some ⟨2, 61, none⟩)])) := by simpa using World.var?_cell gErr e5 0
  refine ⟨?_, hc⟩
  rcases Nat.lt_or_ge 0 W.heap.size with hz | hz
  · exact hz
  · have hn : W.heap[0]? = none := Array.getElem?_eq_none hz
    simp [World.cell?, hn] at hc

/-- A world for a witness: the settled one, the variable's cell laid. -/
noncomputable def laidWorld (os : Os) : World :=
  { World.holding Tryz.prog os ⟨#[], #[], []⟩ with heap := (World.holding Tryz.prog os ⟨#[], #[], []⟩).heap.modify 0 fun
      | .cells _ t frozen => .cells #[.iface 177 (.agg #[.pointer (some ⟨2, 61, none⟩)])] t frozen
      | o => o }
end Go.Proofs.YtbmbbioanlcioaaGreatDoor
