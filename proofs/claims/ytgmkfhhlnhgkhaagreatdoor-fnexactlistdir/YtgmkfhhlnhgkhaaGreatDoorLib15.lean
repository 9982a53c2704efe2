/-
  Joined: LookP TabH OfC InoP LookJ InoQ.
  Conditions: as each states.
-/
import Derived.Deep.DeepHandedRow
import Derived.LaidLaws
import Derived.LaidHandle
import Derived.Test.YtgmkfhhlnhgkhaaGreatDoorCards
import Derived.Test.YtgmkfhhlnhgkhaaGreatDoorTie
import Derived.Test.YtgmkfhhlnhgkhaaGreatDoorLib1
import Derived.Test.YtgmkfhhlnhgkhaaGreatDoorLib10
import Derived.Test.YtgmkfhhlnhgkhaaGreatDoorLib12
import Derived.Test.YtgmkfhhlnhgkhaaGreatDoorLib13
import Derived.Test.YtgmkfhhlnhgkhaaGreatDoorLib14

/-
  The program's side of chapter 4: canLook, nodeAt, FindNode, linkAt, ReadLink.
  Conditions: at most 2^20 values and letters together; a text of at most 2^20 bytes; the variable errors.errorType as the program's text lays it.
-/
namespace Go.Proofs.YtgmkfhhlnhgkhaaGreatDoor
open Go.ChangeShapes Go.WideShapes Go.ChangeAt Go.RowKit Go.Joins
set_option linter.unusedVariables false
set_option linter.unusedSimpArgs false

set_option maxHeartbeats 2000000 in
theorem canLook_any (f : FsD) (v : Value) (u g : Int) (w : World) (hR : FsA w v f) (hs : szF f ≤ 1048576) : Calls Tryz.prog 75 #[v, .agg #[.int .i64 u, .int .i64 g]] w fun e w' => e = .returned (.bool (askB4 f u g)) ∧ Below w.heap.size w w' := by
  have HR := Lib.hid hR
  obtain ⟨nv, rfl, hN⟩ := hR
  have HN := Lib.hid hN
  obtain ⟨o, c, rfl, hm, hH⟩ := hN
  unfold maxLen at hm
  have HS := Lib.hid hs
  have hl : f.nodes.length ≤ 1048576 := (lists_small hs).1
  have HB0 : Hid (Below w.heap.size w ((w.alloc (.cells #[.slice o f.nodes.length c, .int .i64 f.room] 26)).alloc (.cells #[.int .i64 u, .int .i64 g] 37))) := Lib.hid (((Below.refl _ _).alloc (Nat.le_refl _) _).alloc (by simp) _)
  have KA0 := Lib.hid (alloc3_fst' w (.cells #[.slice o f.nodes.length c, .int .i64 f.room] 26) (.cells #[.int .i64 u, .int .i64 g] 37))
  have KB0 := Lib.hid (alloc3_snd' w (.cells #[.slice o f.nodes.length c, .int .i64 f.room] 26) (.cells #[.int .i64 u, .int .i64 g] 37))
  clear hH
  clear hs
  by_cases hg : goodF f = true
  · have HG := Lib.hid hg
    have HF : Hid (askB4 f u g = credB u g) := Lib.hid (by unfold askB4; rw [HG.out]; rfl)
    clear hg
    go_enter Tryz.func75, Tryz.ntmps75
    go_wp2_with fail
    refine (goodFs_any f _ _ (HR.out.below HB0.out) HS.out).mono ?_
    rintro e w1 ⟨rfl, hb1⟩
    rw [HG.out]
    have HB1 := Lib.hid (HB0.out.trans (hb1.mono HB0.out.size))
    have KA1 := Lib.hid ((hb1.block w.heap.size (lt_of_heap KA0.out)).trans KA0.out)
    have KB1 := Lib.hid ((hb1.block (w.heap.size + 1) (lt_of_heap KB0.out)).trans KB0.out)
    have x1a : w1.cell? ⟨w.heap.size, 0, none⟩ = some (.slice o f.nodes.length c) := cell_blk KA1.out 0
    have x1b : w1.cell? ⟨w.heap.size, 1, none⟩ = some (.int .i64 f.room) := cell_blk KA1.out 1
    have y1a : w1.cell? ⟨w.heap.size + 1, 0, none⟩ = some (.int .i64 u) := cell_blk KB1.out 0
    have y1b : w1.cell? ⟨w.heap.size + 1, 1, none⟩ = some (.int .i64 g) := cell_blk KB1.out 1
    clear hb1
    go_wp2_with fail
    refine (goodCred_any u g _).mono ?_
    rintro e w2 ⟨rfl, hb2⟩
    have HB2 := Lib.hid (HB1.out.trans (hb2.mono HB1.out.size))
    clear hb2
    go_wp2
    go_ret
    exact ⟨ret_bool HF.out.symm, HB2.out⟩
  · have HG : Hid (goodF f = false) := Lib.hid (by simpa using hg)
    have HF : Hid (askB4 f u g = false) := Lib.hid (by unfold askB4; rw [HG.out]; rfl)
    clear hg
    go_enter Tryz.func75, Tryz.ntmps75
    go_wp2_with fail
    refine (goodFs_any f _ _ (HR.out.below HB0.out) HS.out).mono ?_
    rintro e w1 ⟨rfl, hb1⟩
    rw [HG.out]
    have HB1 := Lib.hid (HB0.out.trans (hb1.mono HB0.out.size))
    clear hb1
    go_wp2
    go_ret
    exact ⟨ret_bool HF.out.symm, HB1.out⟩
theorem canLook_is {f : FsD} {v : Value} {u g : Int} {w : World} {b : Bool} (h : askB4 f u g = b) (hR : FsA w v f) (hs : szF f ≤ 1048576) : Calls Tryz.prog 75 #[v, .agg #[.int .i64 u, .int .i64 g]] w fun e w' => e = .returned (.bool b) ∧ Below w.heap.size w w' := by
  rw [← h]; exact canLook_any f v u g w hR hs

set_option maxHeartbeats 2000000 in
theorem nodeAt_no (f : FsD) (v : Value) (u g : Int) (s : ByteArray) (fol : Bool) (w : World) (hR : FsA w v f) (hs : szF f ≤ 1048576) (hss : s.size ≤ 1048576) (hw : wgB s.data.toList = false) :
    Calls Tryz.prog 76 #[v, .agg #[.int .i64 u, .int .i64 g], .string s, .bool fol] w fun e w' => e = .returned (.tuple #[.int .i64 0, faultV s 1]) ∧ Below w.heap.size w w' := by
  have HR := Lib.hid hR
  obtain ⟨nv, rfl, hN⟩ := hR
  have HN := Lib.hid hN
  obtain ⟨o, c, rfl, hm, hH⟩ := hN
  unfold maxLen at hm
  have HS := Lib.hid hs
  have hl : f.nodes.length ≤ 1048576 := (lists_small hs).1
  have HB0 : Hid (Below w.heap.size w ((w.alloc (.cells #[.slice o f.nodes.length c, .int .i64 f.room] 26)).alloc (.cells #[.int .i64 u, .int .i64 g] 37))) := Lib.hid (((Below.refl _ _).alloc (Nat.le_refl _) _).alloc (by simp) _)
  have KA0 := Lib.hid (alloc3_fst' w (.cells #[.slice o f.nodes.length c, .int .i64 f.room] 26) (.cells #[.int .i64 u, .int .i64 g] 37))
  have KB0 := Lib.hid (alloc3_snd' w (.cells #[.slice o f.nodes.length c, .int .i64 f.room] 26) (.cells #[.int .i64 u, .int .i64 g] 37))
  clear hH
  have HW := Lib.hid hw
  clear hw hs
  go_enter Tryz.func76, Tryz.ntmps76
  go_wp2_with fail
  refine (isWholePath_is HW.out (by omega)).mono ?_
  rintro e w1 ⟨rfl, hb1⟩
  have HB1 := Lib.hid (HB0.out.trans (hb1.mono HB0.out.size))
  clear hb1
  go_wp2
  go_ret2
  exact ⟨rfl, HB1.out⟩
theorem nodeAt_any (f : FsD) (v : Value) (u g : Int) (s : ByteArray) (fol : Bool) (w : World) (hR : FsA w v f) (hs : szF f ≤ 1048576) (hgood : goodF f = true) (hcred : credB u g = true) (hss : s.size ≤ 1048576) :
    Calls Tryz.prog 76 #[v, .agg #[.int .i64 u, .int .i64 g], .string s, .bool fol] w fun e w' => e = .returned (.tuple #[.int .i64 ((lkFind f.nodes u g s.data.toList fol).2 : Nat), errV s (lkFind f.nodes u g s.data.toList fol).1]) ∧ Below w.heap.size w w' := by
  by_cases hw : wgB s.data.toList = true
  · cases fol with
    | false => exact nodeAt_f f v u g s w hR hgood hcred hs hss hw
    | true => exact nodeAt_t f v u g s w hR hgood hcred hs hss hw
  · have h1 : lkFind f.nodes u g s.data.toList fol = (1, 0) := by
      unfold lkFind
      rw [if_neg]
      intro h
      apply hw
      unfold wgB
      rw [h.1, h.2]; rfl
    rw [h1]
    exact nodeAt_no f v u g s fol w hR hs hss (by simpa using hw)
theorem ask_cred {f : FsD} {u g : Int} (h : askB4 f u g = true) : credB u g = true := by unfold askB4 at h; simp only [Bool.and_eq_true] at h; exact h.2
theorem nodeAt_is {f : FsD} {v : Value} {u g : Int} {s : ByteArray} {fol : Bool} {w : World} {cd : Int} {nd : Nat} (h : lkFind f.nodes u g s.data.toList fol = (cd, nd)) (hR : FsA w v f) (hs : szF f ≤ 1048576) (hk : askB4 f u g = true) (hss : s.size ≤ 1048576) :
    Calls Tryz.prog 76 #[v, .agg #[.int .i64 u, .int .i64 g], .string s, .bool fol] w fun e w' => e = .returned (.tuple #[.int .i64 (nd : Int), errV s cd]) ∧ Below w.heap.size w w' := by
  have := nodeAt_any f v u g s fol w hR hs (ask_good hk) (ask_cred hk) hss
  rw [h] at this
  exact this

set_option maxHeartbeats 2000000 in
theorem findNode_any (f : FsD) (v : Value) (u g : Int) (s : ByteArray) (w : World) (hR : FsA w v f) (hs : szF f ≤ 1048576) (hss : s.size ≤ 1048576) (fol : Bool) (hE : ErrT w) : Calls Tryz.prog 21 #[v, .agg #[.int .i64 u, .int .i64 g], .string s, .bool fol] w fun e w' => e = .returned (.tuple #[.int .i64 (findN f u g s.data.toList fol : Nat), .int .i64 (findC f u g s.data.toList fol), .bool (askB4 f u g)]) ∧ Below w.heap.size w w' := by
  have HR := Lib.hid hR
  obtain ⟨nv, rfl, hN⟩ := hR
  have HN := Lib.hid hN
  obtain ⟨o, c, rfl, hm, hH⟩ := hN
  unfold maxLen at hm
  have HS := Lib.hid hs
  have hl : f.nodes.length ≤ 1048576 := (lists_small hs).1
  have HB0 : Hid (Below w.heap.size w ((w.alloc (.cells #[.slice o f.nodes.length c, .int .i64 f.room] 26)).alloc (.cells #[.int .i64 u, .int .i64 g] 37))) := Lib.hid (((Below.refl _ _).alloc (Nat.le_refl _) _).alloc (by simp) _)
  have KA0 := Lib.hid (alloc3_fst' w (.cells #[.slice o f.nodes.length c, .int .i64 f.room] 26) (.cells #[.int .i64 u, .int .i64 g] 37))
  have KB0 := Lib.hid (alloc3_snd' w (.cells #[.slice o f.nodes.length c, .int .i64 f.room] 26) (.cells #[.int .i64 u, .int .i64 g] 37))
  clear hH
  have HET := Lib.hid hE
  clear hs hE
  by_cases hk : askB4 f u g = true
  · have HK := Lib.hid hk
    obtain ⟨⟨cd, nd⟩, hfd⟩ : ∃ q, lkFind f.nodes u g s.data.toList fol = q := ⟨_, rfl⟩
    have HFD := Lib.hid hfd
    have HV : Hid (findN f u g s.data.toList fol = nd ∧ findC f u g s.data.toList fol = cd) := Lib.hid (by unfold findN findC; rw [if_pos hk, if_pos hk, hfd]; exact ⟨rfl, rfl⟩)
    clear hk hfd
    go_enter Tryz.func21, Tryz.ntmps21
    go_wp2_with fail
    refine (canLook_is HK.out (HR.out.below HB0.out) HS.out).mono ?_
    rintro e w1 ⟨rfl, hb1⟩
    have HB1 := Lib.hid (HB0.out.trans (hb1.mono HB0.out.size))
    have KA1 := Lib.hid ((hb1.block w.heap.size (lt_of_heap KA0.out)).trans KA0.out)
    have KB1 := Lib.hid ((hb1.block (w.heap.size + 1) (lt_of_heap KB0.out)).trans KB0.out)
    have x1a : w1.cell? ⟨w.heap.size, 0, none⟩ = some (.slice o f.nodes.length c) := cell_blk KA1.out 0
    have x1b : w1.cell? ⟨w.heap.size, 1, none⟩ = some (.int .i64 f.room) := cell_blk KA1.out 1
    have y1a : w1.cell? ⟨w.heap.size + 1, 0, none⟩ = some (.int .i64 u) := cell_blk KB1.out 0
    have y1b : w1.cell? ⟨w.heap.size + 1, 1, none⟩ = some (.int .i64 g) := cell_blk KB1.out 1
    clear hb1
    go_wp2_with fail
    refine (nodeAt_is HFD.out (HR.out.below HB1.out) HS.out HK.out hss).mono ?_
    rintro e w2 ⟨rfl, hb2⟩
    have HB2 := Lib.hid (HB1.out.trans (hb2.mono HB1.out.size))
    clear hb2
    obtain ⟨ev, hev⟩ : ∃ ev, errV s cd = ev := ⟨_, rfl⟩
    have HEV := Lib.hid hev
    rw [hev]
    clear hev
    go_wp2_with fail
    rw [← HEV.out]
    refine (codeOf_any s cd _ (HET.out.below HB2.out HET.out.1)).mono ?_
    rintro e w3 ⟨rfl, hb3⟩
    have HB3 := Lib.hid (HB2.out.trans (hb3.mono HB2.out.size))
    clear hb3
    go_wp2
    go_ret3
    exact ⟨by rw [HV.out.1, HV.out.2, HK.out]; rfl, HB3.out⟩
  · have HK : Hid (askB4 f u g = false) := Lib.hid (by simpa using hk)
    have HV : Hid (findN f u g s.data.toList fol = 0 ∧ findC f u g s.data.toList fol = 0) := Lib.hid (by unfold findN findC; rw [if_neg hk, if_neg hk]; exact ⟨rfl, rfl⟩)
    clear hk
    go_enter Tryz.func21, Tryz.ntmps21
    go_wp2_with fail
    refine (canLook_is HK.out (HR.out.below HB0.out) HS.out).mono ?_
    rintro e w1 ⟨rfl, hb1⟩
    have HB1 := Lib.hid (HB0.out.trans (hb1.mono HB0.out.size))
    clear hb1
    go_wp2
    go_ret3
    exact ⟨by rw [HV.out.1, HV.out.2, HK.out]; rfl, HB1.out⟩
end Go.Proofs.YtgmkfhhlnhgkhaaGreatDoor


/-
  What the listed variable errors.errorType gives a walk: its cell; and a world for a witness that holds it.
  Conditions: as each states.
-/
namespace Go.Proofs.YtgmkfhhlnhgkhaaGreatDoor
open Go.ChangeShapes Go.WideShapes Go.ChangeAt Go.RowKit Go.Joins

theorem own : ownKnob Tryz.prog.godebug = none := by kernel_rfl
theorem laidOut : laidOutB Tryz.prog = true := by kernel_rfl
theorem gErr : Tryz.prog.globalNamed "errors.errorType" = some 1 := by kernel_rfl
theorem rtErr : (Tryz.prog.cutTypes.find? (·.1 == "internal/reflectlite.rtype")).map (·.2) = some 206 := by kernel_rfl
theorem oneErr : ((List.range Tryz.prog.types.size).filter fun t => Tryz.prog.rowNamed t [101, 114, 114, 111, 114]) = [91] := by kernel_rfl
theorem hdErr : typeHandle Tryz.prog 91 = .pointer (some ⟨3, 91, none⟩) := by kernel_rfl
theorem errT_of {W : World} (h : laidMetH Tryz.prog [("errors.errorType", Rows.laid_errors_errorType)] W) : ErrT W := by
  have h' : laidMet Tryz.prog [] W ∧ handlesMet Tryz.prog [("errors.errorType", Rows.laid_errors_errorType)] W := h
  obtain ⟨name, u, ty, e1, e2, e3, e4, e5⟩ := h'.2 _ (List.mem_singleton.2 rfl)
  have en : name = [101, 114, 114, 111, 114] := (Option.some.inj e1).symm
  subst en
  obtain rfl := Option.some.inj (rtErr.symm.trans e2)
  have hm : ty ∈ (List.range Tryz.prog.types.size).filter fun t => Tryz.prog.rowNamed t [101, 114, 114, 111, 114] := List.mem_filter.2 ⟨List.mem_range.2 e3, e4⟩
  rw [oneErr] at hm
  obtain rfl := List.mem_singleton.1 hm
  rw [hdErr] at e5
  have hc : W.cell? ⟨1, 0, none⟩ = some (.iface 206 (.agg #[.pointer (some ⟨3, 91, none⟩)])) := by simpa using World.var?_cell gErr e5 0
  refine ⟨?_, hc⟩
  rcases Nat.lt_or_ge 1 W.heap.size with hz | hz
  · exact hz
  · have hn : W.heap[1]? = none := Array.getElem?_eq_none hz
    simp [World.cell?, hn] at hc

/-- A world for a witness: the settled one, the variable's cell laid. -/
noncomputable def laidWorld (os : Os) : World :=
  { World.holding Tryz.prog os ⟨#[], #[], []⟩ with heap := (World.holding Tryz.prog os ⟨#[], #[], []⟩).heap.modify 1 fun
      | .cells _ t frozen => .cells #[.iface 206 (.agg #[.pointer (some ⟨3, 91, none⟩)])] t frozen
      | o => o }
end Go.Proofs.YtgmkfhhlnhgkhaaGreatDoor


/-
  The contract of spec.l2Of.
  Conditions: lists of texts that together have at most 2^30 bytes.
-/
namespace Go.Proofs.YtgmkfhhlnhgkhaaGreatDoor
open Go.ChangeShapes Go.WideShapes Go.ChangeAt Go.RowKit Go.Joins
set_option linter.unusedVariables false

theorem slashed_take {ps : List (List UInt8)} {k : Nat} (h : k < ps.length) : slashed (ps.take (k + 1)) = slashed (ps.take k) ++ 47 :: ps[k] := by
  rw [List.take_succ_eq_append_getElem h, slashed_snoc]
theorem slashed_app (a b : List (List UInt8)) : slashed (a ++ b) = slashed a ++ slashed b := by simp [slashed]
theorem slashed_pre (ps : List (List UInt8)) (k : Nat) : (slashed (ps.take k)).length ≤ (slashed ps).length := by
  conv => rhs; rw [← List.take_append_drop k ps]
  rw [slashed_app]; simp

set_option maxHeartbeats 1000000 in
theorem l2Of_any (ps : List (List UInt8)) (v : Value) (w : World) (hR : Rd w v ps) (hl : (slashed ps).length ≤ 1073741824) : Calls Tryz.prog 65 #[v] w fun e w' => e = .returned (.string (bs (pathL ps))) ∧ w = w' := by
  obtain ⟨o, c, rfl, hlc, hcm, hH⟩ := hR
  have HH := Lib.hid hH
  clear hH
  unfold maxLen at hcm
  by_cases h0 : ps = []
  · subst h0
    go_enter Tryz.func65, Tryz.ntmps65
    go_wp2
    go_ret
    exact ⟨rfl, rfl⟩
  · have hp : 0 < ps.length := List.length_pos_iff.2 h0
    have HP : Hid (pathL ps = slashed ps) := Lib.hid (by unfold pathL; rw [if_neg h0])
    have hp' : ((ps.length : Int) == 0) = false := by simp; omega
    clear h0
    go_enter Tryz.func65, Tryz.ntmps65
    go_wp2
    go_loop [3, 11] (fun t i => ∃ k : Nat, k ≤ ps.length ∧ i = .int .i64 k ∧ t = .string (bs (slashed (ps.take k)))) (fun _ i => ps.length - (intOf i).toNat)
    case atStart => exact ⟨0, Nat.zero_le _, rfl, rfl⟩
    case round =>
      obtain ⟨k, hk, rfl, rfl⟩ := hrel
      by_cases hlt : k < ps.length
      · obtain ⟨g, off, rfl, hg, hcell⟩ := HH.out k hlt
        have HS := Lib.hid (slashed_take hlt)
        have hl1 := slashed_pre ps (k + 1)
        rw [HS.out, List.length_append, List.length_cons] at hl1
        have hx1 : (bs ps[k]).size ≤ 1073741824 := by rw [bs_size]; omega
        have hy1 : (bs (slashed (ps.take k))).size ≤ 1073741824 := by rw [bs_size]; omega
        obtain ⟨x, hx⟩ : ∃ x, x = bs ps[k] := ⟨_, rfl⟩
        obtain ⟨y, hy⟩ : ∃ y, y = bs (slashed (ps.take k)) := ⟨_, rfl⟩
        rw [← hx] at hcell hx1
        rw [← hy] at hy1 ⊢
        have HX := Lib.hid hx
        have HY := Lib.hid hy
        clear hx hy hl1
        go_wp2
        go_round
        case rel =>
          refine ⟨k + 1, hlt, by go_num, ?_⟩
          rw [HS.out, HX.out, HY.out, ← bs_app]
          have : (bs (47 :: ps[k])) = bs [47] ++ bs ps[k] := by rw [bs_app]; rfl
          rw [this]; rfl
        case measure => simp [intOf]; omega
      · have HT : Hid (ps.take k = ps) := Lib.hid (List.take_of_length_le (by omega))
        rw [HT.out]
        go_wp2
        go_ret
        exact ⟨by rw [HP.out]; rfl, rfl⟩
end Go.Proofs.YtgmkfhhlnhgkhaaGreatDoor


/-
  PathTo: the model's l3Path and PathTo, the program's pathFromRoot and PathTo, with the same answer.
  Conditions: at most 2^20 values and letters together.
-/
namespace Go.Proofs.YtgmkfhhlnhgkhaaGreatDoor
open Go.ChangeShapes Go.WideShapes Go.ChangeAt Go.RowKit Go.Joins
set_option linter.unusedVariables false
set_option linter.unusedSimpArgs false

/-- The names from node 0 to a node, n steps up at most. -/
def nmsUp (P : Int → Pl) : Nat → Int → List (List UInt8)
  | 0, _ => []
  | n + 1, i => if i = 0 then [] else nmsUp P n ((P i).dir : Int) ++ [(P i).name]
theorem nmsUp_zero (P : Int → Pl) : ∀ n, nmsUp P n 0 = []
  | 0 => rfl
  | n + 1 => by rw [nmsUp, if_pos rfl]
theorem nmsUp_more (P : Int → Pl) : ∀ (n m : Nat) (i : Int), upN P n i = 0 → n ≤ m → nmsUp P m i = nmsUp P n i
  | 0, m, i, h, _ => by
    have h' : i = 0 := h
    rw [h', nmsUp_zero, nmsUp_zero]
  | n + 1, 0, i, _, hm => absurd hm (by omega)
  | n + 1, m + 1, i, h, hm => by
    rw [nmsUp, nmsUp]
    by_cases h0 : i = 0
    · rw [if_pos h0, if_pos h0]
    · rw [if_neg h0, if_neg h0, nmsUp_more P n m _ (by rw [← upN_one]; exact h) (by omega)]
theorem nmsUp_len (P : Int → Pl) : ∀ (n : Nat) (i : Int), (nmsUp P n i).length ≤ n
  | 0, i => by simp [nmsUp]
  | n + 1, i => by
    rw [nmsUp]
    by_cases h0 : i = 0
    · rw [if_pos h0]; simp
    · rw [if_neg h0]
      have := nmsUp_len P n ((P i).dir : Int)
      simp; omega
theorem nmsUp_all {P : Int → Pl} {b : Nat} (h : ∀ i, (P i).name.length ≤ b) : ∀ (n : Nat) (i : Int), ∀ p ∈ nmsUp P n i, p.length ≤ b
  | 0, i => by simp [nmsUp]
  | n + 1, i => by
    rw [nmsUp]
    by_cases h0 : i = 0
    · rw [if_pos h0]; simp
    · rw [if_neg h0]
      intro p hp
      rcases List.mem_append.1 hp with hp | hp
      · exact nmsUp_all h n _ p hp
      · rw [List.mem_singleton.1 hp]; exact h i
theorem slashed_le (b : Nat) : ∀ (ps : List (List UInt8)), (∀ p ∈ ps, p.length ≤ b) → (slashed ps).length ≤ (b + 1) * ps.length
  | [], _ => by simp [slashed]
  | p :: ps, h => by
    have h1 := slashed_le b ps (fun q hq => h q (by simp [hq]))
    have h2 := h p (by simp)
    have e : slashed (p :: ps) = 47 :: p ++ slashed ps := by simp [slashed]
    rw [e]
    simp only [List.length_append, List.length_cons, Nat.mul_add, Nat.mul_one]
    omega
theorem lastN_mem (i : Int) : ∀ (es : List Ent) (s : List UInt8), lastN i s es = s ∨ ∃ e ∈ es, lastN i s es = e.name
  | [], s => .inl rfl
  | e :: es, s => by
    unfold lastN
    rw [List.foldl_cons]
    by_cases he : e.node = i
    · rw [if_pos he]
      rcases lastN_mem i es e.name with h | ⟨x, hx, h⟩
      · exact .inr ⟨e, by simp, h⟩
      · exact .inr ⟨x, by simp [hx], h⟩
    · rw [if_neg he]
      rcases lastN_mem i es s with h | ⟨x, hx, h⟩
      · exact .inl h
      · exact .inr ⟨x, by simp [hx], h⟩
theorem lastN_take (i : Int) (s : List UInt8) {es : List Ent} {j : Nat} (h : j < es.length) : lastN i s (es.take (j + 1)) = if es[j].node = i then es[j].name else lastN i s (es.take j) := by
  unfold lastN
  rw [List.take_succ_eq_append_getElem h, List.foldl_append]
  rfl
theorem name_le {l : List UInt8} (h : nameB l = true) : l.length ≤ 8 := by
  have h1 := name_part h
  simp [partB] at h1
  omega
theorem ent_name {f : FsD} (h : goodF f = true) {n : Nod} (hn : n ∈ f.nodes) {e : Ent} (he : e ∈ n.list) : e.name.length ≤ 8 := by
  have h1 := (nodOk_iff.1 ((goodF_GoodF h).2.2.2.2.1 n hn)).1
  have h2 := (nodOkI_dir h1 (fun x => by rw [x] at he; cases he)).2
  obtain ⟨k, hk, rfl⟩ := List.getElem_of_mem he
  unfold entsOkI at h2
  rw [List.all_eq_true] at h2
  have h3 := h2 k (List.mem_range.2 hk)
  rw [entOkI_is hk] at h3
  simp only [Bool.and_eq_true, entGoodB] at h3
  exact name_le h3.1.1
theorem place_name {f : FsD} (h : goodF f = true) (i : Int) : (placesF f.nodes i).name.length ≤ 8 := by
  by_cases hl : 0 < links i f.nodes
  · obtain ⟨d, hd, -, -, e3⟩ := pl_some hl
    rw [e3]
    rcases lastN_mem i f.nodes[d].list [] with h1 | ⟨e, he, h1⟩
    · rw [h1]; simp
    · rw [h1]; exact ent_name h (List.getElem_mem hd) he
  · rw [pl_none (by omega)]; simp [pl0]
/-- The way up from a directory ends at node 0. -/
theorem good_up {f : FsD} (h : goodF f = true) {m : Nat} (hm : m < f.nodes.length) (hk : kindAt f.nodes m = 2) : upN (placesF f.nodes) f.nodes.length m = 0 := by
  have hI := (good_iff f).2 (goodF_GoodF h)
  have hp := good_pos h
  have h0 : links (0 : Int) f.nodes = 0 := ((goodF_GoodF h).2.2.2.2.2 0 hp).1 rfl
  rcases Nat.eq_zero_or_pos m with rfl | hpm
  · exact upN_zero (by rw [pl_none h0]; rfl) _
  · have h1 := hI.2.2.2.2.1 m hm
    unfold wellB at h1
    rw [if_neg (by rintro (h2 | h2) <;> omega), if_pos hk] at h1
    simp at h1
    exact h1.2
noncomputable def pathF (f : FsD) (node : Int) : List UInt8 := if parK f node = true then pathL (nmsUp (placesF f.nodes) f.nodes.length node) else []
/-- A directory above another one. -/
theorem good_above {f : FsD} (h : goodF f = true) {m : Nat} (hm : m < f.nodes.length) (hm0 : m ≠ 0) (hk : kindAt f.nodes m = 2) : ∃ d, ∃ hd : d < f.nodes.length, (placesF f.nodes m).dir = d ∧ parentOf m f.nodes = d ∧ kindAt f.nodes d = 2 ∧ (placesF f.nodes m).name = lastN m [] f.nodes[d].list := by
  have h1 : links m f.nodes = 1 := ((goodF_GoodF h).2.2.2.2.2 m hm).2.1 (by omega) hk
  obtain ⟨d, hd, e1, e2, e3⟩ := pl_some (ns := f.nodes) (i := m) (by omega)
  refine ⟨d, hd, e1, parent_is h1 hd e2, ?_, e3⟩
  have h4 := (nodOkI_dir ((nodOk_iff.1 ((goodF_GoodF h).2.2.2.2.1 _ (List.getElem_mem hd))).1) (fun x => by rw [x] at e2; simp [linksE, tot] at e2)).1
  rw [← h4]; simp [kindAt, List.getD, hd]

set_option maxHeartbeats 4000000 in
theorem l3Path_any (f : FsD) (hg : goodF f = true) (hs : szF f ≤ 1048576) : ∀ (n m : Nat) (v : Value) (w : World), n ≤ 1048576 → m < f.nodes.length → kindAt f.nodes m = 2 → upN (placesF f.nodes) n m = 0 → FsA w v f →
    Calls Tryz.prog 66 #[v, .int .i64 (m : Int)] w fun e w' => ∃ u, e = .returned u ∧ Lst w' w.heap.size u (nmsUp (placesF f.nodes) n m) ∧ Below w.heap.size w w' := by
  intro n
  induction n with
  | zero =>
    intro m v w _ hm hk hu hR
    have h0 : (m : Int) = 0 := hu
    obtain ⟨nv, rfl, hN⟩ := hR
    obtain ⟨o, c, rfl, -, -⟩ := hN
    rw [h0]
    have hbw : Below w.heap.size w (w.alloc (.cells #[.slice o f.nodes.length c, .int .i64 f.room] 26)) := (Below.refl _ _).alloc (Nat.le_refl _) _
    go_enter Tryz.func66, Tryz.ntmps66
    go_wp2
    go_ret
    exact ⟨_, rfl, Lst.nil _ _, hbw⟩
  | succ n ih =>
    intro m v w hn hm hk hu hR
    have HIH := Lib.hid ih
    have HR := Lib.hid hR
    obtain ⟨nv, rfl, hN⟩ := hR
    obtain ⟨o, c, rfl, hmm, hH⟩ := hN
    have HH := Lib.hid hH
    have HS := Lib.hid hs
    have HLS : Hid (∀ n ∈ f.nodes, n.list.length ≤ 1048576) := Lib.hid (fun n hn => ((lists_small hs).2 n hn).1)
    have hl : f.nodes.length ≤ 1048576 := (lists_small hs).1
    have hbw : Below w.heap.size w (w.alloc (.cells #[.slice o f.nodes.length c, .int .i64 f.room] 26)) := (Below.refl _ _).alloc (Nat.le_refl _) _
    have HB0 := Lib.hid hbw
    have HK0 := Lib.hid (heap_alloc_new w (.cells #[.slice o f.nodes.length c, .int .i64 f.room] 26))
    clear ih hH hbw hs
    unfold maxLen at hmm
    by_cases hm0 : m = 0
    · subst hm0
      have HZ : Hid (nmsUp (placesF f.nodes) (n + 1) ((0 : Nat) : Int) = []) := Lib.hid (nmsUp_zero _ _)
      go_enter Tryz.func66, Tryz.ntmps66
      go_wp2
      go_ret
      exact ⟨_, rfl, by rw [HZ.out]; exact Lst.nil _ _, HB0.out⟩
    · obtain ⟨d, hd, e1, e2, e3, e4⟩ := good_above hg hm hm0 hk
      have hmi : ((m : Int) == 0) = false := by rw [beq_eq_false_iff_ne]; omega
      have HP : Hid (parentOf (m : Int) f.nodes = d) := Lib.hid e2
      have HUP : Hid (upN (placesF f.nodes) n (d : Int) = 0) := Lib.hid (by rw [upN_one, e1] at hu; exact hu)
      have HKD := Lib.hid e3
      have HNM : Hid (nmsUp (placesF f.nodes) (n + 1) (m : Int) = nmsUp (placesF f.nodes) n (d : Int) ++ [lastN m [] f.nodes[d].list]) := Lib.hid (by rw [nmsUp, if_neg (by omega), e1, e4])
      have hql := HLS.out _ (List.getElem_mem hd)
      obtain ⟨g, off, lv, rfl, hg2, hcc, he, -⟩ := HH.out d hd
      have HC6 := Lib.hid hcc.c6
      obtain ⟨q, hqq⟩ : ∃ q, q = f.nodes[d] := ⟨_, rfl⟩
      rw [← hqq] at he hql HNM
      obtain ⟨oe, ce, rfl, -, hE⟩ := he
      have HE := Lib.hid hE
      have hnl := nmsUp_len (placesF f.nodes) n (d : Int)
      clear hcc hqq hE hk hu e1 e2 e3 e4
      obtain ⟨i0, hi, hz0, hz1, hz2⟩ := info_parts strInfo
      go_enter Tryz.func66, Tryz.ntmps66
      go_wp2_with fail
      refine (l3Parent_any f m _ _ (HR.out.below HB0.out) HS.out).mono ?_
      rintro e w1 ⟨rfl, hb1⟩
      rw [HP.out]
      have HB1 := Lib.hid (HB0.out.trans (hb1.mono HB0.out.size))
      have HK1 := Lib.hid ((hb1.block w.heap.size (lt_of_heap HK0.out)).trans HK0.out)
      have x1 := (cell_blk HK1.out 0).trans rfl
      have d6 := (HB1.out.cell (p := ⟨g, off + d * 7 + 6, none⟩) hg2).trans HC6.out
      clear hb1
      go_wp2
      go_loopw [6, 21] (fun t i wr => ∃ j : Nat, j ≤ q.list.length ∧ i = .int .i64 j ∧ t = .string (bs (lastN m [] (q.list.take j))) ∧ Below w.heap.size w wr ∧ wr.heap[w.heap.size]? = some (.cells #[.slice (some ⟨g, off, none⟩) f.nodes.length c, .int .i64 f.room] 26)) (fun _ i _ => q.list.length - (intOf i).toNat)
      case atStart => exact ⟨0, Nat.zero_le _, rfl, rfl, HB1.out, HK1.out⟩
      case round =>
        obtain ⟨j, hj, rfl, rfl, hB, hb⟩ := hrel
        by_cases hlt : j < q.list.length
        · obtain ⟨g3, f3, rfl, q3, y1, y2, -⟩ := HE.out j hlt
          have a1 := (hB.cell (p := ⟨g3, f3 + j * 2, none⟩) q3).trans y1
          have a2 := (hB.cell (p := ⟨g3, f3 + j * 2 + 1, none⟩) q3).trans y2
          have HT := Lib.hid (lastN_take (m : Int) [] hlt)
          obtain ⟨y, hyy⟩ : ∃ y, y = bs q.list[j].name := ⟨_, rfl⟩
          have HY := Lib.hid hyy
          rw [← hyy] at a1
          obtain ⟨r, hr⟩ : ∃ r, r = q.list[j].node := ⟨_, rfl⟩
          rw [← hr] at a2 HT
          have HA : Hid (∀ oo, Below w.heap.size w (wr.alloc oo)) := Lib.hid (fun oo => hB.alloc hB.size oo)
          have HW : Hid (∀ oo, (wr.alloc oo).heap[w.heap.size]? = some (.cells #[.slice (some ⟨g, off, none⟩) f.nodes.length c, .int .i64 f.room] 26)) := Lib.hid (fun oo => (Below.heap_alloc _ _ _ (lt_of_heap hb)).trans hb)
          clear y1 y2 hyy hr hB hb
          by_cases hrn : r = (m : Int)
          · have HT2 : Hid (lastN m [] (q.list.take (j + 1)) = q.list[j].name) := Lib.hid (by rw [HT.out, if_pos hrn])
            subst hrn
            go_wp2
            go_roundw
            case rel => exact ⟨j + 1, hlt, by go_num, by rw [HT2.out, ← HY.out], HA.out _, HW.out _⟩
            case measure => simp [intOf]; omega
          · have HT2 : Hid (lastN m [] (q.list.take (j + 1)) = lastN m [] (q.list.take j)) := Lib.hid (by rw [HT.out, if_neg hrn])
            have hrb : (r == (m : Int)) = false := beq_eq_false_iff_ne.2 hrn
            clear hrn
            go_wp2
            go_roundw
            case rel => exact ⟨j + 1, hlt, by go_num, by rw [HT2.out], HA.out _, HW.out _⟩
            case measure => simp [intOf]; omega
        · have HT : Hid (q.list.take j = q.list) := Lib.hid (List.take_of_length_le (by omega))
          rw [HT.out]
          have x2 := (cell_blk hb 0).trans rfl
          have y2 := (cell_blk hb 1).trans rfl
          have hsz := hB.size
          obtain ⟨x, hx⟩ : ∃ x, x = bs (lastN m [] q.list) := ⟨_, rfl⟩
          have HX := Lib.hid hx
          rw [← hx]
          clear hx hb
          go_wp2_with fail
          refine (HIH.out d _ _ (by omega) hd HKD.out HUP.out (HR.out.below hB)).mono ?_
          rintro e w5 ⟨u5, rfl, hL5, hb5⟩
          have hB5 := hB.trans (hb5.mono hB.size)
          have hL : Lst w5 w.heap.size u5 _ := lst_mono hL5 hsz
          clear hL5 hb5
          go_wp2_with (at_builtin; refine wpList_append_own _ rfl _ _ 58 rfl w.heap.size 9 i0 (.string ⟨#[]⟩) 1 16 Tryz.underlying58 hi hz0 hz1 hz2 rfl (by decide) _ _ _ rfl (hL.alloc _) ⟨w5.heap.size, 0, none⟩ 1 1 [.string x] rfl rfl (cell_one_new _ _ _) (by simp [Value.oneCell']) (by unfold maxLen; omega) (by omega) (by have := hB5.size; simp; omega) ?_)
          intro v6 w6 hown6 hgrow6 _
          have hb6 := below_app hB5 hB5.size hL hgrow6
          have HL6 := Lib.hid (Lst.snoc HX.out hown6)
          clear hown6 hgrow6 hL
          go_wp2
          go_ret
          exact ⟨_, rfl, by rw [HNM.out]; exact HL6.out, hb6⟩
end Go.Proofs.YtgmkfhhlnhgkhaaGreatDoor


/-
  The model's RealPath, ListDir and CodeText.
  Conditions: at most 2^20 values and letters together; a text of at most 2^20 bytes.
-/
namespace Go.Proofs.YtgmkfhhlnhgkhaaGreatDoor
open Go.ChangeShapes Go.WideShapes Go.ChangeAt Go.RowKit Go.Joins
set_option linter.unusedVariables false
set_option linter.unusedSimpArgs false

theorem dirF_lt {f : FsD} (hF : LookFs f) (u g : Int) (l : List UInt8) : (dirF f.nodes u g l).2 < f.nodes.length := by
  unfold dirF
  split
  · exact hF.pos
  · exact lkFind_lt hF u g l true
theorem dirF_kind {ns : List Nod} {u g : Int} {l : List UInt8} (h : (dirF ns u g l).1 = 0) : (nodeAt ns (dirF ns u g l).2).kind = 2 := by
  unfold dirF at h ⊢
  by_cases hc : (lkFind ns u g l true).1 = 0 ∧ (nodeAt ns (lkFind ns u g l true).2).kind ≠ 2
  · rw [if_pos hc] at h; exact absurd h (by decide)
  · rw [if_neg hc] at h ⊢
    by_cases hk : (nodeAt ns (lkFind ns u g l true).2).kind = 2
    · exact hk
    · exact absurd ⟨h, hk⟩ hc
theorem kind_at {ns : List Nod} {i : Nat} (hi : i < ns.length) : kindAt ns (i : Int) = (nodeAt ns i).kind := by
  unfold kindAt nodeAt; simp
theorem names_smallL {f : FsD} (h : goodF f = true) (m : Int) : (slashed (nmsUp (placesF f.nodes) f.nodes.length m)).length ≤ 360 := by
  have h1 := nmsUp_len (placesF f.nodes) f.nodes.length m
  have h2 := slashed_le 8 _ (nmsUp_all (place_name h) f.nodes.length m)
  have h3 := inB_t (goodF_GoodF h).1
  omega
/-- What RealPath tells: a text and a code. -/
noncomputable def rpF (f : FsD) (u g : Int) (l : List UInt8) : List UInt8 × Int :=
  if (dirF f.nodes u g l).1 ≠ 0 then ([], (dirF f.nodes u g l).1) else (pathL (nmsUp (placesF f.nodes) f.nodes.length ((dirF f.nodes u g l).2 : Nat)), 0)
noncomputable def rpT (f : FsD) (u g : Int) (l : List UInt8) : List UInt8 := if askB4 f u g = true then (rpF f u g l).1 else []
noncomputable def rpC (f : FsD) (u g : Int) (l : List UInt8) : Int := if askB4 f u g = true then (rpF f u g l).2 else 0
set_option maxHeartbeats 4000000 in
theorem specRealPath_any (f : FsD) (v : Value) (u g : Int) (s : ByteArray) (w : World) (hR : FsA w v f) (hs : szF f ≤ 1048576) (hss : s.size ≤ 1048576) : Calls Tryz.prog 46 #[v, .agg #[.int .i64 u, .int .i64 g], .string s] w fun e w' => e = .returned (.tuple #[.string (bs (rpT f u g s.data.toList)), .int .i64 (rpC f u g s.data.toList), .bool (askB4 f u g)]) ∧ Below w.heap.size w w' := by
  have HR := Lib.hid hR
  obtain ⟨nv, rfl, hN⟩ := hR
  have HN := Lib.hid hN
  obtain ⟨o, c, rfl, hm, hH⟩ := hN
  have HH := Lib.hid hH
  unfold maxLen at hm
  have HS := Lib.hid hs
  have hl : f.nodes.length ≤ 1048576 := (lists_small hs).1
  have HB0 : Hid (Below w.heap.size w ((w.alloc (.cells #[.slice o f.nodes.length c, .int .i64 f.room] 26)).alloc (.cells #[.int .i64 u, .int .i64 g] 37))) := Lib.hid (((Below.refl _ _).alloc (Nat.le_refl _) _).alloc (by simp) _)
  have KA0 := Lib.hid (alloc3_fst' w (.cells #[.slice o f.nodes.length c, .int .i64 f.room] 26) (.cells #[.int .i64 u, .int .i64 g] 37))
  have KB0 := Lib.hid (alloc3_snd' w (.cells #[.slice o f.nodes.length c, .int .i64 f.room] 26) (.cells #[.int .i64 u, .int .i64 g] 37))
  clear hH hs
  by_cases hk : askB4 f u g = true
  · have HK := Lib.hid hk
    have HGD := Lib.hid (ask_good hk)
    have HL := Lib.hid (look_of (ask_good hk) HS.out)
    have hkd0 := dirF_kind (ns := f.nodes) (u := u) (g := g) (l := s.data.toList)
    have hlt0 := dirF_lt HL.out.1 u g s.data.toList
    obtain ⟨⟨cd, nd⟩, hfd⟩ : ∃ q, dirF f.nodes u g s.data.toList = q := ⟨_, rfl⟩
    rw [hfd] at hkd0 hlt0
    have hlt : nd < f.nodes.length := hlt0
    have HKD : Hid (cd = 0 → (nodeAt f.nodes nd).kind = 2) := Lib.hid hkd0
    have HFD := Lib.hid hfd
    clear hkd0 hlt0
    by_cases hc : cd = 0
    · have HV : Hid (rpT f u g s.data.toList = pathL (nmsUp (placesF f.nodes) f.nodes.length (nd : Int)) ∧ rpC f u g s.data.toList = 0) := Lib.hid (by unfold rpT rpC rpF; rw [if_pos hk, if_pos hk, hfd]; simp [hc])
      have HK2 : Hid (kindAt f.nodes (nd : Int) = 2) := Lib.hid (by rw [kind_at hlt]; exact HKD.out hc)
      have HUP := Lib.hid (good_up HGD.out hlt HK2.out)
      have hsm := names_smallL HGD.out (nd : Int)
      subst hc
      clear hk hfd
      go_enter Tryz.func46, Tryz.ntmps46
      go_wp2_with fail
      refine (l4Asked_any f _ u g _ (HR.out.below HB0.out) HS.out).mono ?_
      rintro e w1 ⟨rfl, hb1⟩
      rw [HK.out]
      have HB1 := Lib.hid (HB0.out.trans (hb1.mono HB0.out.size))
      have KA1 := Lib.hid ((hb1.block w.heap.size (lt_of_heap KA0.out)).trans KA0.out)
      have KB1 := Lib.hid ((hb1.block (w.heap.size + 1) (lt_of_heap KB0.out)).trans KB0.out)
      have x1a : w1.cell? ⟨w.heap.size, 0, none⟩ = some (.slice o f.nodes.length c) := cell_blk KA1.out 0
      have x1b : w1.cell? ⟨w.heap.size, 1, none⟩ = some (.int .i64 f.room) := cell_blk KA1.out 1
      have y1a : w1.cell? ⟨w.heap.size + 1, 0, none⟩ = some (.int .i64 u) := cell_blk KB1.out 0
      have y1b : w1.cell? ⟨w.heap.size + 1, 1, none⟩ = some (.int .i64 g) := cell_blk KB1.out 1
      clear hb1
      go_wp2_with fail
      refine (l4Dir_any f _ u g s _ (HR.out.below HB1.out) HS.out hss HGD.out).mono ?_
      rintro e w2 ⟨rfl, hb2⟩
      rw [HFD.out]
      have HB2 := Lib.hid (HB1.out.trans (hb2.mono HB1.out.size))
      have KA2 := Lib.hid ((hb2.block w.heap.size (lt_of_heap KA1.out)).trans KA1.out)
      have KB2 := Lib.hid ((hb2.block (w.heap.size + 1) (lt_of_heap KB1.out)).trans KB1.out)
      have x2a : w2.cell? ⟨w.heap.size, 0, none⟩ = some (.slice o f.nodes.length c) := cell_blk KA2.out 0
      have x2b : w2.cell? ⟨w.heap.size, 1, none⟩ = some (.int .i64 f.room) := cell_blk KA2.out 1
      have y2a : w2.cell? ⟨w.heap.size + 1, 0, none⟩ = some (.int .i64 u) := cell_blk KB2.out 0
      have y2b : w2.cell? ⟨w.heap.size + 1, 1, none⟩ = some (.int .i64 g) := cell_blk KB2.out 1
      clear hb2
      go_wp2_with fail
      refine (l3Path_any f HGD.out HS.out f.nodes.length nd _ _ hl hlt HK2.out HUP.out (HR.out.below HB2.out)).mono ?_
      rintro e w3 ⟨u3, rfl, hL3, hb3⟩
      have HB3 := Lib.hid (HB2.out.trans (hb3.mono HB2.out.size))
      have HRD := Lib.hid hL3.read
      obtain ⟨o3, c3, rfl, -, -, -⟩ := hL3.read
      clear hL3 hb3
      go_wp2_with fail
      refine (l2Of_any _ _ _ HRD.out (by omega)).mono ?_
      rintro e w4 ⟨rfl, rfl⟩
      go_wp2
      go_ret3
      exact ⟨by rw [HV.out.1, HV.out.2, HK.out]; rfl, HB3.out⟩
    · have HV : Hid (rpT f u g s.data.toList = [] ∧ rpC f u g s.data.toList = cd) := Lib.hid (by unfold rpT rpC rpF; rw [if_pos hk, if_pos hk, hfd]; simp [hc])
      have cb : (cd == 0) = false := beq_eq_false_iff_ne.2 hc
      have cc : (cd != 0) = true := by rw [bne_iff_ne]; exact hc
      clear hk hfd
      go_enter Tryz.func46, Tryz.ntmps46
      go_wp2_with fail
      refine (l4Asked_any f _ u g _ (HR.out.below HB0.out) HS.out).mono ?_
      rintro e w1 ⟨rfl, hb1⟩
      rw [HK.out]
      have HB1 := Lib.hid (HB0.out.trans (hb1.mono HB0.out.size))
      have KA1 := Lib.hid ((hb1.block w.heap.size (lt_of_heap KA0.out)).trans KA0.out)
      have KB1 := Lib.hid ((hb1.block (w.heap.size + 1) (lt_of_heap KB0.out)).trans KB0.out)
      have x1a : w1.cell? ⟨w.heap.size, 0, none⟩ = some (.slice o f.nodes.length c) := cell_blk KA1.out 0
      have x1b : w1.cell? ⟨w.heap.size, 1, none⟩ = some (.int .i64 f.room) := cell_blk KA1.out 1
      have y1a : w1.cell? ⟨w.heap.size + 1, 0, none⟩ = some (.int .i64 u) := cell_blk KB1.out 0
      have y1b : w1.cell? ⟨w.heap.size + 1, 1, none⟩ = some (.int .i64 g) := cell_blk KB1.out 1
      clear hb1
      go_wp2_with fail
      refine (l4Dir_any f _ u g s _ (HR.out.below HB1.out) HS.out hss HGD.out).mono ?_
      rintro e w2 ⟨rfl, hb2⟩
      rw [HFD.out]
      have HB2 := Lib.hid (HB1.out.trans (hb2.mono HB1.out.size))
      have KA2 := Lib.hid ((hb2.block w.heap.size (lt_of_heap KA1.out)).trans KA1.out)
      have KB2 := Lib.hid ((hb2.block (w.heap.size + 1) (lt_of_heap KB1.out)).trans KB1.out)
      have x2a : w2.cell? ⟨w.heap.size, 0, none⟩ = some (.slice o f.nodes.length c) := cell_blk KA2.out 0
      have x2b : w2.cell? ⟨w.heap.size, 1, none⟩ = some (.int .i64 f.room) := cell_blk KA2.out 1
      have y2a : w2.cell? ⟨w.heap.size + 1, 0, none⟩ = some (.int .i64 u) := cell_blk KB2.out 0
      have y2b : w2.cell? ⟨w.heap.size + 1, 1, none⟩ = some (.int .i64 g) := cell_blk KB2.out 1
      clear hb2
      go_wp2
      go_ret3
      exact ⟨by rw [HV.out.1, HV.out.2, HK.out]; rfl, HB2.out⟩
  · have HK : Hid (askB4 f u g = false) := Lib.hid (by simpa using hk)
    have HV : Hid (rpT f u g s.data.toList = [] ∧ rpC f u g s.data.toList = 0) := Lib.hid (by unfold rpT rpC; rw [HK.out]; exact ⟨rfl, rfl⟩)
    clear hk
    go_enter Tryz.func46, Tryz.ntmps46
    go_wp2_with fail
    refine (l4Asked_any f _ u g _ (HR.out.below HB0.out) HS.out).mono ?_
    rintro e w1 ⟨rfl, hb1⟩
    rw [HK.out]
    have HB1 := Lib.hid (HB0.out.trans (hb1.mono HB0.out.size))
    have KA1 := Lib.hid ((hb1.block w.heap.size (lt_of_heap KA0.out)).trans KA0.out)
    have KB1 := Lib.hid ((hb1.block (w.heap.size + 1) (lt_of_heap KB0.out)).trans KB0.out)
    have x1a : w1.cell? ⟨w.heap.size, 0, none⟩ = some (.slice o f.nodes.length c) := cell_blk KA1.out 0
    have x1b : w1.cell? ⟨w.heap.size, 1, none⟩ = some (.int .i64 f.room) := cell_blk KA1.out 1
    have y1a : w1.cell? ⟨w.heap.size + 1, 0, none⟩ = some (.int .i64 u) := cell_blk KB1.out 0
    have y1b : w1.cell? ⟨w.heap.size + 1, 1, none⟩ = some (.int .i64 g) := cell_blk KB1.out 1
    clear hb1
    go_wp2
    go_ret3
    exact ⟨by rw [HV.out.1, HV.out.2, HK.out]; rfl, HB1.out⟩

/-- What ListDir tells: names and a code. -/
def ldC0 (ns : List Nod) (u g : Int) (l : List UInt8) : Int :=
  if (dirF ns u g l).1 = 0 ∧ mayB u g (nodeAt ns (dirF ns u g l).2).mode (nodeAt ns (dirF ns u g l).2).uid (nodeAt ns (dirF ns u g l).2).gid 4 = false then 4 else (dirF ns u g l).1
def namesOf (es : List Ent) : List (List UInt8) := es.map fun e => e.name
noncomputable def ldL (f : FsD) (u g : Int) (l : List UInt8) : List (List UInt8) := if askB4 f u g = true ∧ ldC0 f.nodes u g l = 0 then namesOf (nodeAt f.nodes (dirF f.nodes u g l).2).list else []
noncomputable def ldC (f : FsD) (u g : Int) (l : List UInt8) : Int := if askB4 f u g = true then ldC0 f.nodes u g l else 0
theorem names_take {es : List Ent} {k : Nat} (h : k < es.length) : namesOf (es.take (k + 1)) = namesOf (es.take k) ++ [es[k].name] := by
  unfold namesOf; rw [List.take_succ_eq_append_getElem h, List.map_append]; rfl
theorem cell_new1 (w : World) (a : Obj) (v : Value) (t : TypeId) : ∀ j u, [v][j]? = some u → ((w.alloc a).alloc (.cells #[v] t)).cell? ((⟨w.heap.size + 1, 0, none⟩ : Addr).add j) = some u := by
  have h := cell_one_new (w.alloc a) v t
  rw [World.size_alloc] at h
  exact h
set_option maxHeartbeats 8000000 in
theorem specListDir_any (f : FsD) (v : Value) (u g : Int) (s : ByteArray) (w : World) (hR : FsA w v f) (hs : szF f ≤ 1048576) (hss : s.size ≤ 1048576) : Calls Tryz.prog 42 #[v, .agg #[.int .i64 u, .int .i64 g], .string s] w fun e w' => ∃ lv, e = .returned (.tuple #[lv, .int .i64 (ldC f u g s.data.toList), .bool (askB4 f u g)]) ∧ Lst w' w.heap.size lv (ldL f u g s.data.toList) ∧ Below w.heap.size w w' := by
  have HR := Lib.hid hR
  obtain ⟨nv, rfl, hN⟩ := hR
  have HN := Lib.hid hN
  obtain ⟨o, c, rfl, hm, hH⟩ := hN
  have HH := Lib.hid hH
  unfold maxLen at hm
  have HS := Lib.hid hs
  have hl : f.nodes.length ≤ 1048576 := (lists_small hs).1
  have HB0 : Hid (Below w.heap.size w ((w.alloc (.cells #[.slice o f.nodes.length c, .int .i64 f.room] 26)).alloc (.cells #[.int .i64 u, .int .i64 g] 37))) := Lib.hid (((Below.refl _ _).alloc (Nat.le_refl _) _).alloc (by simp) _)
  have KA0 := Lib.hid (alloc3_fst' w (.cells #[.slice o f.nodes.length c, .int .i64 f.room] 26) (.cells #[.int .i64 u, .int .i64 g] 37))
  have KB0 := Lib.hid (alloc3_snd' w (.cells #[.slice o f.nodes.length c, .int .i64 f.room] 26) (.cells #[.int .i64 u, .int .i64 g] 37))
  clear hH hs
  by_cases hk : askB4 f u g = true
  · have HK := Lib.hid hk
    have HGD := Lib.hid (ask_good hk)
    have HL := Lib.hid (look_of (ask_good hk) HS.out)
    have hkd0 := dirF_kind (ns := f.nodes) (u := u) (g := g) (l := s.data.toList)
    have hlt0 := dirF_lt HL.out.1 u g s.data.toList
    obtain ⟨⟨cd, nd⟩, hfd⟩ : ∃ q, dirF f.nodes u g s.data.toList = q := ⟨_, rfl⟩
    rw [hfd] at hkd0 hlt0
    have hlt : nd < f.nodes.length := hlt0
    have HKD : Hid (cd = 0 → (nodeAt f.nodes nd).kind = 2) := Lib.hid hkd0
    have HFD := Lib.hid hfd
    clear hkd0 hlt0
    by_cases hc : cd = 0
    · have hk2 := HKD.out hc
      have HMO : Hid (inB 0 511 (nodeAt f.nodes nd).mode = true) := Lib.hid (HL.out.1.mode nd hlt (by rw [hk2]; decide))
      cases hmy : mayB u g (nodeAt f.nodes nd).mode (nodeAt f.nodes nd).uid (nodeAt f.nodes nd).gid 4 with
      | false =>
        have HMY := Lib.hid hmy
        have HC0 : Hid (ldC0 f.nodes u g s.data.toList = 4) := Lib.hid (by unfold ldC0; rw [hfd]; simp [hc, hmy])
        have HV : Hid (ldL f u g s.data.toList = [] ∧ ldC f u g s.data.toList = 4) := Lib.hid (by unfold ldL ldC; rw [HC0.out, if_pos hk]; simp)
        subst hc
        clear hk hfd hmy
        go_enter Tryz.func42, Tryz.ntmps42
        go_wp2_with fail
        refine (l4Asked_any f _ u g _ (HR.out.below HB0.out) HS.out).mono ?_
        rintro e w1 ⟨rfl, hb1⟩
        rw [HK.out]
        have HB1 := Lib.hid (HB0.out.trans (hb1.mono HB0.out.size))
        have KA1 := Lib.hid ((hb1.block w.heap.size (lt_of_heap KA0.out)).trans KA0.out)
        have KB1 := Lib.hid ((hb1.block (w.heap.size + 1) (lt_of_heap KB0.out)).trans KB0.out)
        have x1a : w1.cell? ⟨w.heap.size, 0, none⟩ = some (.slice o f.nodes.length c) := cell_blk KA1.out 0
        have x1b : w1.cell? ⟨w.heap.size, 1, none⟩ = some (.int .i64 f.room) := cell_blk KA1.out 1
        have y1a : w1.cell? ⟨w.heap.size + 1, 0, none⟩ = some (.int .i64 u) := cell_blk KB1.out 0
        have y1b : w1.cell? ⟨w.heap.size + 1, 1, none⟩ = some (.int .i64 g) := cell_blk KB1.out 1
        clear hb1
        go_wp2_with fail
        refine (l4Dir_any f _ u g s _ (HR.out.below HB1.out) HS.out hss HGD.out).mono ?_
        rintro e w2 ⟨rfl, hb2⟩
        rw [HFD.out]
        have HB2 := Lib.hid (HB1.out.trans (hb2.mono HB1.out.size))
        have KA2 := Lib.hid ((hb2.block w.heap.size (lt_of_heap KA1.out)).trans KA1.out)
        have KB2 := Lib.hid ((hb2.block (w.heap.size + 1) (lt_of_heap KB1.out)).trans KB1.out)
        have x2a : w2.cell? ⟨w.heap.size, 0, none⟩ = some (.slice o f.nodes.length c) := cell_blk KA2.out 0
        have x2b : w2.cell? ⟨w.heap.size, 1, none⟩ = some (.int .i64 f.room) := cell_blk KA2.out 1
        have y2a : w2.cell? ⟨w.heap.size + 1, 0, none⟩ = some (.int .i64 u) := cell_blk KB2.out 0
        have y2b : w2.cell? ⟨w.heap.size + 1, 1, none⟩ = some (.int .i64 g) := cell_blk KB2.out 1
        clear hb2
        go_wp2_with fail
        refine ((l4May_any f _ u g nd 4 _ (HR.out.below HB2.out) hlt HMO.out hl)).mono ?_
        rintro e w3 ⟨rfl, hb3⟩
        rw [HMY.out]
        have HB3 := Lib.hid (HB2.out.trans (hb3.mono HB2.out.size))
        have KA3 := Lib.hid ((hb3.block w.heap.size (lt_of_heap KA2.out)).trans KA2.out)
        have KB3 := Lib.hid ((hb3.block (w.heap.size + 1) (lt_of_heap KB2.out)).trans KB2.out)
        have x3a : w3.cell? ⟨w.heap.size, 0, none⟩ = some (.slice o f.nodes.length c) := cell_blk KA3.out 0
        have x3b : w3.cell? ⟨w.heap.size, 1, none⟩ = some (.int .i64 f.room) := cell_blk KA3.out 1
        have y3a : w3.cell? ⟨w.heap.size + 1, 0, none⟩ = some (.int .i64 u) := cell_blk KB3.out 0
        have y3b : w3.cell? ⟨w.heap.size + 1, 1, none⟩ = some (.int .i64 g) := cell_blk KB3.out 1
        clear hb3
        go_wp2
        go_ret3
        exact ⟨.slice none 0 0, by rw [HV.out.2, HK.out]; rfl, by rw [HV.out.1]; exact Lst.nil _ _, HB3.out⟩
      | true =>
        have HMY := Lib.hid hmy
        have HC0 : Hid (ldC0 f.nodes u g s.data.toList = 0) := Lib.hid (by unfold ldC0; rw [hfd]; simp [hc, hmy])
        have HV : Hid (ldL f u g s.data.toList = namesOf (nodeAt f.nodes nd).list ∧ ldC f u g s.data.toList = 0) := Lib.hid (by unfold ldL ldC; rw [HC0.out, if_pos hk, hfd]; simp [hk])
        have hql : (nodeAt f.nodes nd).list.length ≤ 1048576 := by rw [show nodeAt f.nodes nd = f.nodes[nd] from getD_at hlt]; exact ((lists_small HS.out).2 _ (List.getElem_mem hlt)).1
        subst hc
        clear hk hfd hmy
        obtain ⟨i9, hi9, hz0, hz1, hz2⟩ := info_parts strInfo
        go_enter Tryz.func42, Tryz.ntmps42
        go_wp2_with fail
        refine (l4Asked_any f _ u g _ (HR.out.below HB0.out) HS.out).mono ?_
        rintro e w1 ⟨rfl, hb1⟩
        rw [HK.out]
        have HB1 := Lib.hid (HB0.out.trans (hb1.mono HB0.out.size))
        have KA1 := Lib.hid ((hb1.block w.heap.size (lt_of_heap KA0.out)).trans KA0.out)
        have KB1 := Lib.hid ((hb1.block (w.heap.size + 1) (lt_of_heap KB0.out)).trans KB0.out)
        have x1a : w1.cell? ⟨w.heap.size, 0, none⟩ = some (.slice o f.nodes.length c) := cell_blk KA1.out 0
        have x1b : w1.cell? ⟨w.heap.size, 1, none⟩ = some (.int .i64 f.room) := cell_blk KA1.out 1
        have y1a : w1.cell? ⟨w.heap.size + 1, 0, none⟩ = some (.int .i64 u) := cell_blk KB1.out 0
        have y1b : w1.cell? ⟨w.heap.size + 1, 1, none⟩ = some (.int .i64 g) := cell_blk KB1.out 1
        clear hb1
        go_wp2_with fail
        refine (l4Dir_any f _ u g s _ (HR.out.below HB1.out) HS.out hss HGD.out).mono ?_
        rintro e w2 ⟨rfl, hb2⟩
        rw [HFD.out]
        have HB2 := Lib.hid (HB1.out.trans (hb2.mono HB1.out.size))
        have KA2 := Lib.hid ((hb2.block w.heap.size (lt_of_heap KA1.out)).trans KA1.out)
        have KB2 := Lib.hid ((hb2.block (w.heap.size + 1) (lt_of_heap KB1.out)).trans KB1.out)
        have x2a : w2.cell? ⟨w.heap.size, 0, none⟩ = some (.slice o f.nodes.length c) := cell_blk KA2.out 0
        have x2b : w2.cell? ⟨w.heap.size, 1, none⟩ = some (.int .i64 f.room) := cell_blk KA2.out 1
        have y2a : w2.cell? ⟨w.heap.size + 1, 0, none⟩ = some (.int .i64 u) := cell_blk KB2.out 0
        have y2b : w2.cell? ⟨w.heap.size + 1, 1, none⟩ = some (.int .i64 g) := cell_blk KB2.out 1
        clear hb2
        go_wp2_with fail
        refine ((l4May_any f _ u g nd 4 _ (HR.out.below HB2.out) hlt HMO.out hl)).mono ?_
        rintro e w3 ⟨rfl, hb3⟩
        rw [HMY.out]
        have HB3 := Lib.hid (HB2.out.trans (hb3.mono HB2.out.size))
        have KA3 := Lib.hid ((hb3.block w.heap.size (lt_of_heap KA2.out)).trans KA2.out)
        have KB3 := Lib.hid ((hb3.block (w.heap.size + 1) (lt_of_heap KB2.out)).trans KB2.out)
        have x3a : w3.cell? ⟨w.heap.size, 0, none⟩ = some (.slice o f.nodes.length c) := cell_blk KA3.out 0
        have x3b : w3.cell? ⟨w.heap.size, 1, none⟩ = some (.int .i64 f.room) := cell_blk KA3.out 1
        have y3a : w3.cell? ⟨w.heap.size + 1, 0, none⟩ = some (.int .i64 u) := cell_blk KB3.out 0
        have y3b : w3.cell? ⟨w.heap.size + 1, 1, none⟩ = some (.int .i64 g) := cell_blk KB3.out 1
        clear hb3
        obtain ⟨g3, f3, lv3, e3, hcc, hee⟩ := nod_cells (c := c) HH.out hlt HB3.out
        obtain ⟨d0, d1, d2, d3, d4, d5, d6⟩ := hcc
        subst e3
        obtain ⟨q, hq⟩ : ∃ q, q = nodeAt f.nodes nd := ⟨_, rfl⟩
        rw [← hq] at d0 d1 d2 d3 d4 d5 hee HV hql
        obtain ⟨o5, c5, rfl, -, hH5⟩ := hee
        have HH5 := Lib.hid hH5
        clear hH5 hq
        go_wp2
        go_loopw [11, 44] (fun t i wr => ∃ k : Nat, k ≤ q.list.length ∧ i = .int .i64 k ∧ Lst wr w3.heap.size t (namesOf (q.list.take k)) ∧ Below w3.heap.size w3 wr) (fun _ i _ => q.list.length - (intOf i).toNat)
        case atStart => exact ⟨0, Nat.zero_le _, rfl, Lst.nil _ _, Below.refl _ _⟩
        case round =>
          obtain ⟨k, hk, rfl, hL, hB⟩ := hrel
          have hnl : (namesOf (q.list.take k)).length ≤ 1048576 := by unfold namesOf; simp; omega
          by_cases hlt2 : k < q.list.length
          · obtain ⟨g9, f9, rfl, q9, y1, y2, -⟩ := HH5.out k hlt2
            have a1 := (hB.cell (p := ⟨g9, f9 + k * 2, none⟩) q9).trans y1
            have a2 := (hB.cell (p := ⟨g9, f9 + k * 2 + 1, none⟩) q9).trans y2
            have HT := Lib.hid (names_take hlt2)
            obtain ⟨x, hx⟩ : ∃ x, x = bs q.list[k].name := ⟨_, rfl⟩
            have HX := Lib.hid hx
            rw [← hx] at a1
            have hLa := hL.alloc (.cells #[.string x, .int .i64 q.list[k].node] 57)
            have hBa := hB.alloc hB.size (.cells #[.string x, .int .i64 q.list[k].node] 57)
            have hsz := hB.size
            clear y1 y2 hx
            go_wp2_with (at_builtin; refine wpList_append_own _ rfl _ _ 58 rfl w3.heap.size 9 i9 (.string ⟨#[]⟩) 1 16 Tryz.underlying58 hi9 hz0 hz1 hz2 rfl (by decide) _ _ _ rfl (World.ownsRow.alloc hLa _) ⟨wr.heap.size + 1, 0, none⟩ 1 1 [.string x] rfl rfl (cell_new1 _ _ _ _) (by simp [Value.oneCell']) (by unfold maxLen; omega) (by omega) (by simp; omega) ?_)
            intro v6 w6 hown6 hgrow6 _
            have hb6 := below_app hBa (by simp; omega) hLa hgrow6
            have HL6 := Lib.hid (Lst.snoc HX.out hown6)
            clear hown6 hgrow6 hL hLa hBa
            go_wp2
            go_roundw
            case rel => exact ⟨k + 1, hlt2, by go_num, by rw [HT.out]; exact HL6.out, hb6⟩
            case measure => simp [intOf]; omega
          · have HT : Hid (q.list.take k = q.list) := Lib.hid (List.take_of_length_le (by omega))
            have HLx : Hid (Lst wr w.heap.size _ (namesOf q.list)) := Lib.hid (by rw [HT.out] at hL; exact lst_mono hL HB3.out.size)
            have HBx := Lib.hid (HB3.out.trans (hB.mono HB3.out.size))
            go_wp2
            go_ret3
            exact ⟨_, by rw [HV.out.2, HK.out]; rfl, by rw [HV.out.1]; exact HLx.out, HBx.out⟩
    · have HC0 : Hid (ldC0 f.nodes u g s.data.toList = cd) := Lib.hid (by unfold ldC0; rw [hfd]; simp [hc])
      have HV : Hid (ldL f u g s.data.toList = [] ∧ ldC f u g s.data.toList = cd) := Lib.hid (by unfold ldL ldC; rw [HC0.out, if_pos hk]; simp [hc])
      have cb : (cd == 0) = false := beq_eq_false_iff_ne.2 hc
      have cc : (cd != 0) = true := by rw [bne_iff_ne]; exact hc
      clear hk hfd
      go_enter Tryz.func42, Tryz.ntmps42
      go_wp2_with fail
      refine (l4Asked_any f _ u g _ (HR.out.below HB0.out) HS.out).mono ?_
      rintro e w1 ⟨rfl, hb1⟩
      rw [HK.out]
      have HB1 := Lib.hid (HB0.out.trans (hb1.mono HB0.out.size))
      have KA1 := Lib.hid ((hb1.block w.heap.size (lt_of_heap KA0.out)).trans KA0.out)
      have KB1 := Lib.hid ((hb1.block (w.heap.size + 1) (lt_of_heap KB0.out)).trans KB0.out)
      have x1a : w1.cell? ⟨w.heap.size, 0, none⟩ = some (.slice o f.nodes.length c) := cell_blk KA1.out 0
      have x1b : w1.cell? ⟨w.heap.size, 1, none⟩ = some (.int .i64 f.room) := cell_blk KA1.out 1
      have y1a : w1.cell? ⟨w.heap.size + 1, 0, none⟩ = some (.int .i64 u) := cell_blk KB1.out 0
      have y1b : w1.cell? ⟨w.heap.size + 1, 1, none⟩ = some (.int .i64 g) := cell_blk KB1.out 1
      clear hb1
      go_wp2_with fail
      refine (l4Dir_any f _ u g s _ (HR.out.below HB1.out) HS.out hss HGD.out).mono ?_
      rintro e w2 ⟨rfl, hb2⟩
      rw [HFD.out]
      have HB2 := Lib.hid (HB1.out.trans (hb2.mono HB1.out.size))
      have KA2 := Lib.hid ((hb2.block w.heap.size (lt_of_heap KA1.out)).trans KA1.out)
      have KB2 := Lib.hid ((hb2.block (w.heap.size + 1) (lt_of_heap KB1.out)).trans KB1.out)
      have x2a : w2.cell? ⟨w.heap.size, 0, none⟩ = some (.slice o f.nodes.length c) := cell_blk KA2.out 0
      have x2b : w2.cell? ⟨w.heap.size, 1, none⟩ = some (.int .i64 f.room) := cell_blk KA2.out 1
      have y2a : w2.cell? ⟨w.heap.size + 1, 0, none⟩ = some (.int .i64 u) := cell_blk KB2.out 0
      have y2b : w2.cell? ⟨w.heap.size + 1, 1, none⟩ = some (.int .i64 g) := cell_blk KB2.out 1
      clear hb2
      go_wp2
      go_ret3
      exact ⟨.slice none 0 0, by rw [HV.out.2, HK.out]; rfl, by rw [HV.out.1]; exact Lst.nil _ _, HB2.out⟩
  · have HK : Hid (askB4 f u g = false) := Lib.hid (by simpa using hk)
    have HV : Hid (ldL f u g s.data.toList = [] ∧ ldC f u g s.data.toList = 0) := Lib.hid (by unfold ldL ldC; rw [HK.out]; exact ⟨rfl, rfl⟩)
    clear hk
    go_enter Tryz.func42, Tryz.ntmps42
    go_wp2_with fail
    refine (l4Asked_any f _ u g _ (HR.out.below HB0.out) HS.out).mono ?_
    rintro e w1 ⟨rfl, hb1⟩
    rw [HK.out]
    have HB1 := Lib.hid (HB0.out.trans (hb1.mono HB0.out.size))
    have KA1 := Lib.hid ((hb1.block w.heap.size (lt_of_heap KA0.out)).trans KA0.out)
    have KB1 := Lib.hid ((hb1.block (w.heap.size + 1) (lt_of_heap KB0.out)).trans KB0.out)
    have x1a : w1.cell? ⟨w.heap.size, 0, none⟩ = some (.slice o f.nodes.length c) := cell_blk KA1.out 0
    have x1b : w1.cell? ⟨w.heap.size, 1, none⟩ = some (.int .i64 f.room) := cell_blk KA1.out 1
    have y1a : w1.cell? ⟨w.heap.size + 1, 0, none⟩ = some (.int .i64 u) := cell_blk KB1.out 0
    have y1b : w1.cell? ⟨w.heap.size + 1, 1, none⟩ = some (.int .i64 g) := cell_blk KB1.out 1
    clear hb1
    go_wp2
    go_ret3
    exact ⟨.slice none 0 0, by rw [HV.out.2, HK.out]; rfl, by rw [HV.out.1]; exact Lst.nil _ _, HB1.out⟩

end Go.Proofs.YtgmkfhhlnhgkhaaGreatDoor


/-
  Contracts of the model's PathTo, of the program's pathFromRoot and PathTo: the same answer.
  Conditions: at most 2^20 values and letters together.
-/
namespace Go.Proofs.YtgmkfhhlnhgkhaaGreatDoor
open Go.ChangeShapes Go.WideShapes Go.ChangeAt Go.RowKit Go.Joins
set_option linter.unusedVariables false
set_option linter.unusedSimpArgs false

theorem tupSB {a a' : ByteArray} {b b' : Bool} (h1 : a = a') (h2 : b = b') : Ending.returned (.tuple #[.string a, .bool b]) = .returned (.tuple #[.string a', .bool b']) := by rw [h1, h2]
def strLen : Value → Nat
  | .string s => s.size
  | _ => 0
theorem names_small {f : FsD} (h : goodF f = true) (m : Int) : (slashed (nmsUp (placesF f.nodes) f.nodes.length m)).length ≤ 360 := by
  have h1 := nmsUp_len (placesF f.nodes) f.nodes.length m
  have h2 := slashed_le 8 _ (nmsUp_all (place_name h) f.nodes.length m)
  have h3 := inB_t (goodF_GoodF h).1
  omega
theorem slashed_nil {ps : List (List UInt8)} : slashed ps = [] ↔ ps = [] := by
  cases ps <;> simp [slashed]

set_option maxHeartbeats 2000000 in
theorem specPathTo_any (f : FsD) (node : Int) (v : Value) (w : World) (hR : FsA w v f) (hs : szF f ≤ 1048576) : Calls Tryz.prog 14 #[v, .int .i64 node] w fun e w' => e = .returned (.tuple #[.string (bs (pathF f node)), .bool (parK f node)]) ∧ Below w.heap.size w w' := by
  have HR := Lib.hid hR
  obtain ⟨nv, rfl, hN⟩ := hR
  have HN := Lib.hid hN
  obtain ⟨o, c, rfl, hm, hH⟩ := hN
  have HH := Lib.hid hH
  unfold maxLen at hm
  have hl : f.nodes.length ≤ 1048576 := (lists_small hs).1
  have HS := Lib.hid hs
  have HSZ : Hid (szNs f.nodes ≤ 1048576) := Lib.hid (by unfold szF at hs; omega)
  have hb0 : Below w.heap.size w (w.alloc (.cells #[.slice o f.nodes.length c, .int .i64 f.room] 26)) := (Below.refl _ _).alloc (Nat.le_refl _) _
  have hk0 := heap_alloc_new w (.cells #[.slice o f.nodes.length c, .int .i64 f.room] 26)
  have HB0 := Lib.hid hb0
  have HK0 := Lib.hid hk0
  clear hb0 hk0 hs hH
  by_cases hg : goodF f = true
  · have HG := Lib.hid hg
    by_cases hi : isDirN f.nodes node = true
    · have HI := Lib.hid hi
      have HW : Hid (parK f node = true) := Lib.hid (by unfold parK; rw [HG.out, HI.out]; rfl)
      obtain ⟨hgd, h0, h1, hk2⟩ := parK_in HW.out
      obtain ⟨m, rfl⟩ : ∃ m : Nat, node = m := ⟨node.toNat, by omega⟩
      have hml : m < f.nodes.length := by omega
      have HGD := Lib.hid hgd
      have HK2 := Lib.hid hk2
      have HUP := Lib.hid (good_up hgd hml hk2)
      have hsm := names_small hgd (m : Int)
      have HV : Hid (bs (pathF f (m : Int)) = bs (pathL (nmsUp (placesF f.nodes) f.nodes.length (m : Int)))) := Lib.hid (by unfold pathF; rw [if_pos HW.out])
      clear hg hi hgd hk2
      go_enter Tryz.func14, Tryz.ntmps14
      go_wp2_with fail
      refine (l3Good_any f _ _ (HR.out.below HB0.out) HS.out).mono ?_
      rintro e w1 ⟨rfl, hb1⟩
      rw [HG.out]
      have HB1 := Lib.hid (HB0.out.trans (hb1.mono HB0.out.size))
      have HK1 := Lib.hid ((hb1.block w.heap.size (lt_of_heap HK0.out)).trans HK0.out)
      have x1c0 := (cell_blk HK1.out 0).trans rfl
      have x1c1 := (cell_blk HK1.out 1).trans rfl
      clear hb1
      go_wp2_with fail
      refine (l3IsDir_any f _ _ _ (HR.out.below HB1.out) hl).mono ?_
      rintro e w2 ⟨rfl, hb2⟩
      rw [HI.out]
      have HB2 := Lib.hid (HB1.out.trans (hb2.mono HB1.out.size))
      have HK2b := Lib.hid ((hb2.block w.heap.size (lt_of_heap HK1.out)).trans HK1.out)
      have x2c0 := (cell_blk HK2b.out 0).trans rfl
      have x2c1 := (cell_blk HK2b.out 1).trans rfl
      clear hb2
      go_wp2_with fail
      refine (l3Path_any f HGD.out HS.out f.nodes.length m _ _ hl hml HK2.out HUP.out (HR.out.below HB2.out)).mono ?_
      rintro e w3 ⟨u3, rfl, hL3, hb3⟩
      have HB3 := Lib.hid (HB2.out.trans (hb3.mono HB2.out.size))
      have HRD := Lib.hid hL3.read
      obtain ⟨o3, c3, rfl, -, -, -⟩ := hL3.read
      clear hL3 hb3
      go_wp2_with fail
      refine (l2Of_any _ _ _ HRD.out (by omega)).mono ?_
      rintro e w4 ⟨rfl, rfl⟩
      go_wp2
      go_ret2
      exact ⟨tupSB HV.out.symm HW.out.symm, HB3.out⟩
    · have HI : Hid (isDirN f.nodes node = false) := Lib.hid (by simpa using hi)
      have HW : Hid (parK f node = false) := Lib.hid (by unfold parK; rw [HG.out, HI.out]; rfl)
      have HV : Hid (bs (pathF f node) = ⟨#[]⟩) := Lib.hid (by unfold pathF; rw [if_neg (by rw [HW.out]; simp)]; rfl)
      go_enter Tryz.func14, Tryz.ntmps14
      go_wp2_with fail
      refine (l3Good_any f _ _ (HR.out.below HB0.out) HS.out).mono ?_
      rintro e w1 ⟨rfl, hb1⟩
      rw [HG.out]
      have HB1 := Lib.hid (HB0.out.trans (hb1.mono HB0.out.size))
      have HK1 := Lib.hid ((hb1.block w.heap.size (lt_of_heap HK0.out)).trans HK0.out)
      have x1c0 := (cell_blk HK1.out 0).trans rfl
      have x1c1 := (cell_blk HK1.out 1).trans rfl
      clear hb1
      go_wp2_with fail
      refine (l3IsDir_any f _ _ _ (HR.out.below HB1.out) hl).mono ?_
      rintro e w2 ⟨rfl, hb2⟩
      rw [HI.out]
      have HB2 := Lib.hid (HB1.out.trans (hb2.mono HB1.out.size))
      have HK2 := Lib.hid ((hb2.block w.heap.size (lt_of_heap HK1.out)).trans HK1.out)
      have x2c0 := (cell_blk HK2.out 0).trans rfl
      have x2c1 := (cell_blk HK2.out 1).trans rfl
      clear hb2
      go_wp2
      go_ret2
      exact ⟨tupSB HV.out.symm HW.out.symm, HB2.out⟩
  · have HG : Hid (goodF f = false) := Lib.hid (by simpa using hg)
    have HW : Hid (parK f node = false) := Lib.hid (by unfold parK; rw [HG.out]; rfl)
    have HV : Hid (bs (pathF f node) = ⟨#[]⟩) := Lib.hid (by unfold pathF; rw [if_neg (by rw [HW.out]; simp)]; rfl)
    go_enter Tryz.func14, Tryz.ntmps14
    go_wp2_with fail
    refine (l3Good_any f _ _ (HR.out.below HB0.out) HS.out).mono ?_
    rintro e w1 ⟨rfl, hb1⟩
    rw [HG.out]
    have HB1 := Lib.hid (HB0.out.trans (hb1.mono HB0.out.size))
    have HK1 := Lib.hid ((hb1.block w.heap.size (lt_of_heap HK0.out)).trans HK0.out)
    have x1c0 := (cell_blk HK1.out 0).trans rfl
    have x1c1 := (cell_blk HK1.out 1).trans rfl
    clear hb1
    go_wp2
    go_ret2
    exact ⟨tupSB HV.out.symm HW.out.symm, HB1.out⟩

set_option maxHeartbeats 4000000 in
theorem pathFromRoot_any (n : Nat) (P : Int → Pl) (B : Nat) (v : Value) (m : Nat) (N : Nat) (w : World) (hR : PlsA w B v n P) (hn : n ≤ 1048576) (hin : ∀ k, 0 ≤ upN P k (m : Int) ∧ upN P k (m : Int) < n) (hz : (P 0).dir = 0) (hN : upN P N (m : Int) = 0) (hsm : (slashed (nmsUp P N (m : Int))).length ≤ 360) : Calls Tryz.prog 61 #[v, .int .i64 (m : Int)] w fun e w' => e = .returned (.string (bs (pathL (nmsUp P N (m : Int))))) ∧ w = w' := by
  obtain ⟨G, c, rfl, h1, h2, -, hr⟩ := hR
  have HR := Lib.hid hr
  have HI := Lib.hid hin
  have HZ := Lib.hid hz
  have HNN := Lib.hid hN
  obtain ⟨ps, hps⟩ : ∃ ps, ps = nmsUp P N (m : Int) := ⟨_, rfl⟩
  rw [← hps] at hsm ⊢
  have HPS := Lib.hid hps
  clear hr hin hz hN hps
  unfold maxLen at h2
  go_enter Tryz.func61, Tryz.ntmps61
  go_wp2
  go_loop [1, 5] (fun t p => ∃ (k : Nat) (dn : List (List UInt8)), k ≤ N ∧ t = .int .i64 (upN P k (m : Int)) ∧ p = .string (bs (slashed dn)) ∧ ps = nmsUp P (N - k) (upN P k (m : Int)) ++ dn) (fun _ p => 400 - strLen p)
  case atStart => exact ⟨0, [], Nat.zero_le _, rfl, rfl, by rw [HPS.out]; simp [upN]⟩
  case round =>
    obtain ⟨k, dn, hk, rfl, rfl, hd⟩ := hrel
    have HD := Lib.hid hd
    have hdl : (slashed dn).length ≤ 360 := by
      have := hsm
      rw [hd] at this
      simp only [slashed, List.map_append, List.flatten_append, List.length_append] at this ⊢
      omega
    obtain ⟨u0, u1⟩ := HI.out k
    have HNX : Hid (upN P (k + 1) (m : Int) = ((P (upN P k (m : Int))).dir : Int)) := Lib.hid rfl
    obtain ⟨x, hx⟩ : ∃ x : Nat, upN P k (m : Int) = x := ⟨(upN P k (m : Int)).toNat, by omega⟩
    have HX := Lib.hid hx
    rw [hx] at u0 u1 HNX HD ⊢
    have hx2 : x < n := by omega
    have b1 := HR.out.cell (j := x * 3 + 1) (by omega)
    have b2 := HR.out.cell (j := x * 3 + 2) (by omega)
    rw [plF1] at b1
    rw [plF2] at b2
    clear hx hd
    by_cases hx0 : x = 0
    · subst hx0
      have HE : Hid (ps = dn) := Lib.hid (by
        have := HD.out
        rw [show ((0 : Nat) : Int) = 0 from rfl, nmsUp_zero] at this
        simpa using this)
      by_cases he : ps = []
      · have HF : Hid (bs (pathL ps) = bs [47]) := Lib.hid (by unfold pathL; rw [if_pos he])
        have hS : bs (slashed dn) = ⟨#[]⟩ := by rw [← HE.out, he]; rfl
        rw [hS]
        clear he
        go_wp2
        go_ret
        exact ⟨by rw [HF.out]; rfl, rfl⟩
      · have HF : Hid (bs (pathL ps) = bs (slashed dn)) := Lib.hid (by unfold pathL; rw [if_neg he, HE.out])
        have hne : slashed dn ≠ [] := fun h => he (by rw [HE.out]; exact slashed_nil.1 h)
        obtain ⟨t1, t2, t3⟩ := text_ne hne
        obtain ⟨y, hy⟩ : ∃ y, y = bs (slashed dn) := ⟨_, rfl⟩
        rw [← hy] at t1 t2 t3 HF ⊢
        clear hy hne
        go_wp2
        go_ret
        exact ⟨by rw [HF.out]; rfl, rfl⟩
    · have hxi : ((x : Int) == 0) = false := by rw [beq_eq_false_iff_ne]; omega
      have hxj : ((x : Int) != 0) = true := by rw [bne_iff_ne]; omega
      have hkN : k < N := by
        rcases Nat.lt_or_ge k N with h | h
        · exact h
        · obtain rfl : k = N := by omega
          rw [HNN.out] at HX
          have := HX.out
          omega
      have HD2 : Hid (ps = nmsUp P (N - (k + 1)) (upN P (k + 1) (m : Int)) ++ ((P x).name :: dn)) := Lib.hid (by
        have h3 := HD.out
        rw [show N - k = (N - (k + 1)) + 1 by omega, nmsUp, if_neg (by omega)] at h3
        rw [h3, HNX.out, List.append_assoc]
        rfl)
      have HSL : Hid (slashed ((P x).name :: dn) = 47 :: (P x).name ++ slashed dn) := Lib.hid (by simp [slashed])
      have hd2 : (47 :: (P x).name ++ slashed dn).length ≤ 360 := by
        have h3 := hsm
        rw [HD2.out] at h3
        rw [← HSL.out]
        simp only [slashed, List.map_append, List.flatten_append, List.length_append] at h3 ⊢
        omega
      simp only [List.cons_append, List.length_cons, List.length_append] at hd2
      have hy1 : (bs (P x).name).size ≤ 360 := by rw [bs_size]; omega
      have hy2 : (bs (slashed dn)).size ≤ 360 := by rw [bs_size]; omega
      have HZ2 : Hid ((bs (slashed dn)).size = (slashed dn).length) := Lib.hid (bs_size _)
      have HZ1 : Hid ((bs (P x).name).size = (P x).name.length) := Lib.hid (bs_size _)
      obtain ⟨y, hy⟩ : ∃ y, y = bs (P x).name := ⟨_, rfl⟩
      obtain ⟨z, hz⟩ : ∃ z, z = bs (slashed dn) := ⟨_, rfl⟩
      rw [← hy] at b2 hy1 HZ1
      rw [← hz] at hy2 HZ2 ⊢
      have HY := Lib.hid hy
      have HZz := Lib.hid hz
      have HCAT : Hid (∀ a : ByteArray, a = bs [47] ++ y ++ z → a = bs (slashed ((P x).name :: dn))) := Lib.hid (fun a h => by
        rw [h, HSL.out, HY.out, HZz.out, bs_app, bs_app]; rfl)
      clear hy hz hd2
      go_wp2
      go_round
      case rel => exact ⟨k + 1, (P x).name :: dn, hkN, by rw [HNX.out], congrArg Value.string (HCAT.out _ rfl), HD2.out⟩
      case measure =>
        have hy3 := hy1
        have hz3 := hy2
        have h47 : (⟨#[47]⟩ : ByteArray).size = 1 := rfl
        simp [strLen]
        omega

set_option maxHeartbeats 2000000 in
theorem pathTo_any (f : FsD) (node : Int) (v : Value) (w : World) (hR : FsA w v f) (hs : szF f ≤ 1048576) : Calls Tryz.prog 13 #[v, .int .i64 node] w fun e w' => e = .returned (.tuple #[.string (bs (pathF f node)), .bool (parK f node)]) ∧ Below w.heap.size w w' := by
  have HR := Lib.hid hR
  obtain ⟨nv, rfl, hN⟩ := hR
  have HN := Lib.hid hN
  obtain ⟨o, c, rfl, hm, hH⟩ := hN
  have HH := Lib.hid hH
  unfold maxLen at hm
  have hl : f.nodes.length ≤ 1048576 := (lists_small hs).1
  have HS := Lib.hid hs
  have HSZ : Hid (szNs f.nodes ≤ 1048576) := Lib.hid (by unfold szF at hs; omega)
  have hb0 : Below w.heap.size w (w.alloc (.cells #[.slice o f.nodes.length c, .int .i64 f.room] 26)) := (Below.refl _ _).alloc (Nat.le_refl _) _
  have hk0 := heap_alloc_new w (.cells #[.slice o f.nodes.length c, .int .i64 f.room] 26)
  have HB0 := Lib.hid hb0
  have HK0 := Lib.hid hk0
  clear hb0 hk0 hs hH
  by_cases hg : parK f node = true
  · have HG := Lib.hid hg
    obtain ⟨hgd, h0, h1, hk2⟩ := parK_in hg
    have HLD := Lib.hid (good_lead hgd)
    obtain ⟨m, rfl⟩ : ∃ m : Nat, node = m := ⟨node.toNat, by omega⟩
    have hml : m < f.nodes.length := by omega
    have HUP := Lib.hid (good_up hgd hml hk2)
    have hsm := names_small hgd (m : Int)
    have HIN : Hid (∀ k, 0 ≤ upN (placesF f.nodes) k (m : Int) ∧ upN (placesF f.nodes) k (m : Int) < f.nodes.length) := Lib.hid (fun k => upN_in (good_pos hgd) (by omega) (by omega) k)
    have HZD : Hid ((placesF f.nodes 0).dir = 0) := Lib.hid (by rw [pl_none (((goodF_GoodF hgd).2.2.2.2.2 0 (good_pos hgd)).1 rfl)]; rfl)
    have HV : Hid (bs (pathF f (m : Int)) = bs (pathL (nmsUp (placesF f.nodes) f.nodes.length (m : Int)))) := Lib.hid (by unfold pathF; rw [if_pos HG.out])
    clear hg hgd hk2
    go_enter Tryz.func13, Tryz.ntmps13
    go_wp2_with fail
    refine (isDirNode_any f _ _ _ (HR.out.below HB0.out) HS.out).mono ?_
    rintro e w1 ⟨rfl, hb1⟩
    rw [HG.out]
    have HB1 := Lib.hid (HB0.out.trans (hb1.mono HB0.out.size))
    have HK1 := Lib.hid ((hb1.block w.heap.size (lt_of_heap HK0.out)).trans HK0.out)
    have x1c0 := (cell_blk HK1.out 0).trans rfl
    have x1c1 := (cell_blk HK1.out 1).trans rfl
    clear hb1
    go_wp2_with fail
    refine (placesIn_any f.nodes _ _ (HN.out.below HB1.out) HSZ.out hl HLD.out).mono ?_
    rintro e w2 ⟨u, rfl, hp, hb2⟩
    have HB2 := Lib.hid (HB1.out.trans (hb2.mono HB1.out.size))
    have HP := Lib.hid hp
    obtain ⟨G, cp, rfl, -, -, -, -⟩ := hp
    clear hb2
    go_wp2_with fail
    refine (pathFromRoot_any f.nodes.length (placesF f.nodes) _ _ m f.nodes.length _ HP.out hl HIN.out HZD.out HUP.out hsm).mono ?_
    rintro e w3 ⟨rfl, rfl⟩
    go_wp2
    go_ret2
    exact ⟨tupSB HV.out.symm HG.out.symm, HB2.out⟩
  · have HG : Hid (parK f node = false) := Lib.hid (by simpa using hg)
    have HV : Hid (bs (pathF f node) = ⟨#[]⟩) := Lib.hid (by unfold pathF; rw [if_neg (by rw [HG.out]; simp)]; rfl)
    go_enter Tryz.func13, Tryz.ntmps13
    go_wp2_with fail
    refine (isDirNode_any f _ _ _ (HR.out.below HB0.out) HS.out).mono ?_
    rintro e w1 ⟨rfl, hb1⟩
    rw [HG.out]
    have HB1 := Lib.hid (HB0.out.trans (hb1.mono HB0.out.size))
    have HK1 := Lib.hid ((hb1.block w.heap.size (lt_of_heap HK0.out)).trans HK0.out)
    have x1c0 := (cell_blk HK1.out 0).trans rfl
    have x1c1 := (cell_blk HK1.out 1).trans rfl
    clear hb1
    go_wp2
    go_ret2
    exact ⟨tupSB HV.out.symm HG.out.symm, HB1.out⟩
end Go.Proofs.YtgmkfhhlnhgkhaaGreatDoor
