/-
  Joined: FileA SetM DrfA ErrI DrfB InsB LayG AppK.
  Conditions: as each states.
-/
import Derived.BigQuiet
import Derived.Deep.QuietTactic
import Derived.Lib.QuietBelow
import Derived.Laws.StructEq
import Derived.Laws.OwnMore
import Derived.Deep.RegionLaw
import Derived.Deep.CutRange
import Derived.Deep.CutBlock
import Derived.Deep.DeepCutAuto
import Derived.Test.YtjomkjnpflebaaaGreatDoorLib1
import Derived.Test.YtjomkjnpflebaaaGreatDoorLib2
import Derived.Test.YtjomkjnpflebaaaGreatDoorLib3
import Derived.Test.YtjomkjnpflebaaaGreatDoorLib4
import Derived.Test.YtjomkjnpflebaaaGreatDoorLib11
import Derived.Test.YtjomkjnpflebaaaGreatDoorLib12
import Derived.Test.YtjomkjnpflebaaaGreatDoorLib15
import Derived.Test.YtjomkjnpflebaaaGreatDoorLib17
import Derived.Test.YtjomkjnpflebaaaGreatDoorLib18

/-
  The model's l6File and ReadFile.
  Conditions: at most 2^20 values and letters together; a text of at most 2^20 bytes.
-/
namespace Go.Proofs.YtjomkjnpflebaaaGreatDoor
open Go.ChangeShapes Go.WideShapes Go.ChangeAt Go.RowKit Go.Joins
set_option linter.unusedVariables false
set_option linter.unusedSimpArgs false

/-- What l6File finds: a code and a node. -/
def filW (ns : List Nod) (u g : Int) (l : List UInt8) (want : Int) : Int × Nat :=
  if (lkFind ns u g l true).1 ≠ 0 then ((lkFind ns u g l true).1, 0)
  else if (nodeAt ns (lkFind ns u g l true).2).kind = 2 then (7, 0)
  else if mayB u g (nodeAt ns (lkFind ns u g l true).2).mode (nodeAt ns (lkFind ns u g l true).2).uid (nodeAt ns (lkFind ns u g l true).2).gid want = false then (4, 0)
  else (0, (lkFind ns u g l true).2)
theorem filW_lt {f : FsD} (hF : LookFs f) (u g : Int) (l : List UInt8) (want : Int) : (filW f.nodes u g l want).2 < f.nodes.length := by
  unfold filW
  split
  · exact hF.pos
  · split
    · exact hF.pos
    · split
      · exact hF.pos
      · exact lkFind_lt hF u g l true
/-- A node of a good file system has a mode and owners within their limits. -/
theorem node_attr {f : FsD} (h : goodF f = true) {i : Nat} (hi : i < f.nodes.length) : inB 0 511 (nodeAt f.nodes i).mode = true ∧ inB 0 99 (nodeAt f.nodes i).uid = true ∧ inB 0 99 (nodeAt f.nodes i).gid = true := by
  have hG := goodF_G h
  have h1 := node_ok (fun n hn => (nodOk_iff.1 (hG.2.2.2.2.1 n hn)).1) hi
  unfold nodOkI at h1
  by_cases hk : (nodeAt f.nodes i).kind = 0
  · rw [if_pos hk] at h1
    simp only [Bool.and_eq_true, beq_iff_eq] at h1
    rw [h1.1, h1.2.1, h1.2.2.1]
    exact ⟨by decide, by decide, by decide⟩
  · rw [if_neg hk] at h1
    simp only [Bool.and_eq_true] at h1
    exact ⟨h1.1, h1.2.1, h1.2.2.1⟩
/-- What ReadFile tells: a text and a code. -/
def rfT0 (ns : List Nod) (u g : Int) (l : List UInt8) : List UInt8 := if (filW ns u g l 4).1 = 0 then (nodeAt ns (filW ns u g l 4).2).data else []
noncomputable def rfT (f : FsD) (u g : Int) (l : List UInt8) : List UInt8 := if askB4 f u g = true then rfT0 f.nodes u g l else []
noncomputable def rfC (f : FsD) (u g : Int) (l : List UInt8) : Int := if askB4 f u g = true then (filW f.nodes u g l 4).1 else 0
end Go.Proofs.YtjomkjnpflebaaaGreatDoor


/-
  What SetMode and SetTime answer, as plain data; the model's side.
  Conditions: at most 2^20 values and letters together; texts of at most 2^20 bytes.
-/
namespace Go.Proofs.YtjomkjnpflebaaaGreatDoor
open Go.ChangeShapes Go.WideShapes Go.ChangeAt Go.RowKit Go.Joins
set_option linter.unusedVariables false
set_option linter.unusedSimpArgs false

theorem l4Find_isM {f : FsD} {v : Value} {u g : Int} {s : ByteArray} {fol : Bool} {w : World} {cd : Int} {nd : Nat} (h : lkFind f.nodes u g s.data.toList fol = (cd, nd)) (hR : FsA w v f) (hF : LookFs f) (hLL : LinkLen f.nodes) (hs : s.size ≤ 1073741824) :
    Calls Tryz.prog 71 #[v, .agg #[.int .i64 u, .int .i64 g], .string s, .bool fol] w fun e w' => e = .returned (.tuple #[.int .i64 (nd : Int), .int .i64 cd]) ∧ Below w.heap.size w w' := by
  have := l4Find_any f v u g s fol w hR hF hLL hs
  rw [h] at this
  exact this
theorem l4Asked_isM {f : FsD} {v : Value} {u g : Int} {w : World} {b : Bool} (h : askB4 f u g = b) (hR : FsA w v f) (hs : szF f ≤ 1048576) : Calls Tryz.prog 53 #[v, .agg #[.int .i64 u, .int .i64 g]] w fun e w' => e = .returned (.bool b) ∧ Below w.heap.size w w' := by
  rw [← h]; exact l4Asked_any f v u g w hR hs
theorem m3_0 (w : World) (a b c : Obj) : (((w.alloc a).alloc b).alloc c).heap[w.heap.size]? = some a := by
  rw [Below.heap_alloc _ c _ (by simp; omega), Below.heap_alloc _ b _ (by simp)]; exact heap_alloc_new w a
theorem m3_1 (w : World) (a b c : Obj) : (((w.alloc a).alloc b).alloc c).heap[w.heap.size + 1]? = some b := by
  rw [Below.heap_alloc _ c _ (by simp)]
  have h := heap_alloc_new (w.alloc a) b
  rw [World.size_alloc] at h; exact h
theorem m3_2 (w : World) (a b c : Obj) : (((w.alloc a).alloc b).alloc c).heap[w.heap.size + 2]? = some c := by
  have h := heap_alloc_new ((w.alloc a).alloc b) c
  rw [World.size_alloc, World.size_alloc] at h; exact h

def fs0 : FsD := ⟨[], 0⟩
/-- A file system with one node turned, where the code is 0 and the arguments are as asked. -/
def setF (ask : Bool) (f : FsD) (r : Int × Nat) (h : Nod → Nod) : FsD := if ask = true then (if r.1 = 0 then ⟨f.nodes.set r.2 (h (nodeAt f.nodes r.2)), f.room⟩ else f) else fs0
def setC (ask : Bool) (r : Int × Nat) : Int := if ask = true then r.1 else 0
theorem setF_no {f : FsD} {r : Int × Nat} {h : Nod → Nod} : setF false f r h = fs0 := rfl
theorem setF_yes {f : FsD} {nd : Nat} {h : Nod → Nod} : setF true f (0, nd) h = ⟨f.nodes.set nd (h (nodeAt f.nodes nd)), f.room⟩ := rfl
theorem setF_bad {f : FsD} {r : Int × Nat} {h : Nod → Nod} (hr : r.1 ≠ 0) : setF true f r h = f := by unfold setF; rw [if_pos rfl, if_neg hr]
theorem setF_fit {ask : Bool} {f : FsD} {r : Int × Nat} {h : Nod → Nod} (hf : NodsFit f.nodes) (hd : ∀ n : Nod, n.data.length ≤ maxLen → (h n).data.length ≤ maxLen) (hl : ∀ n : Nod, (h n).list = n.list) : NodsFit (setF ask f r h).nodes := by
  unfold setF
  split
  · split
    · intro n hn
      by_cases hi : r.2 < f.nodes.length
      · rcases List.mem_or_eq_of_mem_set hn with h1 | rfl
        · exact hf _ h1
        · have h2 := hf (nodeAt f.nodes r.2) (by rw [show nodeAt f.nodes r.2 = f.nodes[r.2] from getD_at hi]; exact List.getElem_mem hi)
          exact ⟨hd _ h2.1, by rw [hl]; exact h2.2⟩
      · rw [List.set_eq_of_length_le (by omega)] at hn
        exact hf _ hn
    · exact hf
  · intro n hn; cases hn
theorem setF_cnt {ask : Bool} {f : FsD} {r : Int × Nat} {h : Nod → Nod} (hs : szF f ≤ 1048576) (hl : ∀ n : Nod, (h n).list = n.list) : cntM ((setF ask f r h).nodes.map fun n => n.list.length) ≤ 80000000 := by
  have h0 : cntM (f.nodes.map fun n => n.list.length) ≤ 80000000 := by
    have h1 := cnt_le f.nodes
    unfold szF at hs
    omega
  unfold setF
  split
  · split
    · have e : ((f.nodes.set r.2 (h (nodeAt f.nodes r.2))).map fun n => n.list.length) = f.nodes.map fun n => n.list.length := by
        rw [List.map_set, hl]
        by_cases hi : r.2 < f.nodes.length
        · rw [show nodeAt f.nodes r.2 = f.nodes[r.2] from getD_at hi]
          apply List.ext_getElem (by simp)
          intro i h1 h2
          rw [List.getElem_set]
          split
          · rename_i h3; subst h3; simp
          · rfl
        · exact List.set_eq_of_length_le (by simp; omega)
      simp only [e]; exact h0
    · exact h0
  · exact Nat.zero_le _
/-- Whom a path leads to, for an owner. -/
def ownW (ns : List Nod) (u g : Int) (l : List UInt8) : Int × Nat :=
  if (lkFind ns u g l true).1 ≠ 0 then ((lkFind ns u g l true).1, 0) else if u ≠ 0 ∧ u ≠ (nodeAt ns (lkFind ns u g l true).2).uid then (4, 0) else (0, (lkFind ns u g l true).2)
noncomputable def askT (f : FsD) (u g t : Int) : Bool := askB4 f u g && inB 0 1000000 t
noncomputable def askMd (f : FsD) (u g m : Int) : Bool := askB4 f u g && inB 0 511 m
/-- One node of a file system of the call's own is written into. -/
theorem Own.turn {w : World} {R g cap : Nat} {ps : List (Nod × Value)} (h : Own w R (.slice (some ⟨g, 0, none⟩) ps.length cap) ps) {i j : Nat} (hi : i < ps.length) (hj : j < 7) (u : Value) (q : Nod)
    (hq : (nodV ps[i]).set j u = nodV (q, ps[i].2)) (hl : q.list = ps[i].1.list) :
    Own (w.setCell ⟨g, i * 7 + j, none⟩ u) R (.slice (some ⟨g, 0, none⟩) ps.length cap) (ps.set i (q, ps[i].2)) := by
  refine (h.put hi hj u (q, ps[i].2) hq ?_ ?_).1
  · simp only; rw [hl]; exact h.ent _ (List.getElem_mem hi)
  · refine dist_set h.dist fun j2 hj2 hne => ?_
    exact h.dist i j2 hi hj2 (Ne.symm hne)
theorem map_turn {ps : List (Nod × Value)} {ns : List Nod} (h : ps.map Prod.fst = ns) {i : Nat} (q : Nod) (lv : Value) : (ps.set i (q, lv)).map Prod.fst = ns.set i q := by rw [List.map_set, h]
theorem at_map {ps : List (Nod × Value)} {ns : List Nod} (h : ps.map Prod.fst = ns) {i : Nat} (hi : i < ps.length) : ps[i].1 = nodeAt ns i := by
  subst h
  rw [show nodeAt (ps.map Prod.fst) i = (ps.map Prod.fst)[i]'(by simpa using hi) from getD_at (by simpa using hi)]; simp

theorem l5Asked_is {f : FsD} {v : Value} {u g t : Int} {w : World} {b : Bool} (h : askT f u g t = b) (hR : FsA w v f) (hs : szF f ≤ 1048576) : Calls Tryz.prog 31 #[v, .agg #[.int .i64 u, .int .i64 g], .int .i64 t] w fun e w' => e = .returned (.bool b) ∧ Below w.heap.size w w' := by
  have HR := Lib.hid hR
  obtain ⟨nv, rfl, hN⟩ := hR
  obtain ⟨o, c, rfl, hm, hH⟩ := hN
  have HB0 : Hid (Below w.heap.size w ((w.alloc (.cells #[.slice o f.nodes.length c, .int .i64 f.room] 30)).alloc (.cells #[.int .i64 u, .int .i64 g] 34))) := Lib.hid (((Below.refl _ _).alloc (Nat.le_refl _) _).alloc (by simp) _)
  have HS := Lib.hid hs
  cases hk : askB4 f u g with
  | false =>
    have HK := Lib.hid hk
    have HV : Hid (b = false) := Lib.hid (by rw [← h]; unfold askT; rw [hk]; rfl)
    clear hk h hs hH
    go_enter Tryz.func31, Tryz.ntmps31
    go_wp2_with fail
    refine (l4Asked_isM HK.out (HR.out.below HB0.out) HS.out).mono ?_
    rintro e w1 ⟨rfl, hb1⟩
    have HB1 := Lib.hid (HB0.out.trans (hb1.mono HB0.out.size))
    clear hb1
    go_wp2
    go_ret
    exact ⟨ret_bool HV.out.symm, HB1.out⟩
  | true =>
    have HK := Lib.hid hk
    have HV : Hid (b = inB 0 1000000 t) := Lib.hid (by rw [← h]; unfold askT; rw [hk]; rfl)
    clear hk h hs hH
    go_enter Tryz.func31, Tryz.ntmps31
    go_wp2_with fail
    refine (l4Asked_isM HK.out (HR.out.below HB0.out) HS.out).mono ?_
    rintro e w1 ⟨rfl, hb1⟩
    have HB1 := Lib.hid (HB0.out.trans (hb1.mono HB0.out.size))
    clear hb1
    go_wp2_with (go_at_call 54; refine (l1In_any _ _ _ _).mono ?_; rintro e w' ⟨rfl, rfl⟩)
    all_goals
      go_ret
      exact ⟨ret_bool (by rw [HV.out]), HB1.out⟩

end Go.Proofs.YtjomkjnpflebaaaGreatDoor


/-
  A draft: where a path's name is (spotAt), the node of a name (nodeOf), whether the directory may be changed (checkChange).
  Conditions: at most 2^20 values and letters together; a good file system and cred.
-/
namespace Go.Proofs.YtjomkjnpflebaaaGreatDoor
open Go.ChangeShapes Go.WideShapes Go.ChangeAt Go.RowKit Go.Joins
set_option linter.unusedVariables false
set_option linter.unusedSimpArgs false

theorem errV_nil (q : ByteArray) : errV q 0 = .nilIface := rfl
/-- What a draft's box holds, and its file system in rows of the call's own. -/
structure Drf (w : World) (d R : Nat) (nv : Value) (ps : List (Nod × Value)) (f : FsD) (u g t : Int) : Prop where
  box : w.heap[d]? = some (.cells #[nv, .int .i64 f.room, .int .i64 u, .int .i64 g, .int .i64 t] 89)
  map : ps.map Prod.fst = f.nodes
  own : Own w R nv ps
  fit : NodsFit f.nodes
theorem Drf.below {w w' : World} {d R : Nat} {nv : Value} {ps : List (Nod × Value)} {f : FsD} {u g t : Int} (h : Drf w d R nv ps f u g t) (hb : Below w.heap.size w w') : Drf w' d R nv ps f u g t :=
  ⟨blk_step hb h.box, h.map, h.own.below hb, h.fit⟩
theorem Drf.fsA {w : World} {d R : Nat} {nv : Value} {ps : List (Nod × Value)} {f : FsD} {u g t : Int} (h : Drf w d R nv ps f u g t) : FsA w (.agg #[nv, .int .i64 f.room]) f := by
  have h1 := h.own.read f.room (by rw [h.map]; exact h.fit)
  rw [h.map] at h1; exact h1
theorem Drf.len {w : World} {d R : Nat} {nv : Value} {ps : List (Nod × Value)} {f : FsD} {u g t : Int} (h : Drf w d R nv ps f u g t) : ps.length = f.nodes.length := by rw [← h.map]; simp

set_option maxRecDepth 100000 in
set_option maxHeartbeats 8000000 in
theorem spotAt_is (f : FsD) (u g t : Int) (s : ByteArray) (cd : Int) (nd : Nat) (nm : List UInt8) (hfp : fp0 f.nodes u g s.data.toList = (cd, nd, nm)) (hs : szF f ≤ 1048576) (hk : askB4 f u g = true) (hss : s.size ≤ 1048576)
    (d R : Nat) (nv : Value) (ps : List (Nod × Value)) (w : World) (hD : Drf w d R nv ps f u g t) :
    Calls Tryz.prog 81 #[.pointer (some ⟨d, 0, none⟩), .string s] w fun e w' => ∃ q, e = .returned (.tuple #[.agg #[.int .i64 nd, .string (bs nm)], errV q cd]) ∧ Below w.heap.size w w' := by
  obtain ⟨oo, cc, rfl, -⟩ := owns_form hD.own.row
  have HD := Lib.hid hD
  have HFD := Lib.hid hfp
  have HS := Lib.hid hs
  have HK := Lib.hid hk
  have HSS := Lib.hid hss
  have hb0 : Below w.heap.size w (w.alloc (.cells #[.int .i64 0, .string ⟨#[]⟩] 96)) := (Below.refl _ _).alloc (Nat.le_refl _) _
  have HK0 := Lib.hid hb0
  have KB0 := Lib.hid (heap_alloc_new w (.cells #[.int .i64 0, .string ⟨#[]⟩] 96))
  obtain ⟨W0, hW0⟩ : ∃ W0, W0 = w.alloc (.cells #[.int .i64 0, .string ⟨#[]⟩] 96) := ⟨_, rfl⟩
  have HFA : Hid (FsA w (.agg #[.slice oo ps.length cc, .int .i64 f.room]) f) := Lib.hid hD.fsA
  have KS : Hid (∀ W, Below w.heap.size w W → (fun w' => w'.cell? ⟨d, 0, none⟩ = some (.slice oo ps.length cc) ∧ w'.cell? ⟨d, 1, none⟩ = some (.int .i64 f.room) ∧ w'.cell? ⟨d, 2, none⟩ = some (.int .i64 u) ∧ w'.cell? ⟨d, 3, none⟩ = some (.int .i64 g)) W) := Lib.hid (fun W h => ⟨(cell_blk (blk_step h HD.out.box) 0).trans rfl, (cell_blk (blk_step h HD.out.box) 1).trans rfl, (cell_blk (blk_step h HD.out.box) 2).trans rfl, (cell_blk (blk_step h HD.out.box) 3).trans rfl⟩)
  have hW1 : w.heap.size < W0.heap.size := by rw [hW0, World.size_alloc]; exact Nat.lt_succ_self _
  rw [← hW0] at HK0 KB0
  have HWX := Lib.hid hW0
  clear hD hfp hs hk hss hb0 hW0
  go_enter Tryz.func81, Tryz.ntmps81
  go_wp2
  rw [← HWX.out]
  go_region_held3 (fun w' => w'.cell? ⟨d, 0, none⟩ = some (.slice oo ps.length cc) ∧ w'.cell? ⟨d, 1, none⟩ = some (.int .i64 f.room) ∧ w'.cell? ⟨d, 2, none⟩ = some (.int .i64 u) ∧ w'.cell? ⟨d, 3, none⟩ = some (.int .i64 g)) (first | exact KS.out _ (by (first | (with_reducible exact HK0.out) | (with_reducible exact bel_dr HK0.out) | (with_reducible exact HKa.out) | (with_reducible exact bel_dr HKa.out))))
    (first | (go_at_call 116; (with_reducible refine (placeAt_is HFD.out (HFA.out.below (by (first | (with_reducible exact HK0.out) | (with_reducible exact bel_dr HK0.out)))) HS.out HK.out HSS.out).mono ?_); rintro e wa ⟨qa, rfl, hba⟩; have HKa := Lib.hid (bel_both (w := w) (by (first | (with_reducible exact HK0.out) | (with_reducible exact bel_dr HK0.out))) hba).2; have HZa := Lib.hid (blk_step hba (show _ = some (Obj.cells #[.int .i64 0, .string ⟨#[]⟩] 96) from KB0.out)); clear hba))
  obtain ⟨ev, hev⟩ : ∃ ev, ev = errV qa cd := ⟨_, rfl⟩
  rw [← hev]
  have HEV := Lib.hid hev
  obtain ⟨xn, hxn⟩ : ∃ xn, xn = bs nm := ⟨_, rfl⟩
  rw [← hxn]
  have HXN := Lib.hid hxn
  clear hev hxn
  have z0 := (cell_blk HZa.out 0).trans rfl
  have z1 := (cell_blk HZa.out 1).trans rfl
  have zf := frozen_blk HZa.out
  go_wp2
  have hq := two_set HZa.out (.int .i64 nd) (.string xn)
  have t0 := (cell_blk hq 0).trans rfl
  have t1 := (cell_blk hq 1).trans rfl
  refine bodyPost_ret (v := .tuple #[.agg #[.int .i64 nd, .string xn], ev]) (by simp [results, Tryz.results81, go_sem, t0, t1]) rfl ?_
  exact ⟨qa, by rw [HXN.out, HEV.out], bel_set2 HKa.out (Nat.le_refl _)⟩

set_option maxRecDepth 100000 in
set_option maxHeartbeats 8000000 in
theorem nodeOf_is (f : FsD) (u g t : Int) (up : Nat) (nm : List UInt8) (b : Bool) (y : Int) (hup : up < f.nodes.length) (hb : isE (nodeAt f.nodes up).list nm = b) (hy : nbN (nodeAt f.nodes up).list nm = y) (hs : szF f ≤ 1048576) (hr : Rise (nodeAt f.nodes up).list)
    (d R : Nat) (nv : Value) (ps : List (Nod × Value)) (w : World) (hD : Drf w d R nv ps f u g t) :
    Calls Tryz.prog 84 #[.pointer (some ⟨d, 0, none⟩), .agg #[.int .i64 up, .string (bs nm)]] w fun e w' => e = .returned (.tuple #[.int .i64 (if b = true then y else 0), if b = true then .nilIface else codeV 2]) ∧ Below w.heap.size w w' := by
  obtain ⟨oo, cc, rfl, -⟩ := owns_form hD.own.row
  have HD := Lib.hid hD
  have hul : up < ps.length := by rw [hD.len]; exact hup
  have hpl : ps.length ≤ 1048576 := by rw [hD.len]; exact (lists_small hs).1
  have HFA : Hid (FsA w (.agg #[.slice oo ps.length cc, .int .i64 f.room]) f) := Lib.hid hD.fsA
  obtain ⟨G, cap, e0, hRG, hGl, hnc, hm, hc, hfr⟩ := hD.own.at hul
  simp only [Value.slice.injEq, true_and] at e0
  obtain ⟨rfl, rfl⟩ := e0
  have hq1 : ps[up].1 = nodeAt f.nodes up := at_map hD.map hul
  have hnm : nodeAt f.nodes up ∈ f.nodes := by rw [show nodeAt f.nodes up = f.nodes[up] from getD_at hup]; exact List.getElem_mem hup
  have HEA : Hid (EntsA w ps[up].2 (nodeAt f.nodes up).list) := Lib.hid (by rw [← hq1]; exact (hD.own.ent _ (List.getElem_mem hul)).readM (by rw [hq1]; exact (hD.fit _ hnm).2))
  have HNC : Hid (NodC w G (up * 7) ps[up].2 (nodeAt f.nodes up)) := Lib.hid (by rw [← hq1]; exact hc)
  obtain ⟨xn, hxn⟩ : ∃ xn, xn = bs nm := ⟨_, rfl⟩
  have hxl : xn.data.toList = nm := by rw [hxn]; exact bs_list _
  have HNB : Hid (∀ W, Below w.heap.size w W → Calls Tryz.prog 119 #[.pointer (some ⟨G, up * 7, none⟩), .string xn] W fun e w' => e = .returned (.tuple #[.int .i64 y, .bool b]) ∧ Below W.heap.size W w') := Lib.hid (fun W h => by
    have := nodeByName_any (nodeAt f.nodes up) G (up * 7) _ xn W (Nat.lt_of_lt_of_le hGl h.size) (HNC.out.below h hGl) (HEA.out.below h) ((lists_small hs).2 _ hnm).1 hr
    rw [hxl, hb, hy] at this
    exact this)
  rw [← hxn]
  have hb0 : Below w.heap.size w (w.alloc (.cells #[.int .i64 up, .string xn] 96)) := (Below.refl _ _).alloc (Nat.le_refl _) _
  have HK0 := Lib.hid hb0
  have KB0 := Lib.hid (heap_alloc_new w (.cells #[.int .i64 up, .string xn] 96))
  obtain ⟨W0, hW0⟩ : ∃ W0, W0 = w.alloc (.cells #[.int .i64 up, .string xn] 96) := ⟨_, rfl⟩
  rw [← hW0] at HK0 KB0
  have KS : Hid (∀ W, Below W0.heap.size W0 W → (fun w' => w'.cell? ⟨d, 0, none⟩ = some (.slice (some ⟨G, 0, none⟩) ps.length cc) ∧ w'.cell? ⟨w.heap.size, 0, none⟩ = some (.int .i64 up) ∧ w'.cell? ⟨w.heap.size, 1, none⟩ = some (.string xn)) W) := Lib.hid (fun W h => ⟨(cell_blk (blk_step (bel_step HK0.out h) HD.out.box) 0).trans rfl, (cell_blk (blk_step h KB0.out) 0).trans rfl, (cell_blk (blk_step h KB0.out) 1).trans rfl⟩)
  have HZ0 : Hid (Below W0.heap.size W0 W0) := Lib.hid (Below.refl _ _)
  have HWX := Lib.hid hW0
  clear hD hs hr hb0 hW0 hxl hxn hb hy hq1 hnm hc hfr
  go_enter Tryz.func84, Tryz.ntmps84
  go_wp2
  rw [← HWX.out]
  go_region_held3 (fun w' => w'.cell? ⟨d, 0, none⟩ = some (.slice (some ⟨G, 0, none⟩) ps.length cc) ∧ w'.cell? ⟨w.heap.size, 0, none⟩ = some (.int .i64 up) ∧ w'.cell? ⟨w.heap.size, 1, none⟩ = some (.string xn)) (first | exact KS.out _ (by (first | (with_reducible exact HZ0.out) | (with_reducible exact bel_dr HZ0.out) | (with_reducible exact HZa.out) | (with_reducible exact bel_dr HZa.out))))
    (first | (go_at_call 119; (with_reducible refine (HNB.out _ (by (first | (with_reducible exact HK0.out) | (with_reducible exact bel_dr HK0.out)))).mono ?_); rintro e wa ⟨rfl, hba⟩; have HKa := Lib.hid (bel_both (w := w) (by (first | (with_reducible exact HK0.out) | (with_reducible exact bel_dr HK0.out))) hba).2; have HZa : Hid (Below W0.heap.size W0 wa) := Lib.hid (by first | (with_reducible exact hba) | exact (Below.refl _ W0).drew.trans hba); clear hba))
  cases b with
  | true =>
    go_wp2
    go_ret2
    exact ⟨rfl, HKa.out⟩
  | false =>
    go_wp2
    go_ret2
    exact ⟨rfl, HKa.out⟩

set_option maxRecDepth 100000 in
set_option maxHeartbeats 8000000 in
theorem checkChange_is (f : FsD) (u g t : Int) (up : Nat) (nm : List UInt8) (E : Value) (hup : up < f.nodes.length) (hE : errC (dirC (nodeAt f.nodes up) u g 3) = E) (hs : szF f ≤ 1048576) (hk : askB4 f u g = true)
    (d R : Nat) (nv : Value) (ps : List (Nod × Value)) (w : World) (hD : Drf w d R nv ps f u g t) :
    Calls Tryz.prog 85 #[.pointer (some ⟨d, 0, none⟩), .agg #[.int .i64 up, .string (bs nm)]] w fun e w' => e = .returned E ∧ Below w.heap.size w w' := by
  obtain ⟨oo, cc, rfl, -⟩ := owns_form hD.own.row
  have HD := Lib.hid hD
  have hul : up < ps.length := by rw [hD.len]; exact hup
  have hpl : ps.length ≤ 1048576 := by rw [hD.len]; exact (lists_small hs).1
  obtain ⟨G, cap, e0, hRG, hGl, hnc, hm, hc, hfr⟩ := hD.own.at hul
  simp only [Value.slice.injEq, true_and] at e0
  obtain ⟨rfl, rfl⟩ := e0
  have hq1 : ps[up].1 = nodeAt f.nodes up := at_map hD.map hul
  have HNC : Hid (NodC w G (up * 7) ps[up].2 (nodeAt f.nodes up)) := Lib.hid (by rw [← hq1]; exact hc)
  obtain ⟨xn, hxn⟩ : ∃ xn, xn = bs nm := ⟨_, rfl⟩
  have HCK : Hid (∀ W, Below w.heap.size w W → Calls Tryz.prog 111 #[.pointer (some ⟨G, up * 7, none⟩), .agg #[.int .i64 u, .int .i64 g], .int .i64 3] W fun e w' => e = .returned E ∧ Below W.heap.size W w') := Lib.hid (fun W h => by
    have := checkDir_any (nodeAt f.nodes up) G (up * 7) _ u g 3 W (Nat.lt_of_lt_of_le hGl h.size) (HNC.out.below h hGl) (fun hkd => good_ask (ask_good hk) (ask_cred hk) (by decide) hup hkd)
    rw [hE] at this
    exact this)
  rw [← hxn]
  have hb0 : Below w.heap.size w (w.alloc (.cells #[.int .i64 up, .string xn] 96)) := (Below.refl _ _).alloc (Nat.le_refl _) _
  have HK0 := Lib.hid hb0
  have KB0 := Lib.hid (heap_alloc_new w (.cells #[.int .i64 up, .string xn] 96))
  obtain ⟨W0, hW0⟩ : ∃ W0, W0 = w.alloc (.cells #[.int .i64 up, .string xn] 96) := ⟨_, rfl⟩
  rw [← hW0] at HK0 KB0
  have KS : Hid (∀ W, Below W0.heap.size W0 W → (fun w' => w'.cell? ⟨d, 0, none⟩ = some (.slice (some ⟨G, 0, none⟩) ps.length cc) ∧ w'.cell? ⟨d, 2, none⟩ = some (.int .i64 u) ∧ w'.cell? ⟨d, 3, none⟩ = some (.int .i64 g) ∧ w'.cell? ⟨w.heap.size, 0, none⟩ = some (.int .i64 up)) W) := Lib.hid (fun W h => ⟨(cell_blk (blk_step (bel_step HK0.out h) HD.out.box) 0).trans rfl, (cell_blk (blk_step (bel_step HK0.out h) HD.out.box) 2).trans rfl, (cell_blk (blk_step (bel_step HK0.out h) HD.out.box) 3).trans rfl, (cell_blk (blk_step h KB0.out) 0).trans rfl⟩)
  have HZ0 : Hid (Below W0.heap.size W0 W0) := Lib.hid (Below.refl _ _)
  have HWX := Lib.hid hW0
  clear hD hs hb0 hW0 hxn hE hq1 hc hfr hk
  go_enter Tryz.func85, Tryz.ntmps85
  go_wp2
  rw [← HWX.out]
  go_region_held3 (fun w' => w'.cell? ⟨d, 0, none⟩ = some (.slice (some ⟨G, 0, none⟩) ps.length cc) ∧ w'.cell? ⟨d, 2, none⟩ = some (.int .i64 u) ∧ w'.cell? ⟨d, 3, none⟩ = some (.int .i64 g) ∧ w'.cell? ⟨w.heap.size, 0, none⟩ = some (.int .i64 up)) (first | exact KS.out _ (by (first | (with_reducible exact HZ0.out) | (with_reducible exact bel_dr HZ0.out) | (with_reducible exact HZa.out) | (with_reducible exact bel_dr HZa.out))))
    (first | (go_at_call 111; (with_reducible refine (HCK.out _ (by (first | (with_reducible exact HK0.out) | (with_reducible exact bel_dr HK0.out)))).mono ?_); rintro e wa ⟨rfl, hba⟩; have HKa := Lib.hid (bel_both (w := w) (by (first | (with_reducible exact HK0.out) | (with_reducible exact bel_dr HK0.out))) hba).2; have HZa : Hid (Below W0.heap.size W0 wa) := Lib.hid (by first | (with_reducible exact hba) | exact (Below.refl _ W0).drew.trans hba); clear hba))
  go_wp2
  go_ret
  exact ⟨rfl, HKa.out⟩
end Go.Proofs.YtjomkjnpflebaaaGreatDoor


/-
  errors.Is of nothing and of a bare code against the code EcNone.
  Conditions: none.
-/
namespace Go.Proofs.YtjomkjnpflebaaaGreatDoor
open Go.ChangeShapes Go.WideShapes Go.ChangeAt Go.RowKit Go.Joins Go.Extern.Stop Go.Stop Go.Extern
set_option linter.unusedVariables false
set_option linter.unusedSimpArgs false
set_option maxRecDepth 100000

theorem ec_mComp (h : Value) (w : World) : (Go.method 357 203 (.agg #[h]) "Comparable").run Tryz.prog w = .ok (214, .agg #[h]) w := by kernel_rfl
theorem ec_noIs (v : Value) (xT : TypeId) (w : World) : (Instr.typeAssert (.iface 94 v) xT 217 true).run Tryz.prog w = .ok (.tuple #[.nilIface, .bool false]) w :=
  run_typeAssert_lacksB Tryz.underlying217 (by kernel_rfl) (by kernel_rfl) v xT w
theorem ec_noUn (v : Value) (xT : TypeId) (w : World) : (Instr.typeAssert (.iface 94 v) xT 210 true).run Tryz.prog w = .ok (.tuple #[.nilIface, .bool false]) w :=
  run_typeAssert_lacksB Tryz.underlying210 (by kernel_rfl) (by kernel_rfl) v xT w
theorem ec_noUn2 (v : Value) (xT : TypeId) (w : World) : (Instr.typeAssert (.iface 94 v) xT 211 true).run Tryz.prog w = .ok (.tuple #[.nilIface, .bool false]) w :=
  run_typeAssert_lacksB Tryz.underlying211 (by kernel_rfl) (by kernel_rfl) v xT w
theorem ec_compE (w : World) : (ReflectliteType.method (fun t => do Rtype.noPackHeld "Comparable" t; pure (.bool (← typeInfo t).comparable)) #[.agg #[.pointer (some ⟨2, 94, none⟩)]]).run Tryz.prog w = .ok (.bool true) w := by kernel_rfl
theorem ec_compF (w : World) : (ReflectliteType.method (fun t => do Rtype.noPackHeld "Comparable" t; (fun a : TypeInfo => Value.bool a.comparable) <$> typeInfo t) #[.agg #[.pointer (some ⟨2, 94, none⟩)]]).run Tryz.prog w = .ok (.bool true) w := by kernel_rfl
theorem eql_code (c d : Int) (w : World) : (binOp .eql 63 (.iface 94 (.agg #[.int .i64 c])) (.iface 94 (.agg #[.int .i64 d]))).run Tryz.prog w = .ok (.bool (c == d)) w := by
  have u3 := Tryz.underlying3
  have a3 := Tryz.isAgg3
  have z3 := Tryz.sizeOf3
  have hS : Tryz.prog.underlying 94 = some (.struct (Tryz.prog.fieldsOf 94)) := by kernel_rfl
  have hp : Tryz.prog.stoodInHeld 94 = false := by kernel_rfl
  have hc : (Tryz.prog.info? 94).map (·.comparable) = some true := by kernel_rfl
  have h : (Op.equalIn 9999 94 (.agg #[.int .i64 c]) (.agg #[.int .i64 d])).run Tryz.prog w = .ok (c == d) w := by
    rw [show (9999 : Nat) = 9998 + 1 from rfl, run_equalIn_agg w 9998 94 _ _ hS hp]
    simp only [Program.fieldsOf, Tryz.underlying94]
    go_simp
    by_cases h1 : c = d <;> simp [h1]
  cases hi : Tryz.prog.info? 94 with
  | none => simp [hi] at hc
  | some i =>
    have hcc : i.comparable = true := by simpa [hi] using hc
    have h2 : (Op.equalIn 10000 63 (.iface 94 (.agg #[.int .i64 c])) (.iface 94 (.agg #[.int .i64 d]))).run Tryz.prog w = .ok (c == d) w := by
      rw [show (10000 : Nat) = 9999 + 1 from rfl, Op.equalIn]
      simp [run_underlying Tryz.underlying63, typeInfo, hi, hcc, h]
    simp only [binOp]
    simp [Op.equal, Op.maxDepth, h2]

theorem is_none (w : World) : Calls Tryz.prog 112 #[.nilIface, codeV 2] w fun e w' => e = .returned (.bool false) ∧ w = w' := by
  have en : ∀ (v : Value) (w : World), (binOp .eql 63 .nilIface (.iface 94 v)).run Tryz.prog w = .ok (.bool false) w := fun v w => by kernel_rfl
  unfold codeV
  go_enter Tryz.func112, Tryz.ntmps112
  go_wp2
  go_ret
  exact ⟨rfl, rfl⟩

set_option maxHeartbeats 4000000 in
theorem isIn_same (c : Int) (hc2 : (c == 2) = true) (w : World) : Calls Tryz.prog 146 #[codeV c, codeV 2, .bool true] w fun e w' => e = .returned (.bool true) ∧ Below w.heap.size w w' := by
  have eq := eql_code
  unfold codeV
  go_enter Tryz.func146, Tryz.ntmps146
  go_wp2
  refine wp_loop_rounds 1 ?_
  rw [rounds_succ]
  go_wp2
  refine bodyPost_ret (v := .bool true) (by simp [results, Tryz.results146, go_sem]) rfl ?_
  exact ⟨rfl, Below.refl _ _⟩
set_option maxHeartbeats 4000000 in
theorem isIn_else (c : Int) (hc : c ≠ 2) (w : World) : Calls Tryz.prog 146 #[codeV c, codeV 2, .bool true] w fun e w' => e = .returned (.bool false) ∧ Below w.heap.size w w' := by
  have n1 := ec_noIs
  have n2 := ec_noUn
  have n3 := ec_noUn2
  have hc2 : (c == 2) = false := by simpa using hc
  have eq := eql_code
  unfold codeV
  go_enter Tryz.func146, Tryz.ntmps146
  go_wp2
  refine wp_loop_rounds 1 ?_
  rw [rounds_succ]
  go_wp2
  go_ret
  exact ⟨rfl, Below.refl _ _⟩

set_option maxHeartbeats 4000000 in
theorem is_code (c : Int) (w : World) : Calls Tryz.prog 112 #[codeV c, codeV 2] w fun e w' => e = .returned (.bool (c == 2)) ∧ Below w.heap.size w w' := by
  have hI : ∀ w, Calls Tryz.prog 146 #[codeV c, codeV 2, .bool true] w fun e w' => e = .returned (.bool (c == 2)) ∧ Below w.heap.size w w' := fun w => by
    by_cases h : c = 2
    · subst h; exact isIn_same 2 rfl w
    · have : (c == 2) = false := by simpa using h
      rw [this]; exact isIn_else c h w
  have HI := Lib.hid hI
  clear hI
  obtain ⟨b, hb⟩ : ∃ b, b = (c == 2) := ⟨_, rfl⟩
  rw [← hb] at HI ⊢
  clear hb
  have h10 := @run_callFunc_extern Tryz.prog 145 _ ReflectliteType.typeOf Tryz.func145 (by kernel_rfl) (by kernel_rfl) (by kernel_rfl) (by kernel_rfl)
  have h11 := @run_callFunc_extern Tryz.prog 214 _ (ReflectliteType.method (fun t => do Rtype.noPackHeld "Comparable" t; pure (.bool (← typeInfo t).comparable))) Tryz.func214 (by kernel_rfl) (by kernel_rfl) (by kernel_rfl) (by kernel_rfl)
  have tE := ec_typeOfE
  have mC := ec_mComp
  have cE := ec_compE
  have cF := ec_compF
  unfold codeV at HI ⊢
  go_enter Tryz.func112, Tryz.ntmps112
  go_wp2_with (go_at_call 146; refine (HI.out _).mono ?_)
  rintro e w1 ⟨rfl, hb1⟩
  go_wp2
  go_ret
  exact ⟨rfl, hb1⟩
end Go.Proofs.YtjomkjnpflebaaaGreatDoor


/-
  A draft: a name that is not there yet, in a directory that may be changed (freeSpotAt).
  Conditions: at most 2^20 values and letters together; a good file system and cred.
-/
namespace Go.Proofs.YtjomkjnpflebaaaGreatDoor
open Go.ChangeShapes Go.WideShapes Go.ChangeAt Go.RowKit Go.Joins
set_option linter.unusedVariables false
set_option linter.unusedSimpArgs false

set_option maxRecDepth 100000 in
set_option maxHeartbeats 8000000 in
theorem freeSpot_bad (f : FsD) (u g t : Int) (s : ByteArray) (cd : Int) (nd : Nat) (nm : List UInt8) (hfp : fp0 f.nodes u g s.data.toList = (cd, nd, nm)) (hc : cd ≠ 0) (hs : szF f ≤ 1048576) (hk : askB4 f u g = true) (hss : s.size ≤ 1048576)
    (d R : Nat) (nv : Value) (ps : List (Nod × Value)) (w : World) (hD : Drf w d R nv ps f u g t) :
    Calls Tryz.prog 78 #[.pointer (some ⟨d, 0, none⟩), .string s] w fun e w' => ∃ q, e = .returned (.tuple #[.agg #[.int .i64 0, .string ⟨#[]⟩], errV q cd]) ∧ Below w.heap.size w w' := by
  have HD := Lib.hid hD
  have HFD := Lib.hid hfp
  have HS := Lib.hid hs
  have HK := Lib.hid hk
  have HSS := Lib.hid hss
  have HC := Lib.hid hc
  have HB0 : Hid (Below w.heap.size w (w.alloc (.cells #[.int .i64 0, .string ⟨#[]⟩] 96))) := Lib.hid ((Below.refl _ _).alloc (Nat.le_refl _) _)
  have KB0 := Lib.hid (heap_alloc_new w (.cells #[.int .i64 0, .string ⟨#[]⟩] 96))
  clear hD hfp hs hk hss hc
  go_enter Tryz.func78, Tryz.ntmps78
  go_wp2_with fail
  refine (spotAt_is f u g t s cd nd nm HFD.out HS.out HK.out HSS.out d R nv ps _ (HD.out.below HB0.out)).mono ?_
  rintro e w1 ⟨q, rfl, hb1⟩
  have HE := Lib.hid (errV_not q HC.out)
  rw [HE.out]
  have HB1 := Lib.hid (HB0.out.trans (hb1.mono HB0.out.size))
  have KZ1 := Lib.hid (blk_step hb1 KB0.out)
  obtain ⟨xn, hxn⟩ : ∃ xn, xn = bs nm := ⟨_, rfl⟩
  rw [← hxn]
  clear hb1 hxn
  have HB2 := Lib.hid (HB1.out.alloc HB1.out.size (.cells #[.int .i64 nd, .string xn] 96))
  have KZ2 := Lib.hid ((Below.heap_alloc w1 (.cells #[.int .i64 nd, .string xn] 96) _ (lt_of_heap KZ1.out)).trans KZ1.out)
  have z0 := (cell_blk KZ2.out 0).trans rfl
  have z1 := (cell_blk KZ2.out 1).trans rfl
  have zf := frozen_blk KZ2.out
  go_wp2
  have hq := two_set KZ2.out (.int .i64 0) (.string ⟨#[]⟩)
  have t0 := (cell_blk hq 0).trans rfl
  have t1 := (cell_blk hq 1).trans rfl
  refine bodyPost_ret (v := .tuple #[.agg #[.int .i64 0, .string ⟨#[]⟩], .iface 131 (.agg #[.string q, .iface 94 (.agg #[.int .i64 cd])])]) (by simp [results, Tryz.results78, go_sem, t0, t1]) rfl ?_
  exact ⟨q, by rw [HE.out], bel_set2 HB2.out (Nat.le_refl _)⟩

set_option maxRecDepth 100000 in
set_option maxHeartbeats 8000000 in
theorem freeSpot_there (f : FsD) (u g t : Int) (s : ByteArray) (up : Nat) (nm : List UInt8) (hfp : fp0 f.nodes u g s.data.toList = (0, up, nm)) (hup : up < f.nodes.length) (hb : isE (nodeAt f.nodes up).list nm = true) (hr : Rise (nodeAt f.nodes up).list) (hs : szF f ≤ 1048576) (hk : askB4 f u g = true) (hss : s.size ≤ 1048576)
    (d R : Nat) (nv : Value) (ps : List (Nod × Value)) (w : World) (hD : Drf w d R nv ps f u g t) :
    Calls Tryz.prog 78 #[.pointer (some ⟨d, 0, none⟩), .string s] w fun e w' => e = .returned (.tuple #[.agg #[.int .i64 0, .string ⟨#[]⟩], codeV 6]) ∧ Below w.heap.size w w' := by
  have HD := Lib.hid hD
  have HFD := Lib.hid hfp
  have HS := Lib.hid hs
  have HK := Lib.hid hk
  have HSS := Lib.hid hss
  have HI := Lib.hid hb
  have HRI := Lib.hid hr
  have HB0 : Hid (Below w.heap.size w (w.alloc (.cells #[.int .i64 0, .string ⟨#[]⟩] 96))) := Lib.hid ((Below.refl _ _).alloc (Nat.le_refl _) _)
  have KB0 := Lib.hid (heap_alloc_new w (.cells #[.int .i64 0, .string ⟨#[]⟩] 96))
  obtain ⟨xn, hxn⟩ : ∃ xn, xn = bs nm := ⟨_, rfl⟩
  have HSP := Lib.hid (fun W (h : Drf W d R nv ps f u g t) => spotAt_is f u g t s 0 up nm HFD.out HS.out HK.out HSS.out d R nv ps W h)
  have HNO := Lib.hid (fun W (h : Drf W d R nv ps f u g t) => nodeOf_is f u g t up nm true _ hup HI.out rfl HS.out HRI.out d R nv ps W h)
  rw [← hxn] at HSP HNO
  obtain ⟨y, hy⟩ : ∃ y, y = nbN (nodeAt f.nodes up).list nm := ⟨_, rfl⟩
  rw [← hy] at HNO
  clear hD hfp hs hk hss hb hr hxn hy
  go_enter Tryz.func78, Tryz.ntmps78
  go_wp2_with fail
  refine (HSP.out _ (HD.out.below HB0.out)).mono ?_
  rintro e w1 ⟨q, rfl, hb1⟩
  rw [errV_nil]
  have HB1 := Lib.hid (HB0.out.trans (hb1.mono HB0.out.size))
  have KZ1 := Lib.hid (blk_step hb1 KB0.out)
  clear hb1
  have HB2 := Lib.hid (HB1.out.alloc HB1.out.size (.cells #[.int .i64 up, .string xn] 96))
  have KZ2 := Lib.hid ((Below.heap_alloc w1 (.cells #[.int .i64 up, .string xn] 96) _ (lt_of_heap KZ1.out)).trans KZ1.out)
  go_wp2_with fail
  refine (HNO.out _ (HD.out.below HB2.out)).mono ?_
  rintro e w3 ⟨rfl, hb3⟩
  have HB3 := Lib.hid (HB2.out.trans (hb3.mono HB2.out.size))
  have KZ3 := Lib.hid (blk_step hb3 KZ2.out)
  clear hb3
  simp only [if_true]
  have z0 := (cell_blk KZ3.out 0).trans rfl
  have z1 := (cell_blk KZ3.out 1).trans rfl
  have zf := frozen_blk KZ3.out
  go_wp2_with (go_at_call 112; refine (is_none _).mono ?_; rintro e w' ⟨rfl, rfl⟩)
  have hq := two_set KZ3.out (.int .i64 0) (.string ⟨#[]⟩)
  have t0 := (cell_blk hq 0).trans rfl
  have t1 := (cell_blk hq 1).trans rfl
  refine bodyPost_ret (v := .tuple #[.agg #[.int .i64 0, .string ⟨#[]⟩], codeV 6]) (by simp [results, codeV, Tryz.results78, go_sem, t0, t1]) rfl ?_
  exact ⟨rfl, bel_set2 HB3.out (Nat.le_refl _)⟩

set_option maxRecDepth 100000 in
set_option maxHeartbeats 8000000 in
theorem freeSpot_ask (f : FsD) (u g t : Int) (s : ByteArray) (up : Nat) (nm : List UInt8) (E : Value) (hfp : fp0 f.nodes u g s.data.toList = (0, up, nm)) (hup : up < f.nodes.length) (hb : isE (nodeAt f.nodes up).list nm = false) (hr : Rise (nodeAt f.nodes up).list) (hE : errC (dirC (nodeAt f.nodes up) u g 3) = E) (hs : szF f ≤ 1048576) (hk : askB4 f u g = true) (hss : s.size ≤ 1048576)
    (d R : Nat) (nv : Value) (ps : List (Nod × Value)) (w : World) (hD : Drf w d R nv ps f u g t) :
    Calls Tryz.prog 78 #[.pointer (some ⟨d, 0, none⟩), .string s] w fun e w' => e = .returned (.tuple #[.agg #[.int .i64 up, .string (bs nm)], E]) ∧ Below w.heap.size w w' := by
  have HD := Lib.hid hD
  have HFD := Lib.hid hfp
  have HS := Lib.hid hs
  have HK := Lib.hid hk
  have HSS := Lib.hid hss
  have HI := Lib.hid hb
  have HRI := Lib.hid hr
  have HEE := Lib.hid hE
  have HB0 : Hid (Below w.heap.size w (w.alloc (.cells #[.int .i64 0, .string ⟨#[]⟩] 96))) := Lib.hid ((Below.refl _ _).alloc (Nat.le_refl _) _)
  have KB0 := Lib.hid (heap_alloc_new w (.cells #[.int .i64 0, .string ⟨#[]⟩] 96))
  obtain ⟨xn, hxn⟩ : ∃ xn, xn = bs nm := ⟨_, rfl⟩
  have HSP := Lib.hid (fun W (h : Drf W d R nv ps f u g t) => spotAt_is f u g t s 0 up nm HFD.out HS.out HK.out HSS.out d R nv ps W h)
  have HNO := Lib.hid (fun W (h : Drf W d R nv ps f u g t) => nodeOf_is f u g t up nm false _ hup HI.out rfl HS.out HRI.out d R nv ps W h)
  have HCK := Lib.hid (fun W (h : Drf W d R nv ps f u g t) => checkChange_is f u g t up nm E hup HEE.out HS.out HK.out d R nv ps W h)
  rw [← hxn] at HSP HNO HCK ⊢
  clear hD hfp hs hk hss hb hr hxn hE
  go_enter Tryz.func78, Tryz.ntmps78
  go_wp2_with fail
  refine (HSP.out _ (HD.out.below HB0.out)).mono ?_
  rintro e w1 ⟨q, rfl, hb1⟩
  rw [errV_nil]
  have HB1 := Lib.hid (HB0.out.trans (hb1.mono HB0.out.size))
  have KZ1 := Lib.hid (blk_step hb1 KB0.out)
  clear hb1
  have HB2 := Lib.hid (HB1.out.alloc HB1.out.size (.cells #[.int .i64 up, .string xn] 96))
  have KZ2 := Lib.hid ((Below.heap_alloc w1 (.cells #[.int .i64 up, .string xn] 96) _ (lt_of_heap KZ1.out)).trans KZ1.out)
  have KO2 := Lib.hid (heap_alloc_new w1 (.cells #[.int .i64 up, .string xn] 96))
  go_wp2_with fail
  refine (HNO.out _ (HD.out.below HB2.out)).mono ?_
  rintro e w3 ⟨rfl, hb3⟩
  have HB3 := Lib.hid (HB2.out.trans (hb3.mono HB2.out.size))
  have KZ3 := Lib.hid (blk_step hb3 KZ2.out)
  have KO3 := Lib.hid (blk_step hb3 KO2.out)
  clear hb3
  simp only [Bool.false_eq_true, if_false]
  go_wp2_with (go_at_call 112; refine (is_code 2 _).mono ?_)
  rintro e w4 ⟨rfl, hb4⟩
  have HB4 := Lib.hid (HB3.out.trans (hb4.mono HB3.out.size))
  have KZ4 := Lib.hid (blk_step hb4 KZ3.out)
  have KO4 := Lib.hid (blk_step hb4 KO3.out)
  clear hb4
  have KT : Hid (∀ W : World, W.heap[w1.heap.size]? = some (.cells #[.int .i64 up, .string xn] 96) → (fun w' => w'.cell? ⟨w1.heap.size, 0, none⟩ = some (.int .i64 up) ∧ w'.cell? ⟨w1.heap.size, 1, none⟩ = some (.string xn)) W) := Lib.hid (fun W h => ⟨(cell_blk h 0).trans rfl, (cell_blk h 1).trans rfl⟩)
  have hne1 : w.heap.size < w1.heap.size := lt_of_heap KZ1.out
  have HQ0 : Hid (Below w4.heap.size w4 w4) := Lib.hid (Below.refl _ _)
  have KS : Hid (∀ W, Below w4.heap.size w4 W → (fun w' => w'.cell? ⟨w1.heap.size, 0, none⟩ = some (.int .i64 up) ∧ w'.cell? ⟨w1.heap.size, 1, none⟩ = some (.string xn)) W) := Lib.hid (fun W h => ⟨(cell_blk (blk_step h KO4.out) 0).trans rfl, (cell_blk (blk_step h KO4.out) 1).trans rfl⟩)
  go_wp2
  go_region_held3 (fun w' => w'.cell? ⟨w1.heap.size, 0, none⟩ = some (.int .i64 up) ∧ w'.cell? ⟨w1.heap.size, 1, none⟩ = some (.string xn)) (first | exact KS.out _ (by (first | (with_reducible exact HQ0.out) | (with_reducible exact bel_dr HQ0.out) | (with_reducible exact HQa.out) | (with_reducible exact bel_dr HQa.out))) | exact KT.out _ ((Below.heap_setCell _ ⟨w.heap.size, 1, none⟩ _ _ (by simp only; omega)).trans ((Below.heap_setCell _ ⟨w.heap.size, 0, none⟩ _ _ (by simp only; omega)).trans (blk_step HQa.out KO4.out))))
    (first | (go_at_call 85; (with_reducible refine (HCK.out _ (HD.out.below (by (first | (with_reducible exact HB4.out) | (with_reducible exact bel_dr HB4.out))))).mono ?_); rintro e wa ⟨rfl, hba⟩; have HQa := Lib.hid (bel_both (w := w4) (by (first | (with_reducible exact HQ0.out) | (with_reducible exact bel_dr HQ0.out))) hba).2; have KZa := Lib.hid (blk_step HQa.out KZ4.out); have z0 := (cell_blk KZa.out 0).trans rfl; have z1 := (cell_blk KZa.out 1).trans rfl; have zf := frozen_blk KZa.out; clear hba))
  all_goals
    go_wp2
    have hq := two_set KZa.out (.int .i64 up) (.string xn)
    have t0 := (cell_blk hq 0).trans rfl
    have t1 := (cell_blk hq 1).trans rfl
    refine bodyPost_ret (v := .tuple #[.agg #[.int .i64 up, .string xn], E]) (by simp [results, Tryz.results78, go_sem, t0, t1]) rfl ?_
    exact ⟨rfl, bel_set2 (HB4.out.trans (HQa.out.mono HB4.out.size)) (Nat.le_refl _)⟩
end Go.Proofs.YtjomkjnpflebaaaGreatDoor


/-
  A file system of the call's own whose one list is another one now; copies between rows of cells.
  Conditions: as each states.
-/
namespace Go.Proofs.YtjomkjnpflebaaaGreatDoor
open Go.ChangeShapes Go.WideShapes Go.ChangeAt Go.RowKit Go.Joins
set_option linter.unusedVariables false
set_option linter.unusedSimpArgs false

theorem Own.list {w w1 : World} {R g cap : Nat} {ps : List (Nod × Value)} (h : Own w R (.slice (some ⟨g, 0, none⟩) ps.length cap) ps) {i : Nat} (hi : i < ps.length) {lv' : Value} {es' : List Ent}
    (hg : w.grownBy w1 ps[i].2.ownBlock) (he : Ents w1 R lv' es') (hb : lv'.ownBlock = ps[i].2.ownBlock ∨ ∃ b, lv'.ownBlock = some b ∧ w.heap.size ≤ b) :
    Own (w1.setCell ⟨g, i * 7 + 6, none⟩ lv') R (.slice (some ⟨g, 0, none⟩) ps.length cap) (ps.set i ({ ps[i].1 with list := es' }, lv')) := by
  have hrow : w1.ownsRow R 52 7 (.slice (some ⟨g, 0, none⟩) ps.length cap) ps.length (nodsV ps) := by
    refine World.ownsRow.kept h.row hg (.inr ?_)
    rcases ents_ne h.row (h.ent _ (List.getElem_mem hi)) rfl with h1 | h1
    · rw [h1]; simp [Value.ownBlock]
    · exact Ne.symm h1
  obtain ⟨h1, h2⟩ := hrow.stored (i * 7 + 6) lv'
  have hset : (nodsV ps).set (i * 7 + 6) lv' = nodsV (ps.set i ({ ps[i].1 with list := es' }, lv')) := by
    unfold nodsV
    rw [flat_set (nodV_len ps) (by simpa using hi) (by decide), List.map_set]
    congr 2
    simp only [List.getElem_map]
    rfl
  have hne : ∀ {lv : Value} {es : List Ent}, Ents w1 R lv es → Ents (w1.setCell ⟨g, i * 7 + 6, none⟩ lv') R lv es := fun {lv es} k => World.ownsRow.kept k h2 (ents_ne hrow k rfl)
  refine ⟨?_, ?_, ?_⟩
  · rw [hset] at h1; simpa using h1
  · intro p hp
    obtain ⟨j, hj, rfl⟩ := List.getElem_of_mem hp
    have hj' : j < ps.length := by simpa using hj
    rw [List.getElem_set]
    split
    · exact hne he
    · rename_i hij
      exact hne (World.ownsRow.kept (h.ent _ (List.getElem_mem hj')) hg (h.dist j i hj' hi (Ne.symm hij)))
  · refine dist_set h.dist fun j hj hne => ?_
    rcases hb with hb | ⟨b, hb, hl⟩
    · simp only; rw [hb]; exact h.dist i j hi hj (Ne.symm hne)
    · refine .inr ?_
      simp only; rw [hb]
      intro e
      have := rows_lt (h.ent _ (List.getElem_mem hj)) b e.symm
      omega
theorem run_copy_rowK {P : Program} (w : World) (dT sT ty elem : TypeId) (size : Nat) (g o dLen dCap : Nat) (a : Addr) (sLen sCap : Nat) (cur : Array Value) (t : TypeId) (cs : List Value)
    (hu : P.underlying dT = some (.slice elem)) (hs : (P.info? elem).map (·.size) = some size)
    (hg : w.heap[g]? = some (.cells cur t (0, 0))) (hn : cs.length = Nat.min sLen dLen * size)
    (hsrc : ∀ j v, cs[j]? = some v → w.cell? (a.add j) = some v) (hfit : o + cs.length ≤ cur.size) (h1 : ∀ v ∈ cs, v.oneCell' = true) :
    (Builtin.copy_ #[dT, sT] ty #[.slice (some ⟨g, o, none⟩) dLen dCap, .slice (some a) sLen sCap]).run P w =
      .ok (goInt (Nat.min sLen dLen)) (w.setRow g (cur.toList.take o ++ cs ++ cur.toList.drop (o + cs.length)).toArray) := by
  have hl := run_loadCells_list (P := P) w a cs hsrc
  have hst := run_storeCells_at P g o t cs 0 cur w hg (by simpa using hfit) h1
  cases hq : P.info? elem with
  | none => simp [hq] at hs
  | some i =>
    have hi : i.size = size := by simpa [hq] using hs
    rw [hn] at hl
    simp [Builtin.copy_, run_underlying hu, Builtin.lenOf, Builtin.firstCells, sizeOf, typeInfo, hq, hi, hl, hst]
end Go.Proofs.YtjomkjnpflebaaaGreatDoor


/-
  Lists of entries in rows of a call's own: parts of them, appends. No function of the program is named.
  Conditions: as each states.
-/
namespace Go.Proofs.YtjomkjnpflebaaaGreatDoor
open Go.ChangeShapes Go.WideShapes Go.ChangeAt Go.RowKit Go.Joins
set_option linter.unusedVariables false
set_option linter.unusedSimpArgs false

theorem info_ent : ∃ i, Tryz.prog.info? 112 = some i ∧ i.zero = some (.agg #[.string ⟨#[]⟩, .int .i64 0]) ∧ i.size = 2 ∧ i.bytes = 24 := by
  have h := entInfo
  cases hq : Tryz.prog.info? 112 with
  | none => rw [hq] at h; cases h
  | some i =>
    rw [hq] at h
    simp only [Option.map_some, Option.some.injEq, Prod.mk.injEq] at h
    exact ⟨i, rfl, h.1, h.2.1, h.2.2⟩
theorem own_ent (w : World) : (w.alloc (.cells #[] 112)).ownsRow w.heap.size 112 2 (.slice (some ⟨w.heap.size, 0, none⟩) 0 0) 0 [] :=
  World.ownsRow_made w #[] 0 (Nat.le_refl _) (by unfold maxLen; omega) rfl
theorem below_appE {w wr w1 : World} {B : Nat} {v : Value} {n : Nat} {xs : List Value} (hb : Below B w wr) (hB : B ≤ wr.heap.size) (hown : wr.ownsRow B 112 2 v n xs) (hg : wr.grownBy w1 v.ownBlock) : Below B w w1 := by
  refine hb.grown hg hB fun j ej => ?_
  rcases hown.2 with ⟨rfl, _⟩ | ⟨g, cap, cur, rfl, hgb, _, _⟩
  · simp [Value.ownBlock] at ej
  · obtain rfl : g = j := by simpa [Value.ownBlock] using ej
    omega
theorem add_plainE (g off i : Nat) : (⟨g, off, none⟩ : Addr).add i = ⟨g, off + i, none⟩ := by
  unfold Addr.add; split
  · rename_i h; subst h; rfl
  · rfl
/-- The cells of a part of an own list. -/
theorem ents_part {w w1 : World} {R g cap : Nat} {es : List Ent} (h : Ents w R (.slice (some ⟨g, 0, none⟩) es.length cap) es) (hb : Below w.heap.size w w1) (k m : Nat) :
    ∀ j u, (entsV ((es.drop k).take m))[j]? = some u → w1.cell? ((⟨g, k * 2, none⟩ : Addr).add j) = some u := by
  intro j u hj
  rw [add_plainE]
  have hlt : j < ((es.drop k).take m).length * 2 := by
    rw [← entsV_len]; exact (List.getElem?_eq_some_iff.1 hj).1
  have hi : j / 2 < ((es.drop k).take m).length := by omega
  have hj2 : j % 2 < 2 := Nat.mod_lt _ (by decide)
  have e1 : (entsV ((es.drop k).take m))[j]? = (entV ((es.drop k).take m)[j / 2])[j % 2]? := by
    have := flat_get (entV_len ((es.drop k).take m)) (i := j / 2) (j := j % 2) (by simpa using hi) hj2
    rw [show j / 2 * 2 + j % 2 = j by omega] at this
    unfold entsV
    rw [this]; simp
  have hk : k + j / 2 < es.length := by simp at hi; omega
  have e2 : ((es.drop k).take m)[j / 2] = es[k + j / 2] := by simp
  have e3 : (entsV es)[(k + j / 2) * 2 + j % 2]? = (entV es[k + j / 2])[j % 2]? := by
    unfold entsV
    rw [flat_get (entV_len es) (by simpa using hk) hj2]; simp
  have hc := World.ownsRow.cellAt h ((k + j / 2) * 2 + j % 2) (by omega)
  have hgl := (World.ownsRow.lt h g rfl).2
  rw [hb.cell (p := ⟨g, k * 2 + j, none⟩) hgl, show k * 2 + j = (k + j / 2) * 2 + j % 2 by omega, hc, e3, ← e2, ← e1]
  exact hj

theorem run_append_noneE {P : Program} (w : World) (t ty e : TypeId) (i : TypeInfo) (ht : P.underlying t = some (.slice e)) (hi : P.info? e = some i) (oo : Option Addr) (n cap c : Nat) (h : n ≤ cap) :
    (Builtin.append_ #[t, t] ty #[.slice oo n cap, .slice none 0 c]).run P w = .ok (.slice oo n cap) w := by
  cases oo <;> simp [Builtin.append_, run_underlying ht, sizeOf, typeInfo, hi, Builtin.lenOf, Builtin.firstCells, h, storeCells, run_firstCells_none]
theorem step_append_noneE {P : Program} (w : World) {ops : Array Oper} {o : Oper} {a : Act} {K : Act → World → Prop} {Q : Exit → Act → World → Prop} {E : Prop} (hgd : o.guard = none) (s x : Operand) (t : TypeId)
    (ho : o.op = .call { callee := .builtin .append, args := #[s, x], argTypes := #[t, t] }) (e : TypeId) (i : TypeInfo) (ht : P.underlying t = some (.slice e)) (hi : P.info? e = some i)
    (oo : Option Addr) (n cap c : Nat) (hs : a.eval s = .slice oo n cap) (hx : a.eval x = .slice none 0 c) (hc : n ≤ cap)
    (h : K (a.put o.dst (.slice oo n cap)) w) :
    if Region.wanted o (yielded ops a.tmps) = true then Oper.wp P o a w K Q else E := by
  have hw : Region.wanted o (yielded ops a.tmps) = true := by simp [Region.wanted, hgd]
  rw [if_pos hw]
  unfold Oper.wp execOp
  simp only [ho, resolve, invoke, builtin, Sem.run_bind, Sem.run_pure, Result.andThen_ok, List.map_toArray, List.map_cons, List.map_nil, hs, hx, run_append_noneE (P := P) w t o.type e i ht hi oo n cap c hc]
  exact h
theorem owns_cap {w : World} {B : Nat} {T : TypeId} {sz n cap : Nat} {oo : Option Addr} {xs : List Value} (h : w.ownsRow B T sz (.slice oo n cap) n xs) : n ≤ cap := by
  rcases h.2 with ⟨e, h0⟩ | ⟨g, c, cur, e, _, _, h1, _⟩
  · omega
  · simp only [Value.slice.injEq, true_and] at e
    obtain ⟨-, rfl⟩ := e
    exact h1
theorem ents_drop {w w1 : World} {R g cap : Nat} {es : List Ent} (h : Ents w R (.slice (some ⟨g, 0, none⟩) es.length cap) es) (hb : Below w.heap.size w w1) (k : Nat) :
    ∀ j u, (entsV (es.drop k))[j]? = some u → w1.cell? ((⟨g, k * 2, none⟩ : Addr).add j) = some u := by
  have := ents_part h hb k es.length
  rw [List.take_of_length_le (by simp)] at this
  exact this
theorem ents_take {w w1 : World} {R g cap : Nat} {es : List Ent} (h : Ents w R (.slice (some ⟨g, 0, none⟩) es.length cap) es) (hb : Below w.heap.size w w1) (k : Nat) :
    ∀ j u, (entsV (es.take k))[j]? = some u → w1.cell? ((⟨g, 0, none⟩ : Addr).add j) = some u := by
  have := ents_part h hb 0 k
  simpa using this
theorem own_entB (w : World) (B : Nat) (h : B ≤ w.heap.size) : (w.alloc (.cells #[] 112)).ownsRow B 112 2 (.slice (some ⟨w.heap.size, 0, none⟩) 0 0) 0 [] :=
  World.ownsRow_made w #[] 0 h (by unfold maxLen; omega) rfl
theorem owns_low {w : World} {A B : Nat} {T : TypeId} {sz n : Nat} {v : Value} {xs : List Value} (h : w.ownsRow B T sz v n xs) (hAB : A ≤ B) : w.ownsRow A T sz v n xs := by
  rcases h with ⟨hl, h0 | ⟨g, cap, cur, e, hB, r⟩⟩
  · exact ⟨hl, .inl h0⟩
  · exact ⟨hl, .inr ⟨g, cap, cur, e, Nat.le_trans hAB hB, r⟩⟩
theorem cell_two_new (w : World) (a b : Value) (t : TypeId) : ∀ j u, [a, b][j]? = some u → (w.alloc (.cells #[a, b] t)).cell? ((⟨w.heap.size, 0, none⟩ : Addr).add j) = some u := by
  intro j u hj
  rw [add_plainE, Nat.zero_add, World.cell?_alloc_mark]
  rcases j with _ | _ | j <;> simp_all
theorem cell_two_kept {w1 : World} {b : Nat} {x y : Value} {t : TypeId} (h : w1.heap[b]? = some (.cells #[x, y] t)) : ∀ j u, [x, y][j]? = some u → w1.cell? ((⟨b, 0, none⟩ : Addr).add j) = some u := by
  intro j u hj
  rw [add_plainE, Nat.zero_add, cell_blk h]
  rcases j with _ | _ | j <;> simp_all
end Go.Proofs.YtjomkjnpflebaaaGreatDoor


/-
  append onto a list of the call's own: the list that it was appended to reads as before. No function of the program is named.
  Conditions: as it states.
-/
namespace Go.Proofs.YtjomkjnpflebaaaGreatDoor
open Go.ChangeShapes Go.WideShapes Go.ChangeAt Go.RowKit Go.Joins
set_option linter.unusedVariables false

theorem run_append_keep {P : Program} (w : World) (base : Nat) (t ty e : TypeId) (i : TypeInfo) (z : Value) (size bytes : Nat) (ht : P.underlying t = some (.slice e)) (hi : P.info? e = some i) (hz : i.zero = some z)
    (hsize : i.size = size) (hby : i.bytes = bytes) (hzs : z.cells.size = size) (hsz : 0 < size)
    (v : Value) (n : Nat) (xs : List Value) (hown : w.ownsRow base e size v n xs)
    (a : Addr) (m c : Nat) (news : List Value) (hm0 : 0 < m) (hl : news.length = m * size) (hnews : ∀ j u, news[j]? = some u → w.cell? (a.add j) = some u) (h1 : ∀ u ∈ news, u.oneCell' = true)
    (h63 : n + m ≤ maxLen) (hbytes : (n + m) * bytes ≤ 140737488355328) (hbase : base ≤ w.heap.size) :
    ∃ v' w', (Builtin.append_ #[t, t] ty #[v, .slice (some a) m c]).run P w = .ok v' w' ∧ w'.ownsRow base e size v' (n + m) (xs ++ news) ∧ w.grownBy w' v.ownBlock ∧
      w'.ownsRow base e size v n xs ∧ ((∃ g cap, v = .slice (some ⟨g, 0, none⟩) n cap ∧ v' = .slice (some ⟨g, 0, none⟩) (n + m) cap) ∨ v'.ownBlock = some w.heap.size) := by
  subst hsize
  subst hby
  have hsmall : n + m ≤ 9223372036854775807 := by simp only [maxLen] at h63; omega
  have hlen : (xs ++ news).length = (n + m) * i.size := by rw [List.length_append, hown.1, hl, Nat.add_mul]
  have keep : ∀ o : Obj, (w.drew.alloc o).ownsRow base e i.size v n xs := fun o => by
    refine World.ownsRow.kept hown (row := none) ⟨rfl, rfl, rfl, by simp, fun k hk _ => Below.heap_alloc w.drew _ k hk⟩ ?_
    rcases hown.2 with ⟨rfl, _⟩ | ⟨g, cap, cur, rfl, _⟩
    · exact .inl rfl
    · exact .inr (by simp [Value.ownBlock])
  have grown : ∀ (old : Nat), old < n + m → ∀ (row : Option Nat),
      (w.drew.alloc (.cells (xs.toArray ++ news.toArray ++ Builtin.zeroCells z.cells (grownCap w (n + m) old e - (n + m))) e)).ownsRow base e i.size
        (.slice (some ⟨w.heap.size, 0, none⟩) (n + m) (grownCap w (n + m) old e)) (n + m) (xs ++ news) ∧
      w.grownBy (w.drew.alloc (.cells (xs.toArray ++ news.toArray ++ Builtin.zeroCells z.cells (grownCap w (n + m) old e - (n + m))) e)) row := by
    intro old ho row
    have hge := grownCap_ge w (n + m) old e
    have hcm : grownCap w (n + m) old e ≤ maxLen := grownCap_le_maxLen w (n + m) old e h63
    refine ⟨⟨hlen, .inr ⟨w.heap.size, _, _, rfl, hbase, heap_alloc_new w.drew _, hge, hcm, ?_, ?_⟩⟩, ⟨rfl, rfl, rfl, by simp, fun k hk _ => Below.heap_alloc w.drew _ k hk⟩⟩
    · simp only [Array.size_append, List.size_toArray, size_zeroCells, hzs, hown.1, hl, ← Nat.add_mul]
      congr 1
      omega
    · simp only [Array.toList_append, List.append_assoc]
      rw [← List.append_assoc, ← hlen]
      exact List.take_left
  rcases id hown.2 with ⟨rfl, rfl⟩ | ⟨g, cap, cur, rfl, hbg, hg, hnc, hcm, hcs, htake⟩
  · have hx : xs = [] := List.eq_nil_of_length_eq_zero (by simpa using hown.1)
    subst hx
    have hr := run_append_nil (P := P) w t ty e i z ht hi hz a m c news hl hnews (by omega) (by omega) (by have hb := hbytes; simp only [Nat.zero_add] at hb; omega)
    have hgr := grown 0 (by omega) (Value.ownBlock (.slice none 0 0))
    have hkp := keep (.cells (([] : List Value).toArray ++ news.toArray ++ Builtin.zeroCells z.cells (grownCap w (0 + m) 0 e - (0 + m))) e)
    simp only [Nat.zero_add, List.nil_append, Array.empty_append] at hgr hkp ⊢
    exact ⟨_, _, hr, hgr.1, hgr.2, hkp, .inr rfl⟩
  · by_cases hroom : n + m ≤ cap
    · have hfit : n * i.size + news.length ≤ cur.size := by rw [hl, hcs, ← Nat.add_mul]; exact Nat.mul_le_mul_right _ hroom
      have hr := run_append_room (P := P) w t ty e i ht hi g n cap cur hg a m c news hl hnews h1 hroom hfit
      have hsz2 : (cur.toList.take (n * i.size) ++ news ++ cur.toList.drop (n * i.size + news.length)).toArray.size = cap * i.size := by
        simp only [List.size_toArray, List.length_append, List.length_take, List.length_drop, Array.length_toList]
        omega
      refine ⟨_, _, hr, ⟨hlen, .inr ⟨g, cap, _, rfl, hbg, setRow_heap w g cur _ e _ hg, hroom, hcm, hsz2, ?_⟩⟩, ⟨rfl, rfl, rfl, by simp, fun k _ hk => setRow_other w g k _ (fun e => hk (by simp [Value.ownBlock, e]))⟩, ⟨hown.1, .inr ⟨g, cap, _, rfl, hbg, setRow_heap w g cur _ e _ hg, hnc, hcm, hsz2, ?_⟩⟩, .inl ⟨g, cap, rfl, rfl⟩⟩
      · rw [htake, ← hlen]
        exact List.take_left
      · rw [htake, List.append_assoc, ← hown.1]
        exact List.take_left
    · have holds : ∀ j u, xs[j]? = some u → w.cell? ((⟨g, 0, none⟩ : Addr).add j) = some u := hown.cells (g := g) rfl
      have hr := run_append_grow (P := P) w t ty e i z ht hi hz ⟨g, 0, none⟩ n cap xs hown.1 holds a m c news hl hnews (by omega) (by omega) (growslice_fits (by omega) hbytes)
      have hgr := grown cap (by omega) (Value.ownBlock (.slice (some ⟨g, 0, none⟩) n cap))
      exact ⟨_, _, hr, hgr.1, hgr.2, keep _, .inr rfl⟩
theorem wpList_append_keep {P : Program} (w : World) {ops : Array Oper} {rest : List Oper} {o : Oper} {a : Act} {Q : Exit → Act → World → Prop} (hgd : o.guard = none) (s x : Operand) (t : TypeId)
    (ho : o.op = .call { callee := .builtin .append, args := #[s, x], argTypes := #[t, t] })
    (base : Nat) (e : TypeId) (i : TypeInfo) (z : Value) (size bytes : Nat) (ht : P.underlying t = some (.slice e)) (hi : P.info? e = some i) (hz : i.zero = some z)
    (hsize : i.size = size) (hby : i.bytes = bytes) (hzs : z.cells.size = size) (hsz : 0 < size)
    (v : Value) (n : Nat) (xs : List Value) (hs : a.eval s = v) (hown : w.ownsRow base e size v n xs)
    (ad : Addr) (m c : Nat) (news : List Value) (hm0 : 0 < m) (hx : a.eval x = .slice (some ad) m c) (hl : news.length = m * size) (hnews : ∀ j u, news[j]? = some u → w.cell? (ad.add j) = some u) (h1 : ∀ u ∈ news, u.oneCell' = true)
    (h63 : n + m ≤ maxLen) (hbytes : (n + m) * bytes ≤ 140737488355328) (hbase : base ≤ w.heap.size)
    (h : ∀ v' w', w'.ownsRow base e size v' (n + m) (xs ++ news) → w.grownBy w' v.ownBlock → w'.ownsRow base e size v n xs → ((∃ g cap, v = .slice (some ⟨g, 0, none⟩) n cap ∧ v' = .slice (some ⟨g, 0, none⟩) (n + m) cap) ∨ v'.ownBlock = some w.heap.size) → wpList P ops Q rest (a.put o.dst v') w') : wpList P ops Q (o :: rest) a w := by
  refine wpList_plain hgd fun K hK => ?_
  obtain ⟨v', w', hr, h2, h3, h4, h5⟩ := run_append_keep (P := P) w base t o.type e i z size bytes ht hi hz hsize hby hzs hsz v n xs hown ad m c news hm0 hl hnews h1 h63 hbytes hbase
  unfold Oper.wp execOp
  simp only [ho, resolve, invoke, builtin, Sem.run_bind, Sem.run_pure, Result.andThen_ok, List.map_toArray, List.map_cons, List.map_nil, hs, hx, hr]
  exact hK _ _ (h v' w' h2 h3 h4 h5)
theorem step_append_keep {P : Program} (w : World) {ops : Array Oper} {o : Oper} {a : Act} {K : Act → World → Prop} {Q : Exit → Act → World → Prop} {E : Prop} (hgd : o.guard = none) (s x : Operand) (t : TypeId)
    (ho : o.op = .call { callee := .builtin .append, args := #[s, x], argTypes := #[t, t] })
    (base : Nat) (e : TypeId) (i : TypeInfo) (z : Value) (size bytes : Nat) (ht : P.underlying t = some (.slice e)) (hi : P.info? e = some i) (hz : i.zero = some z)
    (hsize : i.size = size) (hby : i.bytes = bytes) (hzs : z.cells.size = size) (hsz : 0 < size)
    (v : Value) (n : Nat) (xs : List Value) (hs : a.eval s = v) (hown : w.ownsRow base e size v n xs)
    (ad : Addr) (m c : Nat) (news : List Value) (hm0 : 0 < m) (hx : a.eval x = .slice (some ad) m c) (hl : news.length = m * size) (hnews : ∀ j u, news[j]? = some u → w.cell? (ad.add j) = some u) (h1 : ∀ u ∈ news, u.oneCell' = true)
    (h63 : n + m ≤ maxLen) (hbytes : (n + m) * bytes ≤ 140737488355328) (hbase : base ≤ w.heap.size)
    (h : ∀ v' w', w'.ownsRow base e size v' (n + m) (xs ++ news) → w.grownBy w' v.ownBlock → w'.ownsRow base e size v n xs → ((∃ g cap, v = .slice (some ⟨g, 0, none⟩) n cap ∧ v' = .slice (some ⟨g, 0, none⟩) (n + m) cap) ∨ v'.ownBlock = some w.heap.size) → K (a.put o.dst v') w') :
    if Region.wanted o (yielded ops a.tmps) = true then Oper.wp P o a w K Q else E := by
  have hw : Region.wanted o (yielded ops a.tmps) = true := by simp [Region.wanted, hgd]
  rw [if_pos hw]
  obtain ⟨v', w', hr, h2, h3, h4, h5⟩ := run_append_keep (P := P) w base t o.type e i z size bytes ht hi hz hsize hby hzs hsz v n xs hown ad m c news hm0 hl hnews h1 h63 hbytes hbase
  unfold Oper.wp execOp
  simp only [ho, resolve, invoke, builtin, Sem.run_bind, Sem.run_pure, Result.andThen_ok, List.map_toArray, List.map_cons, List.map_nil, hs, hx, hr]
  exact h v' w' h2 h3 h4 h5
end Go.Proofs.YtjomkjnpflebaaaGreatDoor
