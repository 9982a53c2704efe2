/-
  Joined: SetQ SetR SetS TabH.
  Conditions: as each states.
-/
import Derived.Deep.RegionHeld3
import Derived.Deep.DeepHandedRow
import Derived.LaidLaws
import Derived.LaidHandle
import Derived.Test.YtpkmkpeabfmbiaaGreatDoorCards
import Derived.Test.YtpkmkpeabfmbiaaGreatDoorTie
import Derived.Test.YtpkmkpeabfmbiaaGreatDoorLib14
import Derived.Test.YtpkmkpeabfmbiaaGreatDoorLib19

/-
  The program's setAt: its closure within tryOn; setAsOwner, SetMode and SetTime.
  Conditions: at most 2^20 values and letters together; a text of at most 2^20 bytes; the variable errors.errorType as the program's text lays it.
-/
namespace Go.Proofs.YtpkmkpeabfmbiaaGreatDoor
open Go.ChangeShapes Go.WideShapes Go.ChangeAt Go.RowKit Go.Joins Go.Shelf
set_option linter.unusedVariables false
set_option linter.unusedSimpArgs false

theorem SetSays.use {w0 : World} {j : FuncId} {cap : Array Value} {nd : Nat} {nq q : Nod} {E : Value} (h : SetSays w0 j cap nd nq q E) (w1 : World) (R g cc : Nat) (ps : List (Nod × Value)) (h1 : Below w0.heap.size w0 w1) (h2 : w0.heap.size ≤ R) (h3 : Own w1 R (.slice (some ⟨g, 0, none⟩) ps.length cc) ps) (hnd : nd < ps.length) (h4 : ps[nd].1 = nq) :
    Calls Tryz.prog j (#[.pointer (some ⟨g, nd * 7, none⟩)] ++ cap) w1 fun e w' => e = .returned E ∧ Below R w1 w' ∧ (∀ i, i ≠ g → i < w1.heap.size → w'.heap[i]? = w1.heap[i]?) ∧ Own w' R (.slice (some ⟨g, 0, none⟩) ps.length cc) (ps.set nd (q, (ps[nd]).2)) := h w1 R g cc ps h1 h2 h3 hnd h4
theorem errV_okQ (p : ByteArray) : errV p 0 = .nilIface := rfl
set_option maxRecDepth 100000 in
set_option maxHeartbeats 8000000 in
theorem setAt1_bad (f : FsD) (u g : Int) (s : ByteArray) (fol : Bool) (fv : Value) (cd : Int) (nd : Nat) (hfd : lkFind f.nodes u g s.data.toList fol = (cd, nd)) (hs : szF f ≤ 1048576) (hk : askB4 f u g = true) (hss : s.size ≤ 1048576) (hfit : NodsFit f.nodes)
    (cb pb fb sb d R : Nat) (nv x2 x3 x4 : Value) (ps : List (Nod × Value)) (w1 : World) (hB : SetBox w1 cb pb fb sb u g s fol fv) (hD : w1.heap[d]? = some (.cells #[nv, .int .i64 f.room, x2, x3, x4] 150)) (hps : ps.map Prod.fst = f.nodes) (hO : Own w1 R nv ps) (hc : cd ≠ 0) :
    Calls Tryz.prog 100 #[.pointer (some ⟨d, 0, none⟩), .pointer (some ⟨cb, 0, none⟩), .pointer (some ⟨pb, 0, none⟩), .pointer (some ⟨fb, 0, none⟩), .pointer (some ⟨sb, 0, none⟩)] w1 fun e w' => e = .returned (errV s cd) ∧ Below w1.heap.size w1 w' := by
  obtain ⟨oo, cc, rfl, -⟩ := owns_form hO.row
  have HE := Lib.hid (errV_not s hc)
  have HFA : Hid (FsA w1 (.agg #[.slice oo ps.length cc, .int .i64 f.room]) f) := Lib.hid (by have h := hO.read f.room (by rw [hps]; exact hfit); rw [hps] at h; exact h)
  have HBX := Lib.hid hB
  have HD := Lib.hid hD
  have HFD := Lib.hid hfd
  have HS := Lib.hid hs
  have HK := Lib.hid hk
  have HSS := Lib.hid hss
  have HO := Lib.hid hO
  have HPS := Lib.hid hps
  have HK0 : Hid (Below w1.heap.size w1 w1) := Lib.hid (Below.refl _ _)
  have KS : Hid (∀ W, Below w1.heap.size w1 W → (fun w' => w'.cell? ⟨d, 0, none⟩ = some (.slice oo ps.length cc) ∧ w'.cell? ⟨d, 1, none⟩ = some (.int .i64 f.room) ∧ w'.cell? ⟨cb, 0, none⟩ = some (.int .i64 u) ∧ w'.cell? ⟨cb, 1, none⟩ = some (.int .i64 g) ∧ w'.cell? ⟨pb, 0, none⟩ = some (.string s) ∧ w'.cell? ⟨fb, 0, none⟩ = some (.bool fol)) W) := Lib.hid (fun W h => ⟨(cell_blk (blk_step h HD.out) 0).trans rfl, (cell_blk (blk_step h HD.out) 1).trans rfl, (cell_blk (blk_step h HBX.out.c) 0).trans rfl, (cell_blk (blk_step h HBX.out.c) 1).trans rfl, (cell_blk (blk_step h HBX.out.p) 0).trans rfl, (cell_blk (blk_step h HBX.out.f) 0).trans rfl⟩)
  clear hB hD hfd hs hk hss hO hps hc hfit
  go_enter Tryz.func100, Tryz.ntmps100
  go_wp2
  go_region_held3 (fun w' => w'.cell? ⟨d, 0, none⟩ = some (.slice oo ps.length cc) ∧ w'.cell? ⟨d, 1, none⟩ = some (.int .i64 f.room) ∧ w'.cell? ⟨cb, 0, none⟩ = some (.int .i64 u) ∧ w'.cell? ⟨cb, 1, none⟩ = some (.int .i64 g) ∧ w'.cell? ⟨pb, 0, none⟩ = some (.string s) ∧ w'.cell? ⟨fb, 0, none⟩ = some (.bool fol)) (first | exact KS.out _ (by (first | (with_reducible exact HK0.out) | (with_reducible exact bel_dr HK0.out) | (with_reducible exact HKa.out) | (with_reducible exact bel_dr HKa.out))))
    (first | (go_at_call 40; (with_reducible refine (nodeAt_is HFD.out (HFA.out.below (by (first | (with_reducible exact HK0.out) | (with_reducible exact bel_dr HK0.out)))) HS.out HK.out HSS.out).mono ?_); rintro e wa ⟨rfl, hba⟩; have HKa := Lib.hid (bel_both (w := w1) (by (first | (with_reducible exact HK0.out) | (with_reducible exact bel_dr HK0.out))) hba).2; clear hba))
  rw [HE.out]
  go_wp2
  go_ret
  exact ⟨by rw [HE.out]; rfl, HKa.out⟩
set_option maxRecDepth 100000 in
set_option maxHeartbeats 8000000 in
theorem setAt1_go (f : FsD) (u g : Int) (s : ByteArray) (fol : Bool) (fv : Value) (cd : Int) (nd : Nat) (hfd : lkFind f.nodes u g s.data.toList fol = (cd, nd)) (hs : szF f ≤ 1048576) (hk : askB4 f u g = true) (hss : s.size ≤ 1048576) (hfit : NodsFit f.nodes)
    (cb pb fb sb d R : Nat) (nv x2 x3 x4 : Value) (ps : List (Nod × Value)) (w1 : World) (hB : SetBox w1 cb pb fb sb u g s fol fv) (hD : w1.heap[d]? = some (.cells #[nv, .int .i64 f.room, x2, x3, x4] 150)) (hps : ps.map Prod.fst = f.nodes) (hO : Own w1 R nv ps) (hc : cd = 0) (hlt : nd < f.nodes.length) (hRd : R ≤ d) (w0 : World) (hw0 : Below w0.heap.size w0 w1) (hwR : w0.heap.size ≤ R) (j2 : FuncId) (cap2 : Array Value) (hfv : fv = .func (.func j2) #[] cap2) (q : Nod) (E : Value)
    (hcf : ∀ args w, (callFunc j2 args).run Tryz.prog w = .ok (.enter j2 args) w) (hset : SetSays w0 j2 cap2 nd (nodeAt f.nodes nd) q E) :
    Calls Tryz.prog 100 #[.pointer (some ⟨d, 0, none⟩), .pointer (some ⟨cb, 0, none⟩), .pointer (some ⟨pb, 0, none⟩), .pointer (some ⟨fb, 0, none⟩), .pointer (some ⟨sb, 0, none⟩)] w1 fun e w' => e = .returned E ∧ Below R w1 w' ∧ ∃ nv2 ps2, w'.heap[d]? = some (.cells #[nv2, .int .i64 f.room, x2, x3, x4] 150) ∧ ps2.map Prod.fst = f.nodes.set nd q ∧ Own w' R nv2 ps2 := by
  subst hc hfv
  have hpl : nd < ps.length := by have h9 : ps.length = f.nodes.length := (by rw [← hps]; simp); omega
  obtain ⟨gg, cc, rfl, hRg, hgl, hn9, hm9, hc9, hfr9⟩ := hO.at hpl
  have HN := Lib.hid (at_map hps hpl)
  have HST := Lib.hid hset
  have HW0 := Lib.hid hw0
  have hdg : d ≠ gg := fun e => by
    subst e
    rcases hO.row.2 with ⟨h1, _⟩ | ⟨g2, c2, cur2, h1, h2, h3, _⟩
    · simp at h1
    · simp only [Value.slice.injEq, Option.some.injEq, Addr.mk.injEq, and_true, true_and] at h1
      rw [← h1.1, hD] at h3
      simp at h3
  have h0i : (0 : Int) ≤ (nd : Int) := by omega
  have h1i : (nd : Int) < (ps.length : Int) := by omega
  have HFA : Hid (FsA w1 (.agg #[.slice (some ⟨gg, 0, none⟩) ps.length cc, .int .i64 f.room]) f) := Lib.hid (by have h := hO.read f.room (by rw [hps]; exact hfit); rw [hps] at h; exact h)
  have HBX := Lib.hid hB
  have HD := Lib.hid hD
  have HFD := Lib.hid hfd
  have HS := Lib.hid hs
  have HK := Lib.hid hk
  have HSS := Lib.hid hss
  have HO := Lib.hid hO
  have HPS := Lib.hid hps
  have HK0 : Hid (Below w1.heap.size w1 w1) := Lib.hid (Below.refl _ _)
  have KS : Hid (∀ W, Below w1.heap.size w1 W → (fun w' => w'.cell? ⟨d, 0, none⟩ = some (.slice (some ⟨gg, 0, none⟩) ps.length cc) ∧ w'.cell? ⟨d, 1, none⟩ = some (.int .i64 f.room) ∧ w'.cell? ⟨cb, 0, none⟩ = some (.int .i64 u) ∧ w'.cell? ⟨cb, 1, none⟩ = some (.int .i64 g) ∧ w'.cell? ⟨pb, 0, none⟩ = some (.string s) ∧ w'.cell? ⟨fb, 0, none⟩ = some (.bool fol)) W) := Lib.hid (fun W h => ⟨(cell_blk (blk_step h HD.out) 0).trans rfl, (cell_blk (blk_step h HD.out) 1).trans rfl, (cell_blk (blk_step h HBX.out.c) 0).trans rfl, (cell_blk (blk_step h HBX.out.c) 1).trans rfl, (cell_blk (blk_step h HBX.out.p) 0).trans rfl, (cell_blk (blk_step h HBX.out.f) 0).trans rfl⟩)
  clear hB hD hfd hs hk hss hO hps hfit hset hw0 hc9
  go_enter Tryz.func100, Tryz.ntmps100
  go_wp2
  go_region_held3 (fun w' => w'.cell? ⟨d, 0, none⟩ = some (.slice (some ⟨gg, 0, none⟩) ps.length cc) ∧ w'.cell? ⟨d, 1, none⟩ = some (.int .i64 f.room) ∧ w'.cell? ⟨cb, 0, none⟩ = some (.int .i64 u) ∧ w'.cell? ⟨cb, 1, none⟩ = some (.int .i64 g) ∧ w'.cell? ⟨pb, 0, none⟩ = some (.string s) ∧ w'.cell? ⟨fb, 0, none⟩ = some (.bool fol)) (first | exact KS.out _ (by (first | (with_reducible exact HK0.out) | (with_reducible exact bel_dr HK0.out) | (with_reducible exact HKa.out) | (with_reducible exact bel_dr HKa.out))))
    (first | (go_at_call 40; (with_reducible refine (nodeAt_is HFD.out (HFA.out.below (by (first | (with_reducible exact HK0.out) | (with_reducible exact bel_dr HK0.out)))) HS.out HK.out HSS.out).mono ?_); rintro e wa ⟨rfl, hba⟩; have HKa := Lib.hid (bel_both (w := w1) (by (first | (with_reducible exact HK0.out) | (with_reducible exact bel_dr HK0.out))) hba).2; clear hba))
  rw [errV_okQ]
  have HBXa := Lib.hid (HBX.out.below HKa.out)
  have HDa := Lib.hid (blk_step HKa.out HD.out)
  have HOa := Lib.hid (HO.out.below HKa.out)
  have HWa := Lib.hid (bel_step HW0.out HKa.out)
  have HJ0 : Hid (Below wa.heap.size wa wa) := Lib.hid (Below.refl _ _)
  have KS2 : Hid (∀ W, Below wa.heap.size wa W → (fun w' => w'.cell? ⟨d, 0, none⟩ = some (.slice (some ⟨gg, 0, none⟩) ps.length cc) ∧ w'.cell? ⟨sb, 0, none⟩ = some (.func (.func j2) #[] cap2)) W) := Lib.hid (fun W h => ⟨(cell_blk (blk_step h HDa.out) 0).trans rfl, (cell_blk (blk_step h HBXa.out.s) 0).trans rfl⟩)
  have KS3 : Hid (∀ W : World, (∀ i, i ≠ gg → i < wa.heap.size → W.heap[i]? = wa.heap[i]?) → (fun w' : World => w'.cell? ⟨d, 0, none⟩ = some (.slice (some ⟨gg, 0, none⟩) ps.length cc) ∧ w'.cell? ⟨sb, 0, none⟩ = some (.func (.func j2) #[] cap2)) W) := Lib.hid (fun W h => ⟨(cell_blk ((h d hdg (lt_of_heap HDa.out)).trans HDa.out) 0).trans rfl, (cell_blk ((h sb (by have h1 := lt_of_heap HBXa.out.s; rintro rfl; have h2 := HBX.out.s; have h3 := HO.out.row.2; rcases h3 with ⟨h4, _⟩ | ⟨g2, c2, cur2, h4, h5, h6, _⟩; (simp at h4); (simp only [Value.slice.injEq, Option.some.injEq, Addr.mk.injEq, and_true, true_and] at h4; rw [← h4.1, h2] at h6; simp at h6)) (lt_of_heap HBXa.out.s)).trans HBXa.out.s) 0).trans rfl⟩)
  go_wp2
  go_region_held3 (fun w' => w'.cell? ⟨d, 0, none⟩ = some (.slice (some ⟨gg, 0, none⟩) ps.length cc) ∧ w'.cell? ⟨sb, 0, none⟩ = some (.func (.func j2) #[] cap2)) (first | exact KS2.out _ (by (first | (with_reducible exact HJ0.out) | (with_reducible exact bel_dr HJ0.out))) | exact KS3.out _ HU6.out)
    (first | ((with_reducible refine (HST.out.use _ R gg cc ps (bel_step HWa.out (by (first | (with_reducible exact HJ0.out) | (with_reducible exact bel_dr HJ0.out)))) hwR (HOa.out.below (by (first | (with_reducible exact HJ0.out) | (with_reducible exact bel_dr HJ0.out)))) hpl HN.out).mono ?_); rintro e wb ⟨rfl, hb6, hu6, hO6⟩; have HB6 := Lib.hid hb6; have HU6 : Hid (∀ i, i ≠ gg → i < wa.heap.size → wb.heap[i]? = wa.heap[i]?) := Lib.hid (fun i h1 h2 => (hu6 i h1 h2)); have HO6 := Lib.hid hO6; clear hb6 hu6 hO6))
  go_wp2
  go_ret
  refine ⟨rfl, (HKa.out.mono (Nat.le_trans hRg (Nat.le_of_lt hgl))).drew.trans HB6.out, _, _, (HU6.out d hdg (lt_of_heap HDa.out)).trans HDa.out, ?_, HO6.out⟩
  rw [map_turn HPS.out]

theorem al6 (w : World) (a b c d e x : Obj) : let W := (((((w.alloc a).alloc b).alloc c).alloc d).alloc e).alloc x
    W.heap[w.heap.size]? = some a ∧ W.heap[w.heap.size + 1]? = some b ∧ W.heap[w.heap.size + 2]? = some c ∧ W.heap[w.heap.size + 3]? = some d ∧ W.heap[w.heap.size + 4]? = some e ∧ W.heap[w.heap.size + 5]? = some x := by
  have s : ∀ (w : World) (o : Obj) (i : Nat) (z : Obj), w.heap[i]? = some z → (w.alloc o).heap[i]? = some z := fun w o i z h => (Below.heap_alloc w o i (lt_of_heap h)).trans h
  have n : ∀ (w : World) (o : Obj) (i : Nat), i = w.heap.size → (w.alloc o).heap[i]? = some o := fun w o i h => by rw [h]; exact heap_alloc_new w o
  refine ⟨s _ _ _ _ (s _ _ _ _ (s _ _ _ _ (s _ _ _ _ (s _ _ _ _ (n _ _ _ rfl))))), s _ _ _ _ (s _ _ _ _ (s _ _ _ _ (s _ _ _ _ (n _ _ _ (by simp))))), s _ _ _ _ (s _ _ _ _ (s _ _ _ _ (n _ _ _ (by simp)))), s _ _ _ _ (s _ _ _ _ (n _ _ _ (by simp))), s _ _ _ _ (n _ _ _ (by simp)), n _ _ _ (by simp)⟩
theorem bel6 (w : World) (a b c d e x : Obj) : Below w.heap.size w ((((((w.alloc a).alloc b).alloc c).alloc d).alloc e).alloc x) := bel_al (bel_al (bel_al (bel_al (bel_al (bel_al (Below.refl _ w))))))
theorem al4s (w : World) (a b c d : Obj) : let W := (((w.alloc a).alloc b).alloc c).alloc d
    W.heap[w.heap.size]? = some a ∧ W.heap[w.heap.size + 1]? = some b ∧ W.heap[w.heap.size + 2]? = some c ∧ W.heap[w.heap.size + 3]? = some d := by
  have s : ∀ (w : World) (o : Obj) (i : Nat) (z : Obj), w.heap[i]? = some z → (w.alloc o).heap[i]? = some z := fun w o i z h => (Below.heap_alloc w o i (lt_of_heap h)).trans h
  have n : ∀ (w : World) (o : Obj) (i : Nat), i = w.heap.size → (w.alloc o).heap[i]? = some o := fun w o i h => by rw [h]; exact heap_alloc_new w o
  exact ⟨s _ _ _ _ (s _ _ _ _ (s _ _ _ _ (n _ _ _ rfl))), s _ _ _ _ (s _ _ _ _ (n _ _ _ (by simp))), s _ _ _ _ (n _ _ _ (by simp)), n _ _ _ (by simp)⟩
theorem bel4 (w : World) (a b c d : Obj) : Below w.heap.size w ((((w.alloc a).alloc b).alloc c).alloc d) := bel_al (bel_al (bel_al (bel_al (Below.refl _ w))))
/-- What a function that changes a file system answers. -/
def FsAns (w : World) (nodes : List Nod) (room cd : Int) (ak : Bool) (e : Ending) (w' : World) : Prop := ∃ nv ps, e = .returned (.tuple #[.agg #[nv, .int .i64 room], .int .i64 cd, .bool ak]) ∧ ps.map Prod.fst = nodes ∧ Own w' w.heap.size nv ps ∧ Below w.heap.size w w'
theorem app1_4 (a b c d e : Value) : #[a] ++ #[b, c, d, e] = #[a, b, c, d, e] := rfl
end Go.Proofs.YtpkmkpeabfmbiaaGreatDoor


/-
  The program's setAt: its closure within tryOn; setAsOwner, SetMode and SetTime.
  Conditions: at most 2^20 values and letters together; a text of at most 2^20 bytes; the variable errors.errorType as the program's text lays it.
-/
namespace Go.Proofs.YtpkmkpeabfmbiaaGreatDoor
open Go.ChangeShapes Go.WideShapes Go.ChangeAt Go.RowKit Go.Joins Go.Shelf
set_option linter.unusedVariables false
set_option linter.unusedSimpArgs false


set_option maxRecDepth 100000 in
set_option maxHeartbeats 2000000 in
theorem setAt_bad (f : FsD) (v : Value) (u g : Int) (s : ByteArray) (fol : Bool) (j2 : FuncId) (cap2 : Array Value) (w : World) (hR : FsA w v f) (hs : szF f ≤ 1048576) (hss : s.size ≤ 1048576) (hE : ErrT w) (hk : askB4 f u g = true) (cd : Int) (nd : Nat) (hfd : lkFind f.nodes u g s.data.toList fol = (cd, nd)) (hc : cd ≠ 0) :
    Calls Tryz.prog 64 #[v, .agg #[.int .i64 u, .int .i64 g], .string s, .bool fol, .func (.func j2) #[] cap2] w fun e w' => FsAns w (f.nodes) (f.room) (cd) true e w' := by
  have hmf : ∀ (fn : Fn) (first cap : Array Value) (w : World), (Instr.makeFunc fn first cap).run Tryz.prog w = .ok (.func fn first cap) w := fun _ _ _ _ => rfl
  unfold FsAns
  have HFIT : Hid (NodsFit f.nodes) := Lib.hid (by obtain ⟨nv, rfl, hN⟩ := hR; exact hN.fit)
  have HR := Lib.hid hR
  obtain ⟨nv, rfl, hN⟩ := hR
  obtain ⟨o, c, rfl, -, -⟩ := hN
  have HS := Lib.hid hs
  have HSS := Lib.hid hss
  have HET := Lib.hid hE
  have HB6 := Lib.hid (bel6 w (.cells #[.slice o f.nodes.length c, .int .i64 f.room] 34) (.cells #[.int .i64 u, .int .i64 g] 36) (.cells #[.string s] 9) (.cells #[.bool fol] 4) (.cells #[.func (.func j2) #[] cap2] 101) (.cells #[.slice none 0 0, .int .i64 0] 34))
  obtain ⟨k0, k1, k2, k3, k4, k5⟩ := al6 w (.cells #[.slice o f.nodes.length c, .int .i64 f.room] 34) (.cells #[.int .i64 u, .int .i64 g] 36) (.cells #[.string s] 9) (.cells #[.bool fol] 4) (.cells #[.func (.func j2) #[] cap2] 101) (.cells #[.slice none 0 0, .int .i64 0] 34)
  have HBX : Hid (SetBox _ (w.heap.size + 1) (w.heap.size + 2) (w.heap.size + 3) (w.heap.size + 4) u g s fol (.func (.func j2) #[] cap2)) := Lib.hid ⟨k1, k2, k3, k4⟩
  have KZ := Lib.hid k5
  have HSZ : Hid (((((((w.alloc (.cells #[.slice o f.nodes.length c, .int .i64 f.room] 34)).alloc (.cells #[.int .i64 u, .int .i64 g] 36)).alloc (.cells #[.string s] 9)).alloc (.cells #[.bool fol] 4)).alloc (.cells #[.func (.func j2) #[] cap2] 101)).alloc (.cells #[.slice none 0 0, .int .i64 0] 34)).heap.size = w.heap.size + 6) := Lib.hid (by simp)
  have HR6 := Lib.hid (HR.out.below HB6.out)
  have HE6 := Lib.hid (HET.out.below HB6.out HET.out.1)
  have HK := Lib.hid hk
  have HFD := Lib.hid hfd
  have HCZ := Lib.hid hc
  clear hs hss hE k0 k1 k2 k3 k4 k5 hk hfd hc
  go_enter Tryz.func64, Tryz.ntmps64
  go_wp2_with fail
  refine (tryOn_bad f (errV s cd) cd HCZ.out (fun W h => codeOf_any s cd W h) _ u g 0 100 _ _ HR6.out HS.out HE6.out HK.out (by decide) (enters_of Tryz.func100 (by kernel_rfl) rfl) (fun w1 d R nv ps h1 h2 h3 h4 h5 h6 => by rw [app1_4]; exact Calls.mono (setAt1_bad f u g s fol _ cd nd HFD.out HS.out HK.out HSS.out HFIT.out (w.heap.size + 1) (w.heap.size + 2) (w.heap.size + 3) (w.heap.size + 4) d R nv _ _ _ ps w1 (HBX.out.below h3) h4 h5 h6 HCZ.out) (fun e w' hh => ⟨hh.1, hh.2.mono (Nat.le_trans h2 (Nat.le_of_lt (lt_of_heap h4))), nv, ps, blk_step hh.2 h4, h6.below hh.2⟩))).mono ?_
  rintro e w2 ⟨nv2, ps2, rfl, hps2, hO2, hb2⟩
  obtain ⟨oo2, cc2, rfl, -⟩ := owns_form hO2.row
  have HB2 := Lib.hid (bel_step HB6.out hb2)
  have KZ2 := Lib.hid (blk_step hb2 KZ.out)
  have HPS := Lib.hid hps2
  have hsz := HSZ.out
  have HO2 := Lib.hid (hO2.low (R := w.heap.size + 6) (Nat.le_of_eq hsz.symm))
  have z0 := (cell_blk KZ2.out 0).trans rfl
  have z1 := (cell_blk KZ2.out 1).trans rfl
  have zf := frozen_blk KZ2.out
  have hq := two_set KZ2.out (.slice oo2 ps2.length cc2) (.int .i64 f.room)
  have t0 := (cell_blk hq 0).trans rfl
  have t1 := (cell_blk hq 1).trans rfl
  have HA9 : Hid (Own _ w.heap.size _ _) := Lib.hid (((HO2.out.besides (b := w.heap.size + 5) (by omega) 0 (.slice oo2 ps2.length cc2)).besides (b := w.heap.size + 5) (by omega) 1 (.int .i64 f.room)).low (by omega))
  have HB9 := Lib.hid (bel_set2 (G := w.heap.size + 5) (x := .slice oo2 ps2.length cc2) (y := .int .i64 f.room) HB2.out (by omega))
  clear hps2 hO2 hb2 hq
  go_wp2
  refine bodyPost_ret (v := .tuple #[.agg #[.slice oo2 ps2.length cc2, .int .i64 f.room], .int .i64 cd, .bool true]) (by simp [results, Tryz.results64, go_sem, t0, t1]) rfl ?_
  first
    | exact ⟨_, ps2, rfl, HPS.out, HA9.out, HB9.out⟩
    | exact ⟨_, rfl, ps2, HPS.out, HA9.out, HB9.out⟩

set_option maxRecDepth 100000 in
set_option maxHeartbeats 2000000 in
theorem setAt_go (f : FsD) (v : Value) (u g : Int) (s : ByteArray) (fol : Bool) (j2 : FuncId) (cap2 : Array Value) (w : World) (hR : FsA w v f) (hs : szF f ≤ 1048576) (hss : s.size ≤ 1048576) (hE : ErrT w) (hk : askB4 f u g = true) (nd : Nat) (hfd : lkFind f.nodes u g s.data.toList fol = (0, nd)) (hlt : nd < f.nodes.length) (q : Nod) (hcf : ∀ args w, (callFunc j2 args).run Tryz.prog w = .ok (.enter j2 args) w) (hset : SetSays w j2 cap2 nd (nodeAt f.nodes nd) q .nilIface) :
    Calls Tryz.prog 64 #[v, .agg #[.int .i64 u, .int .i64 g], .string s, .bool fol, .func (.func j2) #[] cap2] w fun e w' => FsAns w (f.nodes.set nd q) (f.room) (0) true e w' := by
  have hmf : ∀ (fn : Fn) (first cap : Array Value) (w : World), (Instr.makeFunc fn first cap).run Tryz.prog w = .ok (.func fn first cap) w := fun _ _ _ _ => rfl
  unfold FsAns
  have HFIT : Hid (NodsFit f.nodes) := Lib.hid (by obtain ⟨nv, rfl, hN⟩ := hR; exact hN.fit)
  have HR := Lib.hid hR
  obtain ⟨nv, rfl, hN⟩ := hR
  obtain ⟨o, c, rfl, -, -⟩ := hN
  have HS := Lib.hid hs
  have HSS := Lib.hid hss
  have HET := Lib.hid hE
  have HB6 := Lib.hid (bel6 w (.cells #[.slice o f.nodes.length c, .int .i64 f.room] 34) (.cells #[.int .i64 u, .int .i64 g] 36) (.cells #[.string s] 9) (.cells #[.bool fol] 4) (.cells #[.func (.func j2) #[] cap2] 101) (.cells #[.slice none 0 0, .int .i64 0] 34))
  obtain ⟨k0, k1, k2, k3, k4, k5⟩ := al6 w (.cells #[.slice o f.nodes.length c, .int .i64 f.room] 34) (.cells #[.int .i64 u, .int .i64 g] 36) (.cells #[.string s] 9) (.cells #[.bool fol] 4) (.cells #[.func (.func j2) #[] cap2] 101) (.cells #[.slice none 0 0, .int .i64 0] 34)
  have HBX : Hid (SetBox _ (w.heap.size + 1) (w.heap.size + 2) (w.heap.size + 3) (w.heap.size + 4) u g s fol (.func (.func j2) #[] cap2)) := Lib.hid ⟨k1, k2, k3, k4⟩
  have KZ := Lib.hid k5
  have HSZ : Hid (((((((w.alloc (.cells #[.slice o f.nodes.length c, .int .i64 f.room] 34)).alloc (.cells #[.int .i64 u, .int .i64 g] 36)).alloc (.cells #[.string s] 9)).alloc (.cells #[.bool fol] 4)).alloc (.cells #[.func (.func j2) #[] cap2] 101)).alloc (.cells #[.slice none 0 0, .int .i64 0] 34)).heap.size = w.heap.size + 6) := Lib.hid (by simp)
  have HR6 := Lib.hid (HR.out.below HB6.out)
  have HE6 := Lib.hid (HET.out.below HB6.out HET.out.1)
  have HK := Lib.hid hk
  have HFD := Lib.hid hfd
  have HLT := Lib.hid hlt
  have HCF := Lib.hid hcf
  have HST6 := Lib.hid (hset.later HB6.out)
  clear hs hss hE k0 k1 k2 k3 k4 k5 hk hfd hlt hcf hset
  go_enter Tryz.func64, Tryz.ntmps64
  go_wp2_with fail
  refine (tryOn_ok f ⟨f.nodes.set nd q, f.room⟩ _ u g 0 100 _ _ HR6.out HS.out HE6.out HK.out (by decide) (enters_of Tryz.func100 (by kernel_rfl) rfl) (fun w1 d R nv ps h1 h2 h3 h4 h5 h6 => by rw [app1_4]; exact setAt1_go f u g s fol _ 0 nd HFD.out HS.out HK.out HSS.out HFIT.out (w.heap.size + 1) (w.heap.size + 2) (w.heap.size + 3) (w.heap.size + 4) d R nv _ _ _ ps w1 (HBX.out.below h3) h4 h5 h6 rfl HLT.out h2 _ h3 h1 j2 cap2 rfl q .nilIface HCF.out HST6.out)).mono ?_
  rintro e w2 ⟨nv2, ps2, rfl, hps2, hO2, hb2⟩
  obtain ⟨oo2, cc2, rfl, -⟩ := owns_form hO2.row
  have HB2 := Lib.hid (bel_step HB6.out hb2)
  have KZ2 := Lib.hid (blk_step hb2 KZ.out)
  have HPS := Lib.hid hps2
  have hsz := HSZ.out
  have HO2 := Lib.hid (hO2.low (R := w.heap.size + 6) (Nat.le_of_eq hsz.symm))
  have z0 := (cell_blk KZ2.out 0).trans rfl
  have z1 := (cell_blk KZ2.out 1).trans rfl
  have zf := frozen_blk KZ2.out
  have hq := two_set KZ2.out (.slice oo2 ps2.length cc2) (.int .i64 f.room)
  have t0 := (cell_blk hq 0).trans rfl
  have t1 := (cell_blk hq 1).trans rfl
  have HA9 : Hid (Own _ w.heap.size _ _) := Lib.hid (((HO2.out.besides (b := w.heap.size + 5) (by omega) 0 (.slice oo2 ps2.length cc2)).besides (b := w.heap.size + 5) (by omega) 1 (.int .i64 f.room)).low (by omega))
  have HB9 := Lib.hid (bel_set2 (G := w.heap.size + 5) (x := .slice oo2 ps2.length cc2) (y := .int .i64 f.room) HB2.out (by omega))
  clear hps2 hO2 hb2 hq
  go_wp2
  refine bodyPost_ret (v := .tuple #[.agg #[.slice oo2 ps2.length cc2, .int .i64 f.room], .int .i64 0, .bool true]) (by simp [results, Tryz.results64, go_sem, t0, t1]) rfl ?_
  first
    | exact ⟨_, ps2, rfl, HPS.out, HA9.out, HB9.out⟩
    | exact ⟨_, rfl, ps2, HPS.out, HA9.out, HB9.out⟩

set_option maxRecDepth 100000 in
set_option maxHeartbeats 2000000 in
theorem setAt_not (f : FsD) (v : Value) (u g : Int) (s : ByteArray) (fol : Bool) (j2 : FuncId) (cap2 : Array Value) (w : World) (hR : FsA w v f) (hs : szF f ≤ 1048576) (hss : s.size ≤ 1048576) (hE : ErrT w) (hk : askB4 f u g = true) (nd : Nat) (hfd : lkFind f.nodes u g s.data.toList fol = (0, nd)) (hlt : nd < f.nodes.length) (q : Nod) (hcf : ∀ args w, (callFunc j2 args).run Tryz.prog w = .ok (.enter j2 args) w) (cd : Int) (hc : cd ≠ 0) (hset : SetSays w j2 cap2 nd (nodeAt f.nodes nd) q (errC cd)) :
    Calls Tryz.prog 64 #[v, .agg #[.int .i64 u, .int .i64 g], .string s, .bool fol, .func (.func j2) #[] cap2] w fun e w' => FsAns w (f.nodes) (f.room) (cd) true e w' := by
  have hmf : ∀ (fn : Fn) (first cap : Array Value) (w : World), (Instr.makeFunc fn first cap).run Tryz.prog w = .ok (.func fn first cap) w := fun _ _ _ _ => rfl
  unfold FsAns
  have HFIT : Hid (NodsFit f.nodes) := Lib.hid (by obtain ⟨nv, rfl, hN⟩ := hR; exact hN.fit)
  have HR := Lib.hid hR
  obtain ⟨nv, rfl, hN⟩ := hR
  obtain ⟨o, c, rfl, -, -⟩ := hN
  have HS := Lib.hid hs
  have HSS := Lib.hid hss
  have HET := Lib.hid hE
  have HB6 := Lib.hid (bel6 w (.cells #[.slice o f.nodes.length c, .int .i64 f.room] 34) (.cells #[.int .i64 u, .int .i64 g] 36) (.cells #[.string s] 9) (.cells #[.bool fol] 4) (.cells #[.func (.func j2) #[] cap2] 101) (.cells #[.slice none 0 0, .int .i64 0] 34))
  obtain ⟨k0, k1, k2, k3, k4, k5⟩ := al6 w (.cells #[.slice o f.nodes.length c, .int .i64 f.room] 34) (.cells #[.int .i64 u, .int .i64 g] 36) (.cells #[.string s] 9) (.cells #[.bool fol] 4) (.cells #[.func (.func j2) #[] cap2] 101) (.cells #[.slice none 0 0, .int .i64 0] 34)
  have HBX : Hid (SetBox _ (w.heap.size + 1) (w.heap.size + 2) (w.heap.size + 3) (w.heap.size + 4) u g s fol (.func (.func j2) #[] cap2)) := Lib.hid ⟨k1, k2, k3, k4⟩
  have KZ := Lib.hid k5
  have HSZ : Hid (((((((w.alloc (.cells #[.slice o f.nodes.length c, .int .i64 f.room] 34)).alloc (.cells #[.int .i64 u, .int .i64 g] 36)).alloc (.cells #[.string s] 9)).alloc (.cells #[.bool fol] 4)).alloc (.cells #[.func (.func j2) #[] cap2] 101)).alloc (.cells #[.slice none 0 0, .int .i64 0] 34)).heap.size = w.heap.size + 6) := Lib.hid (by simp)
  have HR6 := Lib.hid (HR.out.below HB6.out)
  have HE6 := Lib.hid (HET.out.below HB6.out HET.out.1)
  have HK := Lib.hid hk
  have HFD := Lib.hid hfd
  have HLT := Lib.hid hlt
  have HCF := Lib.hid hcf
  have HST6 := Lib.hid (hset.later HB6.out)
  have HCZ := Lib.hid hc
  clear hs hss hE k0 k1 k2 k3 k4 k5 hk hfd hlt hcf hset hc
  go_enter Tryz.func64, Tryz.ntmps64
  go_wp2_with fail
  refine (tryOn_bad f (errC cd) cd HCZ.out (fun W h => codeOfC_any cd W h) _ u g 0 100 _ _ HR6.out HS.out HE6.out HK.out (by decide) (enters_of Tryz.func100 (by kernel_rfl) rfl) (fun w1 d R nv ps h1 h2 h3 h4 h5 h6 => by rw [app1_4]; exact Calls.mono (setAt1_go f u g s fol _ 0 nd HFD.out HS.out HK.out HSS.out HFIT.out (w.heap.size + 1) (w.heap.size + 2) (w.heap.size + 3) (w.heap.size + 4) d R nv _ _ _ ps w1 (HBX.out.below h3) h4 h5 h6 rfl HLT.out h2 _ h3 h1 j2 cap2 rfl q (errC cd) HCF.out HST6.out) (fun e w' hh => by obtain ⟨a1, a2, nv9, ps9, a3, a4, a5⟩ := hh; exact ⟨a1, a2, nv9, ps9, a3, a5⟩))).mono ?_
  rintro e w2 ⟨nv2, ps2, rfl, hps2, hO2, hb2⟩
  obtain ⟨oo2, cc2, rfl, -⟩ := owns_form hO2.row
  have HB2 := Lib.hid (bel_step HB6.out hb2)
  have KZ2 := Lib.hid (blk_step hb2 KZ.out)
  have HPS := Lib.hid hps2
  have hsz := HSZ.out
  have HO2 := Lib.hid (hO2.low (R := w.heap.size + 6) (Nat.le_of_eq hsz.symm))
  have z0 := (cell_blk KZ2.out 0).trans rfl
  have z1 := (cell_blk KZ2.out 1).trans rfl
  have zf := frozen_blk KZ2.out
  have hq := two_set KZ2.out (.slice oo2 ps2.length cc2) (.int .i64 f.room)
  have t0 := (cell_blk hq 0).trans rfl
  have t1 := (cell_blk hq 1).trans rfl
  have HA9 : Hid (Own _ w.heap.size _ _) := Lib.hid (((HO2.out.besides (b := w.heap.size + 5) (by omega) 0 (.slice oo2 ps2.length cc2)).besides (b := w.heap.size + 5) (by omega) 1 (.int .i64 f.room)).low (by omega))
  have HB9 := Lib.hid (bel_set2 (G := w.heap.size + 5) (x := .slice oo2 ps2.length cc2) (y := .int .i64 f.room) HB2.out (by omega))
  clear hps2 hO2 hb2 hq
  go_wp2
  refine bodyPost_ret (v := .tuple #[.agg #[.slice oo2 ps2.length cc2, .int .i64 f.room], .int .i64 cd, .bool true]) (by simp [results, Tryz.results64, go_sem, t0, t1]) rfl ?_
  first
    | exact ⟨_, ps2, rfl, HPS.out, HA9.out, HB9.out⟩
    | exact ⟨_, rfl, ps2, HPS.out, HA9.out, HB9.out⟩

set_option maxRecDepth 100000 in
set_option maxHeartbeats 2000000 in
theorem setAt_no (f : FsD) (v : Value) (u g : Int) (s : ByteArray) (fol : Bool) (j2 : FuncId) (cap2 : Array Value) (w : World) (hR : FsA w v f) (hs : szF f ≤ 1048576) (hss : s.size ≤ 1048576) (hE : ErrT w) (hk : askB4 f u g = false) :
    Calls Tryz.prog 64 #[v, .agg #[.int .i64 u, .int .i64 g], .string s, .bool fol, .func (.func j2) #[] cap2] w fun e w' => FsAns w ([]) (0) (0) false e w' := by
  have hmf : ∀ (fn : Fn) (first cap : Array Value) (w : World), (Instr.makeFunc fn first cap).run Tryz.prog w = .ok (.func fn first cap) w := fun _ _ _ _ => rfl
  unfold FsAns
  have HFIT : Hid (NodsFit f.nodes) := Lib.hid (by obtain ⟨nv, rfl, hN⟩ := hR; exact hN.fit)
  have HR := Lib.hid hR
  obtain ⟨nv, rfl, hN⟩ := hR
  obtain ⟨o, c, rfl, -, -⟩ := hN
  have HS := Lib.hid hs
  have HSS := Lib.hid hss
  have HET := Lib.hid hE
  have HB6 := Lib.hid (bel6 w (.cells #[.slice o f.nodes.length c, .int .i64 f.room] 34) (.cells #[.int .i64 u, .int .i64 g] 36) (.cells #[.string s] 9) (.cells #[.bool fol] 4) (.cells #[.func (.func j2) #[] cap2] 101) (.cells #[.slice none 0 0, .int .i64 0] 34))
  obtain ⟨k0, k1, k2, k3, k4, k5⟩ := al6 w (.cells #[.slice o f.nodes.length c, .int .i64 f.room] 34) (.cells #[.int .i64 u, .int .i64 g] 36) (.cells #[.string s] 9) (.cells #[.bool fol] 4) (.cells #[.func (.func j2) #[] cap2] 101) (.cells #[.slice none 0 0, .int .i64 0] 34)
  have HBX : Hid (SetBox _ (w.heap.size + 1) (w.heap.size + 2) (w.heap.size + 3) (w.heap.size + 4) u g s fol (.func (.func j2) #[] cap2)) := Lib.hid ⟨k1, k2, k3, k4⟩
  have KZ := Lib.hid k5
  have HSZ : Hid (((((((w.alloc (.cells #[.slice o f.nodes.length c, .int .i64 f.room] 34)).alloc (.cells #[.int .i64 u, .int .i64 g] 36)).alloc (.cells #[.string s] 9)).alloc (.cells #[.bool fol] 4)).alloc (.cells #[.func (.func j2) #[] cap2] 101)).alloc (.cells #[.slice none 0 0, .int .i64 0] 34)).heap.size = w.heap.size + 6) := Lib.hid (by simp)
  have HR6 := Lib.hid (HR.out.below HB6.out)
  have HE6 := Lib.hid (HET.out.below HB6.out HET.out.1)
  have HK := Lib.hid hk
  clear hs hss hE k0 k1 k2 k3 k4 k5 hk
  go_enter Tryz.func64, Tryz.ntmps64
  go_wp2_with fail
  refine (tryOn_no f _ u g 0 100 _ _ HR6.out HS.out (by rw [HK.out]; rfl)).mono ?_
  rintro e w2 ⟨rfl, hb2⟩
  have HB2 := Lib.hid (bel_step HB6.out hb2)
  have KZ2 := Lib.hid (blk_step hb2 KZ.out)
  have z0 := (cell_blk KZ2.out 0).trans rfl
  have z1 := (cell_blk KZ2.out 1).trans rfl
  have zf := frozen_blk KZ2.out
  have hq := two_set KZ2.out (.slice none 0 0) (.int .i64 0)
  have t0 := (cell_blk hq 0).trans rfl
  have t1 := (cell_blk hq 1).trans rfl
  have HB9 := Lib.hid (bel_set2 (G := w.heap.size + 5) (x := .slice none 0 0) (y := .int .i64 0) HB2.out (by omega))
  clear hb2 hq
  go_wp2
  refine bodyPost_ret (v := .tuple #[.agg #[.slice none 0 0, .int .i64 0], .int .i64 0, .bool false]) (by simp [results, Tryz.results64, go_sem, t0, t1]) rfl ?_
  first
    | exact ⟨_, [], rfl, rfl, Own.nil _ _, HB9.out⟩
    | exact ⟨_, rfl, [], rfl, Own.nil _ _, HB9.out⟩
end Go.Proofs.YtpkmkpeabfmbiaaGreatDoor


/-
  The program's setAsOwner, SetMode and SetTime.
  Conditions: at most 2^20 values and letters together; a text of at most 2^20 bytes; the variable errors.errorType as the program's text lays it.
-/
namespace Go.Proofs.YtpkmkpeabfmbiaaGreatDoor
open Go.ChangeShapes Go.WideShapes Go.ChangeAt Go.RowKit Go.Joins Go.Shelf
set_option linter.unusedVariables false
set_option linter.unusedSimpArgs false

set_option maxHeartbeats 1000000 in
/-- setAt with the closure that asks for the owner. -/
theorem setAt_own (f : FsD) (v : Value) (u g : Int) (s : ByteArray) (j2 : FuncId) (cap2 : Array Value) (cb sb : Nat) (w : World) (h : Nod → Nod) (hR : FsA w v f) (hs : szF f ≤ 1048576) (hss : s.size ≤ 1048576) (hE : ErrT w) (hC : w.heap[cb]? = some (.cells #[.int .i64 u, .int .i64 g] 36)) (hS : w.heap[sb]? = some (.cells #[.func (.func j2) #[] cap2] 94))
    (hcf : ∀ args w, (callFunc j2 args).run Tryz.prog w = .ok (.enter j2 args) w) (hset : ∀ nd nq, SetSays w j2 cap2 nd nq (h nq) (.tuple #[])) :
    Calls Tryz.prog 64 #[v, .agg #[.int .i64 u, .int .i64 g], .string s, .bool true, .func (.func 97) #[] #[.pointer (some ⟨cb, 0, none⟩), .pointer (some ⟨sb, 0, none⟩)]] w fun e w' => FsAns w (setF (askB4 f u g) f (ownW f.nodes u g s.data.toList) h).nodes (setF (askB4 f u g) f (ownW f.nodes u g s.data.toList) h).room (setC (askB4 f u g) (ownW f.nodes u g s.data.toList)) (askB4 f u g) e w' := by
  have HCL : ∀ args w, (callFunc 97 args).run Tryz.prog w = .ok (.enter 97 args) w := enters_of Tryz.func97 (by kernel_rfl) rfl
  cases hk : askB4 f u g with
  | false => exact setAt_no f v u g s true _ _ w hR hs hss hE hk
  | true =>
    have HL := look_of (ask_good hk) hs
    obtain ⟨⟨cd, nd⟩, hfd⟩ : ∃ q, lkFind f.nodes u g s.data.toList true = q := ⟨_, rfl⟩
    have hlt : nd < f.nodes.length := by have h7 := lkFind_lt HL.1 u g s.data.toList true; rw [hfd] at h7; exact h7
    by_cases hc : cd = 0
    · subst hc
      by_cases hu : u ≠ 0 ∧ u ≠ (nodeAt f.nodes nd).uid
      · have hr : ownW f.nodes u g s.data.toList = (4, 0) := by unfold ownW; rw [hfd]; simp [hu]
        rw [hr, setF_bad (by simp)]
        exact setAt_not f v u g s true _ _ w hR hs hss hE hk nd hfd hlt _ HCL 4 (by decide) (setAsOwner1_no w cb sb u g .nilIface hC nd _ hu.1 hu.2)
      · have hr : ownW f.nodes u g s.data.toList = (0, nd) := by unfold ownW; rw [hfd]; simp [hu]
        rw [hr, setF_yes]
        exact setAt_go f v u g s true _ _ w hR hs hss hE hk nd hfd hlt _ HCL (setAsOwner1_yes w cb sb u g j2 cap2 hC hS nd _ _ (by
          by_cases h0 : u = 0
          · exact .inl h0
          · right
            by_cases h1 : u = (nodeAt f.nodes nd).uid
            · exact h1
            · exact absurd ⟨h0, h1⟩ hu) hcf (hset nd _))
    · have hr : ownW f.nodes u g s.data.toList = (cd, 0) := by unfold ownW; rw [hfd]; simp [hc]
      rw [hr, setF_bad (by simpa using hc)]
      exact setAt_bad f v u g s true _ _ w hR hs hss hE hk cd nd hfd hc
set_option maxRecDepth 100000 in
set_option maxHeartbeats 2000000 in
theorem setAsOwner_any (f : FsD) (v : Value) (u g : Int) (s : ByteArray) (j2 : FuncId) (cap2 : Array Value) (w : World) (h : Nod → Nod) (hR : FsA w v f) (hs : szF f ≤ 1048576) (hss : s.size ≤ 1048576) (hE : ErrT w)
    (hcf : ∀ args w, (callFunc j2 args).run Tryz.prog w = .ok (.enter j2 args) w) (hset : ∀ nd nq, SetSays w j2 cap2 nd nq (h nq) (.tuple #[])) :
    Calls Tryz.prog 54 #[v, .agg #[.int .i64 u, .int .i64 g], .string s, .func (.func j2) #[] cap2] w fun e w' => FsAns w (setF (askB4 f u g) f (ownW f.nodes u g s.data.toList) h).nodes (setF (askB4 f u g) f (ownW f.nodes u g s.data.toList) h).room (setC (askB4 f u g) (ownW f.nodes u g s.data.toList)) (askB4 f u g) e w' := by
  have hmf : ∀ (fn : Fn) (first cap : Array Value) (w : World), (Instr.makeFunc fn first cap).run Tryz.prog w = .ok (.func fn first cap) w := fun _ _ _ _ => rfl
  unfold FsAns
  have HR := Lib.hid hR
  have HS := Lib.hid hs
  have HSS := Lib.hid hss
  have HET := Lib.hid hE
  have HCF := Lib.hid hcf
  have HST := Lib.hid hset
  obtain ⟨F, hF⟩ : ∃ F, setF (askB4 f u g) f (ownW f.nodes u g s.data.toList) h = F := ⟨_, rfl⟩
  obtain ⟨CD, hCD⟩ : ∃ C, setC (askB4 f u g) (ownW f.nodes u g s.data.toList) = C := ⟨_, rfl⟩
  obtain ⟨AK, hAK⟩ : ∃ A, askB4 f u g = A := ⟨_, rfl⟩
  have HCALL : Hid (∀ (cb sb : Nat) (W : World) (v9 : Value), Below w.heap.size w W → FsA W v9 f → ErrT W → W.heap[cb]? = some (.cells #[.int .i64 u, .int .i64 g] 36) → W.heap[sb]? = some (.cells #[.func (.func j2) #[] cap2] 94) →
      Calls Tryz.prog 64 #[v9, .agg #[.int .i64 u, .int .i64 g], .string s, .bool true, .func (.func 97) #[] #[.pointer (some ⟨cb, 0, none⟩), .pointer (some ⟨sb, 0, none⟩)]] W fun e w' => ∃ nv ps, e = .returned (.tuple #[.agg #[nv, .int .i64 F.room], .int .i64 CD, .bool AK]) ∧ ps.map Prod.fst = F.nodes ∧ Own w' W.heap.size nv ps ∧ Below W.heap.size W w') := Lib.hid (fun cb sb W v9 h1 h2 h3 h4 h5 => by
    have hq := setAt_own f v9 u g s j2 cap2 cb sb W h h2 HS.out HSS.out h3 h4 h5 HCF.out (fun nd nq => (HST.out nd nq).later h1)
    rw [hF, hCD, hAK] at hq
    exact hq)
  rw [hF, hCD, hAK]
  obtain ⟨nv, rfl, hN⟩ := hR
  obtain ⟨o, c, rfl, -, -⟩ := hN
  have HB6 := Lib.hid (bel4 w (.cells #[.slice o f.nodes.length c, .int .i64 f.room] 34) (.cells #[.int .i64 u, .int .i64 g] 36) (.cells #[.func (.func j2) #[] cap2] 94) (.cells #[.slice none 0 0, .int .i64 0] 34))
  obtain ⟨k0, k1, k2, k3⟩ := al4s w (.cells #[.slice o f.nodes.length c, .int .i64 f.room] 34) (.cells #[.int .i64 u, .int .i64 g] 36) (.cells #[.func (.func j2) #[] cap2] 94) (.cells #[.slice none 0 0, .int .i64 0] 34)
  have K1 := Lib.hid k1
  have K2 := Lib.hid k2
  have KZ := Lib.hid k3
  have HSZ : Hid (((((w.alloc (.cells #[.slice o f.nodes.length c, .int .i64 f.room] 34)).alloc (.cells #[.int .i64 u, .int .i64 g] 36)).alloc (.cells #[.func (.func j2) #[] cap2] 94)).alloc (.cells #[.slice none 0 0, .int .i64 0] 34)).heap.size = w.heap.size + 4) := Lib.hid (by simp)
  have HR6 := Lib.hid (HR.out.below HB6.out)
  have HE6 := Lib.hid (HET.out.below HB6.out HET.out.1)
  clear hs hss hE k0 k1 k2 k3 hF hCD hAK hcf hset
  go_enter Tryz.func54, Tryz.ntmps54
  go_wp2_with fail
  refine (HCALL.out (w.heap.size + 1) (w.heap.size + 2) _ _ HB6.out HR6.out HE6.out K1.out K2.out).mono ?_
  rintro e w2 ⟨nv2, ps2, rfl, hps2, hO2, hb2⟩
  obtain ⟨oo2, cc2, rfl, -⟩ := owns_form hO2.row
  have HB2 := Lib.hid (bel_step HB6.out hb2)
  have KZ2 := Lib.hid (blk_step hb2 KZ.out)
  have HPS := Lib.hid hps2
  have hsz := HSZ.out
  have HO2 := Lib.hid (hO2.low (R := w.heap.size + 4) (Nat.le_of_eq hsz.symm))
  have z0 := (cell_blk KZ2.out 0).trans rfl
  have z1 := (cell_blk KZ2.out 1).trans rfl
  have zf := frozen_blk KZ2.out
  have hq := two_set KZ2.out (.slice oo2 ps2.length cc2) (.int .i64 F.room)
  have t0 := (cell_blk hq 0).trans rfl
  have t1 := (cell_blk hq 1).trans rfl
  have HA9 : Hid (Own _ w.heap.size _ _) := Lib.hid (((HO2.out.besides (b := w.heap.size + 3) (by omega) 0 (.slice oo2 ps2.length cc2)).besides (b := w.heap.size + 3) (by omega) 1 (.int .i64 F.room)).low (by omega))
  have HB9 := Lib.hid (bel_set2 (G := w.heap.size + 3) (x := .slice oo2 ps2.length cc2) (y := .int .i64 F.room) HB2.out (by omega))
  clear hps2 hO2 hb2 hq
  go_wp2
  refine bodyPost_ret (v := .tuple #[.agg #[.slice oo2 ps2.length cc2, .int .i64 F.room], .int .i64 CD, .bool AK]) (by simp [results, Tryz.results54, go_sem, t0, t1]) rfl ?_
  first
    | exact ⟨_, ps2, rfl, HPS.out, HA9.out, HB9.out⟩
    | exact ⟨_, rfl, ps2, HPS.out, HA9.out, HB9.out⟩

set_option maxRecDepth 100000 in
set_option maxHeartbeats 2000000 in
theorem setMode_any (f : FsD) (v : Value) (u g : Int) (s : ByteArray) (md : Int) (w : World) (hR : FsA w v f) (hs : szF f ≤ 1048576) (hss : s.size ≤ 1048576) (hE : ErrT w) :
    Calls Tryz.prog 26 #[v, .agg #[.int .i64 u, .int .i64 g], .string s, .int .i64 md] w fun e w' => FsAns w (setF (askMd f u g md) f (ownW f.nodes u g s.data.toList) (fun n => { n with mode := md })).nodes (setF (askMd f u g md) f (ownW f.nodes u g s.data.toList) (fun n => { n with mode := md })).room (setC (askMd f u g md) (ownW f.nodes u g s.data.toList)) (askMd f u g md) e w' := by
  have hmf : ∀ (fn : Fn) (first cap : Array Value) (w : World), (Instr.makeFunc fn first cap).run Tryz.prog w = .ok (.func fn first cap) w := fun _ _ _ _ => rfl
  unfold FsAns
  have HR := Lib.hid hR
  have HS := Lib.hid hs
  have HSS := Lib.hid hss
  have HET := Lib.hid hE
  cases hi : inB 0 511 md with
  | false =>
    have HI := Lib.hid hi
    have hA : (askMd f u g md) = false := by unfold askMd; rw [hi]; simp
    rw [hA]
    show Calls _ _ _ _ fun e w' => ∃ nv ps, e = .returned (.tuple #[.agg #[nv, .int .i64 0], .int .i64 0, .bool false]) ∧ ps.map Prod.fst = [] ∧ Own w' w.heap.size nv ps ∧ Below w.heap.size w w'
    obtain ⟨nv, rfl, hN⟩ := hR
    obtain ⟨o, c, rfl, -, -⟩ := hN
    have HB6 := Lib.hid (bel4 w (.cells #[.slice o f.nodes.length c, .int .i64 f.room] 34) (.cells #[.int .i64 u, .int .i64 g] 36) (.cells #[.int .i64 md] 3) (.cells #[.slice none 0 0, .int .i64 0] 34))
    obtain ⟨k0, k1, k2, k3⟩ := al4s w (.cells #[.slice o f.nodes.length c, .int .i64 f.room] 34) (.cells #[.int .i64 u, .int .i64 g] 36) (.cells #[.int .i64 md] 3) (.cells #[.slice none 0 0, .int .i64 0] 34)
    have K1 := Lib.hid k1
    have K2 := Lib.hid k2
    have KZ := Lib.hid k3
    have HSZ : Hid (((((w.alloc (.cells #[.slice o f.nodes.length c, .int .i64 f.room] 34)).alloc (.cells #[.int .i64 u, .int .i64 g] 36)).alloc (.cells #[.int .i64 md] 3)).alloc (.cells #[.slice none 0 0, .int .i64 0] 34)).heap.size = w.heap.size + 4) := Lib.hid (by simp)
    have HR6 := Lib.hid (HR.out.below HB6.out)
    have HE6 := Lib.hid (HET.out.below HB6.out HET.out.1)
    have m0 := (cell_blk K2.out 0).trans rfl
    clear hs hss hE k0 k1 k2 k3 hi hA
    have z0 := (cell_blk KZ.out 0).trans rfl
    have z1 := (cell_blk KZ.out 1).trans rfl
    have zf := frozen_blk KZ.out
    have hq := two_set KZ.out (.slice none 0 0) (.int .i64 0)
    have t0 := (cell_blk hq 0).trans rfl
    have t1 := (cell_blk hq 1).trans rfl
    have HB9 := Lib.hid (bel_set2 (G := w.heap.size + 3) (x := .slice none 0 0) (y := .int .i64 0) HB6.out (by omega))
    go_enter Tryz.func26, Tryz.ntmps26
    go_wp2_with fail
    refine (isMode_any _ _).mono ?_
    rintro e w1 ⟨rfl, rfl⟩
    rw [HI.out]
    go_wp2
    refine bodyPost_ret (v := .tuple #[.agg #[.slice none 0 0, .int .i64 0], .int .i64 0, .bool false]) (by simp [results, Tryz.results26, go_sem]) rfl ?_
    first
      | exact ⟨_, [], rfl, rfl, Own.nil _ _, by first | exact HB9.out | exact bel_al (bel_al (bel_al (bel_al (Below.refl _ w))))⟩
      | exact ⟨_, rfl, [], rfl, Own.nil _ _, by first | exact HB9.out | exact bel_al (bel_al (bel_al (bel_al (Below.refl _ w))))⟩
  | true =>
    have HI := Lib.hid hi
    have hA : (askMd f u g md) = askB4 f u g := by unfold askMd; rw [hi]; simp
    rw [hA]
    obtain ⟨F, hF⟩ : ∃ F, setF (askB4 f u g) f (ownW f.nodes u g s.data.toList) (fun n => { n with mode := md }) = F := ⟨_, rfl⟩
    obtain ⟨CD, hCD⟩ : ∃ C, setC (askB4 f u g) (ownW f.nodes u g s.data.toList) = C := ⟨_, rfl⟩
    obtain ⟨AK, hAK⟩ : ∃ A, askB4 f u g = A := ⟨_, rfl⟩
    have HCALL : Hid (∀ (mb : Nat) (W : World) (v9 : Value), Below w.heap.size w W → FsA W v9 f → ErrT W → W.heap[mb]? = some (.cells #[.int .i64 md] 3) →
        Calls Tryz.prog 54 #[v9, .agg #[.int .i64 u, .int .i64 g], .string s, .func (.func 55) #[] #[.pointer (some ⟨mb, 0, none⟩)]] W fun e w' => ∃ nv ps, e = .returned (.tuple #[.agg #[nv, .int .i64 F.room], .int .i64 CD, .bool AK]) ∧ ps.map Prod.fst = F.nodes ∧ Own w' W.heap.size nv ps ∧ Below W.heap.size W w') := Lib.hid (fun mb W v9 h1 h2 h3 h4 => by
      have hq := setAsOwner_any f v9 u g s 55 #[.pointer (some ⟨mb, 0, none⟩)] W (fun n => { n with mode := md }) h2 HS.out HSS.out h3 (enters_of Tryz.func55 (by kernel_rfl) rfl) (fun nd nq => setMode1_says W mb md h4 nd nq)
      rw [hF, hCD, hAK] at hq
      exact hq)
    rw [hF, hCD, hAK]
    obtain ⟨nv, rfl, hN⟩ := hR
    obtain ⟨o, c, rfl, -, -⟩ := hN
    have HB6 := Lib.hid (bel4 w (.cells #[.slice o f.nodes.length c, .int .i64 f.room] 34) (.cells #[.int .i64 u, .int .i64 g] 36) (.cells #[.int .i64 md] 3) (.cells #[.slice none 0 0, .int .i64 0] 34))
    obtain ⟨k0, k1, k2, k3⟩ := al4s w (.cells #[.slice o f.nodes.length c, .int .i64 f.room] 34) (.cells #[.int .i64 u, .int .i64 g] 36) (.cells #[.int .i64 md] 3) (.cells #[.slice none 0 0, .int .i64 0] 34)
    have K1 := Lib.hid k1
    have K2 := Lib.hid k2
    have KZ := Lib.hid k3
    have HSZ : Hid (((((w.alloc (.cells #[.slice o f.nodes.length c, .int .i64 f.room] 34)).alloc (.cells #[.int .i64 u, .int .i64 g] 36)).alloc (.cells #[.int .i64 md] 3)).alloc (.cells #[.slice none 0 0, .int .i64 0] 34)).heap.size = w.heap.size + 4) := Lib.hid (by simp)
    have HR6 := Lib.hid (HR.out.below HB6.out)
    have HE6 := Lib.hid (HET.out.below HB6.out HET.out.1)
    clear hs hss hE k0 k1 k2 k3 hF hCD hAK hA hi
    go_enter Tryz.func26, Tryz.ntmps26
    go_wp2_with fail
    refine (isMode_any _ _).mono ?_
    rintro e w1 ⟨rfl, rfl⟩
    rw [HI.out]
    go_wp2_with fail
    refine (HCALL.out (w.heap.size + 2) _ _ HB6.out HR6.out HE6.out K2.out).mono ?_
    rintro e w2 ⟨nv2, ps2, rfl, hps2, hO2, hb2⟩
    obtain ⟨oo2, cc2, rfl, -⟩ := owns_form hO2.row
    have HB2 := Lib.hid (bel_step HB6.out hb2)
    have KZ2 := Lib.hid (blk_step hb2 KZ.out)
    have HPS := Lib.hid hps2
    have hsz := HSZ.out
    have HO2 := Lib.hid (hO2.low (R := w.heap.size + 4) (Nat.le_of_eq hsz.symm))
    have z0 := (cell_blk KZ2.out 0).trans rfl
    have z1 := (cell_blk KZ2.out 1).trans rfl
    have zf := frozen_blk KZ2.out
    have hq := two_set KZ2.out (.slice oo2 ps2.length cc2) (.int .i64 F.room)
    have t0 := (cell_blk hq 0).trans rfl
    have t1 := (cell_blk hq 1).trans rfl
    have HA9 : Hid (Own _ w.heap.size _ _) := Lib.hid (((HO2.out.besides (b := w.heap.size + 3) (by omega) 0 (.slice oo2 ps2.length cc2)).besides (b := w.heap.size + 3) (by omega) 1 (.int .i64 F.room)).low (by omega))
    have HB9 := Lib.hid (bel_set2 (G := w.heap.size + 3) (x := .slice oo2 ps2.length cc2) (y := .int .i64 F.room) HB2.out (by omega))
    clear hps2 hO2 hb2 hq
    go_wp2
    refine bodyPost_ret (v := .tuple #[.agg #[.slice oo2 ps2.length cc2, .int .i64 F.room], .int .i64 CD, .bool AK]) (by simp [results, Tryz.results26, go_sem, t0, t1]) rfl ?_
    first
      | exact ⟨_, ps2, rfl, HPS.out, HA9.out, HB9.out⟩
      | exact ⟨_, rfl, ps2, HPS.out, HA9.out, HB9.out⟩

set_option maxRecDepth 100000 in
set_option maxHeartbeats 2000000 in
theorem setTime_any (f : FsD) (v : Value) (u g : Int) (s : ByteArray) (t : Int) (w : World) (hR : FsA w v f) (hs : szF f ≤ 1048576) (hss : s.size ≤ 1048576) (hE : ErrT w) :
    Calls Tryz.prog 29 #[v, .agg #[.int .i64 u, .int .i64 g], .string s, .int .i64 t] w fun e w' => FsAns w (setF (askT f u g t) f (ownW f.nodes u g s.data.toList) (fun n => { n with time := t })).nodes (setF (askT f u g t) f (ownW f.nodes u g s.data.toList) (fun n => { n with time := t })).room (setC (askT f u g t) (ownW f.nodes u g s.data.toList)) (askT f u g t) e w' := by
  have hmf : ∀ (fn : Fn) (first cap : Array Value) (w : World), (Instr.makeFunc fn first cap).run Tryz.prog w = .ok (.func fn first cap) w := fun _ _ _ _ => rfl
  unfold FsAns
  have HR := Lib.hid hR
  have HS := Lib.hid hs
  have HSS := Lib.hid hss
  have HET := Lib.hid hE
  cases hi : inB 0 1000000 t with
  | false =>
    have HI := Lib.hid hi
    have hA : (askT f u g t) = false := by unfold askT; rw [hi]; simp
    rw [hA]
    show Calls _ _ _ _ fun e w' => ∃ nv ps, e = .returned (.tuple #[.agg #[nv, .int .i64 0], .int .i64 0, .bool false]) ∧ ps.map Prod.fst = [] ∧ Own w' w.heap.size nv ps ∧ Below w.heap.size w w'
    obtain ⟨nv, rfl, hN⟩ := hR
    obtain ⟨o, c, rfl, -, -⟩ := hN
    have HB6 := Lib.hid (bel4 w (.cells #[.slice o f.nodes.length c, .int .i64 f.room] 34) (.cells #[.int .i64 u, .int .i64 g] 36) (.cells #[.int .i64 t] 3) (.cells #[.slice none 0 0, .int .i64 0] 34))
    obtain ⟨k0, k1, k2, k3⟩ := al4s w (.cells #[.slice o f.nodes.length c, .int .i64 f.room] 34) (.cells #[.int .i64 u, .int .i64 g] 36) (.cells #[.int .i64 t] 3) (.cells #[.slice none 0 0, .int .i64 0] 34)
    have K1 := Lib.hid k1
    have K2 := Lib.hid k2
    have KZ := Lib.hid k3
    have HSZ : Hid (((((w.alloc (.cells #[.slice o f.nodes.length c, .int .i64 f.room] 34)).alloc (.cells #[.int .i64 u, .int .i64 g] 36)).alloc (.cells #[.int .i64 t] 3)).alloc (.cells #[.slice none 0 0, .int .i64 0] 34)).heap.size = w.heap.size + 4) := Lib.hid (by simp)
    have HR6 := Lib.hid (HR.out.below HB6.out)
    have HE6 := Lib.hid (HET.out.below HB6.out HET.out.1)
    have m0 := (cell_blk K2.out 0).trans rfl
    clear hs hss hE k0 k1 k2 k3 hi hA
    have z0 := (cell_blk KZ.out 0).trans rfl
    have z1 := (cell_blk KZ.out 1).trans rfl
    have zf := frozen_blk KZ.out
    have hq := two_set KZ.out (.slice none 0 0) (.int .i64 0)
    have t0 := (cell_blk hq 0).trans rfl
    have t1 := (cell_blk hq 1).trans rfl
    have HB9 := Lib.hid (bel_set2 (G := w.heap.size + 3) (x := .slice none 0 0) (y := .int .i64 0) HB6.out (by omega))
    go_enter Tryz.func29, Tryz.ntmps29
    go_wp2_with fail
    refine (isTime_any _ _).mono ?_
    rintro e w1 ⟨rfl, rfl⟩
    rw [HI.out]
    go_wp2
    refine bodyPost_ret (v := .tuple #[.agg #[.slice none 0 0, .int .i64 0], .int .i64 0, .bool false]) (by simp [results, Tryz.results29, go_sem]) rfl ?_
    first
      | exact ⟨_, [], rfl, rfl, Own.nil _ _, by first | exact HB9.out | exact bel_al (bel_al (bel_al (bel_al (Below.refl _ w))))⟩
      | exact ⟨_, rfl, [], rfl, Own.nil _ _, by first | exact HB9.out | exact bel_al (bel_al (bel_al (bel_al (Below.refl _ w))))⟩
  | true =>
    have HI := Lib.hid hi
    have hA : (askT f u g t) = askB4 f u g := by unfold askT; rw [hi]; simp
    rw [hA]
    obtain ⟨F, hF⟩ : ∃ F, setF (askB4 f u g) f (ownW f.nodes u g s.data.toList) (fun n => { n with time := t }) = F := ⟨_, rfl⟩
    obtain ⟨CD, hCD⟩ : ∃ C, setC (askB4 f u g) (ownW f.nodes u g s.data.toList) = C := ⟨_, rfl⟩
    obtain ⟨AK, hAK⟩ : ∃ A, askB4 f u g = A := ⟨_, rfl⟩
    have HCALL : Hid (∀ (mb : Nat) (W : World) (v9 : Value), Below w.heap.size w W → FsA W v9 f → ErrT W → W.heap[mb]? = some (.cells #[.int .i64 t] 3) →
        Calls Tryz.prog 54 #[v9, .agg #[.int .i64 u, .int .i64 g], .string s, .func (.func 59) #[] #[.pointer (some ⟨mb, 0, none⟩)]] W fun e w' => ∃ nv ps, e = .returned (.tuple #[.agg #[nv, .int .i64 F.room], .int .i64 CD, .bool AK]) ∧ ps.map Prod.fst = F.nodes ∧ Own w' W.heap.size nv ps ∧ Below W.heap.size W w') := Lib.hid (fun mb W v9 h1 h2 h3 h4 => by
      have hq := setAsOwner_any f v9 u g s 59 #[.pointer (some ⟨mb, 0, none⟩)] W (fun n => { n with time := t }) h2 HS.out HSS.out h3 (enters_of Tryz.func59 (by kernel_rfl) rfl) (fun nd nq => setTime1_says W mb t h4 nd nq)
      rw [hF, hCD, hAK] at hq
      exact hq)
    rw [hF, hCD, hAK]
    obtain ⟨nv, rfl, hN⟩ := hR
    obtain ⟨o, c, rfl, -, -⟩ := hN
    have HB6 := Lib.hid (bel4 w (.cells #[.slice o f.nodes.length c, .int .i64 f.room] 34) (.cells #[.int .i64 u, .int .i64 g] 36) (.cells #[.int .i64 t] 3) (.cells #[.slice none 0 0, .int .i64 0] 34))
    obtain ⟨k0, k1, k2, k3⟩ := al4s w (.cells #[.slice o f.nodes.length c, .int .i64 f.room] 34) (.cells #[.int .i64 u, .int .i64 g] 36) (.cells #[.int .i64 t] 3) (.cells #[.slice none 0 0, .int .i64 0] 34)
    have K1 := Lib.hid k1
    have K2 := Lib.hid k2
    have KZ := Lib.hid k3
    have HSZ : Hid (((((w.alloc (.cells #[.slice o f.nodes.length c, .int .i64 f.room] 34)).alloc (.cells #[.int .i64 u, .int .i64 g] 36)).alloc (.cells #[.int .i64 t] 3)).alloc (.cells #[.slice none 0 0, .int .i64 0] 34)).heap.size = w.heap.size + 4) := Lib.hid (by simp)
    have HR6 := Lib.hid (HR.out.below HB6.out)
    have HE6 := Lib.hid (HET.out.below HB6.out HET.out.1)
    clear hs hss hE k0 k1 k2 k3 hF hCD hAK hA hi
    go_enter Tryz.func29, Tryz.ntmps29
    go_wp2_with fail
    refine (isTime_any _ _).mono ?_
    rintro e w1 ⟨rfl, rfl⟩
    rw [HI.out]
    go_wp2_with fail
    refine (HCALL.out (w.heap.size + 2) _ _ HB6.out HR6.out HE6.out K2.out).mono ?_
    rintro e w2 ⟨nv2, ps2, rfl, hps2, hO2, hb2⟩
    obtain ⟨oo2, cc2, rfl, -⟩ := owns_form hO2.row
    have HB2 := Lib.hid (bel_step HB6.out hb2)
    have KZ2 := Lib.hid (blk_step hb2 KZ.out)
    have HPS := Lib.hid hps2
    have hsz := HSZ.out
    have HO2 := Lib.hid (hO2.low (R := w.heap.size + 4) (Nat.le_of_eq hsz.symm))
    have z0 := (cell_blk KZ2.out 0).trans rfl
    have z1 := (cell_blk KZ2.out 1).trans rfl
    have zf := frozen_blk KZ2.out
    have hq := two_set KZ2.out (.slice oo2 ps2.length cc2) (.int .i64 F.room)
    have t0 := (cell_blk hq 0).trans rfl
    have t1 := (cell_blk hq 1).trans rfl
    have HA9 : Hid (Own _ w.heap.size _ _) := Lib.hid (((HO2.out.besides (b := w.heap.size + 3) (by omega) 0 (.slice oo2 ps2.length cc2)).besides (b := w.heap.size + 3) (by omega) 1 (.int .i64 F.room)).low (by omega))
    have HB9 := Lib.hid (bel_set2 (G := w.heap.size + 3) (x := .slice oo2 ps2.length cc2) (y := .int .i64 F.room) HB2.out (by omega))
    clear hps2 hO2 hb2 hq
    go_wp2
    refine bodyPost_ret (v := .tuple #[.agg #[.slice oo2 ps2.length cc2, .int .i64 F.room], .int .i64 CD, .bool AK]) (by simp [results, Tryz.results29, go_sem, t0, t1]) rfl ?_
    first
      | exact ⟨_, ps2, rfl, HPS.out, HA9.out, HB9.out⟩
      | exact ⟨_, rfl, ps2, HPS.out, HA9.out, HB9.out⟩
end Go.Proofs.YtpkmkpeabfmbiaaGreatDoor


/-
  What the listed variable errors.errorType gives a walk: its cell; and a world for a witness that holds it.
  Conditions: as each states.
-/
namespace Go.Proofs.YtpkmkpeabfmbiaaGreatDoor
open Go.ChangeShapes Go.WideShapes Go.ChangeAt Go.RowKit Go.Joins

theorem own : ownKnob Tryz.prog.godebug = none := by kernel_rfl
theorem laidOut : laidOutB Tryz.prog = true := by kernel_rfl
theorem gErr : Tryz.prog.globalNamed "errors.errorType" = some 0 := by kernel_rfl
theorem rtErr : (Tryz.prog.cutTypes.find? (·.1 == "internal/reflectlite.rtype")).map (·.2) = some 200 := by kernel_rfl
theorem oneErr : ((List.range Tryz.prog.types.size).filter fun t => Tryz.prog.rowNamed t [101, 114, 114, 111, 114]) = [68] := by kernel_rfl
theorem hdErr : typeHandle Tryz.prog 68 = .pointer (some ⟨2, 68, none⟩) := by kernel_rfl
theorem errT_of {W : World} (h : laidMetH Tryz.prog [("errors.errorType", Rows.laid_errors_errorType)] W) : ErrT W := by
  have h' : laidMet Tryz.prog [] W ∧ handlesMet Tryz.prog [("errors.errorType", Rows.laid_errors_errorType)] W := h
  obtain ⟨name, u, ty, e1, e2, e3, e4, e5⟩ := h'.2 _ (List.mem_singleton.2 rfl)
  have en : name = [101, 114, 114, 111, 114] := (Option.some.inj e1).symm
  subst en
  obtain rfl := Option.some.inj (rtErr.symm.trans e2)
  have hm : ty ∈ (List.range Tryz.prog.types.size).filter fun t => Tryz.prog.rowNamed t [101, 114, 114, 111, 114] := List.mem_filter.2 ⟨List.mem_range.2 e3, e4⟩
  rw [oneErr] at hm
  obtain rfl := List.mem_singleton.1 hm
  rw [hdErr] at e5
  have hc : W.cell? ⟨0, 0, none⟩ = some (.iface 200 (.agg #[.pointer (some ⟨2, 68, none⟩)])) := by simpa using World.var?_cell gErr e5 0
  refine ⟨?_, hc⟩
  rcases Nat.lt_or_ge 0 W.heap.size with hz | hz
  · exact hz
  · have hn : W.heap[0]? = none := Array.getElem?_eq_none hz
    simp [World.cell?, hn] at hc

/-- A world for a witness: the settled one, the variable's cell laid. -/
noncomputable def laidWorld (os : Os) : World :=
  { World.holding Tryz.prog os ⟨#[], #[], []⟩ with heap := (World.holding Tryz.prog os ⟨#[], #[], []⟩).heap.modify 0 fun
      | .cells _ t frozen => .cells #[.iface 200 (.agg #[.pointer (some ⟨2, 68, none⟩)])] t frozen
      | o => o }
end Go.Proofs.YtpkmkpeabfmbiaaGreatDoor
