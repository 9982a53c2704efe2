/-
  Joined: LayF PutM AddM.
  Conditions: as each states.
-/
import Derived.Test.YtjomkjnpflebaaaGreatDoorLib7
import Derived.Test.YtjomkjnpflebaaaGreatDoorLib8
import Derived.Test.YtjomkjnpflebaaaGreatDoorLib19
import Derived.Test.YtjomkjnpflebaaaGreatDoorLib20
import Derived.Test.YtjomkjnpflebaaaGreatDoorLib22

/-
  The contract of the model's l3Lay at a rising list: the list with one entry more.
  Conditions: at most 2^20 entries, the name not there.
-/
namespace Go.Proofs.YtjomkjnpflebaaaGreatDoor
open Go.ChangeShapes Go.WideShapes Go.ChangeAt Go.RowKit Go.Joins
set_option linter.unusedVariables false
set_option linter.unusedSimpArgs false

/-- One entry more, in new memory. -/
theorem l3Lay_in (es : List Ent) (R : Nat) (lv : Value) (x : Ent) (w : World) (hE : Ents w R lv es) (hs : es.length ≤ 1048576) (hr : Rise es) (hn : isE es x.name = false) :
    Calls Tryz.prog 94 #[lv, .agg #[.string (bs x.name), .int .i64 x.node]] w fun e w' => ∃ v', e = .returned v' ∧ Ents w' w.heap.size v' (insE es x) ∧ Below w.heap.size w w' := by
  have hE2 := hE
  rcases hE.2 with ⟨rfl, h⟩ | ⟨g, cap, cur, rfl, _⟩
  · obtain rfl : es = [] := List.eq_nil_of_length_eq_zero h
    refine (l3Lay_nil x w).mono ?_
    rintro e w' ⟨v', rfl, hE', hb⟩
    exact ⟨v', rfl, hE', hb⟩
  · refine (l3Lay_at es R g cap x w hE2 hs).mono ?_
    rintro e w' ⟨v', k, rfl, hk, hP, hE', hb⟩
    refine ⟨v', rfl, ?_, hb⟩
    have := laysAt_pos hr hn hk hP
    unfold insE
    rw [this]; exact hE'
end Go.Proofs.YtjomkjnpflebaaaGreatDoor


/-
  The model's l5Put (a name put into a directory) and l5Change.
  Conditions: at most 2^20 values and letters together.
-/
namespace Go.Proofs.YtjomkjnpflebaaaGreatDoor
open Go.ChangeShapes Go.WideShapes Go.ChangeAt Go.RowKit Go.Joins
set_option linter.unusedVariables false
set_option linter.unusedSimpArgs false

theorem grown_bel {w w' : World} (hb : Below w.heap.size w w') (row : Option Nat) : w.grownBy w' row := ⟨hb.os, hb.tape, hb.output, hb.size, fun i hi _ => hb.block i hi⟩
theorem ents_new {w : World} {R : Nat} {lv : Value} {es : List Ent} (h : Ents w R lv es) (h0 : 0 < es.length) : ∃ b, lv.ownBlock = some b ∧ R ≤ b := by
  rcases h.2 with ⟨rfl, hz⟩ | ⟨g, cap, cur, rfl, hB, _⟩
  · omega
  · exact ⟨g, rfl, hB⟩

set_option maxRecDepth 100000 in
set_option maxHeartbeats 8000000 in
theorem l5Put_any (f : FsD) (v : Value) (up : Nat) (nm : List UInt8) (nd t : Int) (w : World) (hR : FsA w v f) (hs : szF f ≤ 1048576) (hup : up < f.nodes.length) (hr : Rise (nodeAt f.nodes up).list) (hn : isE (nodeAt f.nodes up).list nm = false) :
    Calls Tryz.prog 60 #[v, .int .i64 up, .string (bs nm), .int .i64 nd, .int .i64 t] w fun e w' => ∃ nv ps, e = .returned (.agg #[nv, .int .i64 f.room]) ∧ ps.map Prod.fst = (putFs f up nm nd t).nodes ∧ Own w' w.heap.size nv ps ∧ Below w.heap.size w w' := by
  have HR := Lib.hid hR
  obtain ⟨nv, rfl, hN⟩ := hR
  obtain ⟨o, c, rfl, hm, hH⟩ := hN
  have HS := Lib.hid hs
  have hl : f.nodes.length ≤ 1048576 := (lists_small hs).1
  have HQL : Hid ((nodeAt f.nodes up).list.length ≤ 1048576) := Lib.hid ((lists_small hs).2 (nodeAt f.nodes up) (by rw [show nodeAt f.nodes up = f.nodes[up] from getD_at hup]; exact List.getElem_mem hup)).1
  have HRI := Lib.hid hr
  have HIS := Lib.hid hn
  have HB0 : Hid (Below w.heap.size w ((w.alloc (.cells #[.slice o f.nodes.length c, .int .i64 f.room] 30)).alloc (.cells #[.slice none 0 0, .int .i64 0] 30))) := Lib.hid (((Below.refl _ _).alloc (Nat.le_refl _) _).alloc (by simp) _)
  have KZ0 := Lib.hid (al2_1 w (.cells #[.slice o f.nodes.length c, .int .i64 f.room] 30) (.cells #[.slice none 0 0, .int .i64 0] 30))
  obtain ⟨xn, hxn⟩ : ∃ xn, xn = bs nm := ⟨_, rfl⟩
  have HXN := Lib.hid hxn
  rw [← hxn]
  clear hH hs hr hn hxn hm
  go_enter Tryz.func60, Tryz.ntmps60
  go_wp2_with fail
  refine (l3Own_any f _ _ (HR.out.below HB0.out) HS.out).mono ?_
  rintro e w2 ⟨nv2, ps2, rfl, hps2, hO2, hb2⟩
  obtain ⟨oo2, cc2, rfl, -⟩ := owns_form hO2.row
  have hlen : ps2.length = f.nodes.length := by rw [← hps2]; simp
  have hupl : up < ps2.length := by omega
  have hpl8 : ps2.length ≤ 1048576 := by omega
  have HPS := Lib.hid hps2
  have HB2 := Lib.hid (HB0.out.trans (hb2.mono HB0.out.size))
  have KZ2 := Lib.hid (blk_step hb2 KZ0.out)
  have hsz2 := lt_of_heap KZ2.out
  have HO2 := Lib.hid (hO2.low (R := w.heap.size + 2) (lt_of_heap KZ0.out))
  have HB2a := Lib.hid (HB2.out.alloc HB2.out.size (.cells #[.slice oo2 ps2.length cc2, .int .i64 f.room] 30))
  have KO2 := Lib.hid (heap_alloc_new w2 (.cells #[.slice oo2 ps2.length cc2, .int .i64 f.room] 30))
  have HO2a := Lib.hid (HO2.out.below ((Below.refl _ w2).alloc (Nat.le_refl _) (.cells #[.slice oo2 ps2.length cc2, .int .i64 f.room] 30)))
  have KZ2a := Lib.hid ((Below.heap_alloc w2 (.cells #[.slice oo2 ps2.length cc2, .int .i64 f.room] 30) _ (lt_of_heap KZ2.out)).trans KZ2.out)
  have hlt2 : ∀ b, (Value.slice oo2 ps2.length cc2).ownBlock = some b → b < w2.heap.size := HO2.out.ltE.1
  clear hps2 hO2 hb2 hlen
  go_wp2
  obtain ⟨W, hW⟩ : ∃ W, W = w2.alloc (.cells #[.slice oo2 ps2.length cc2, .int .i64 f.room] 30) := ⟨_, rfl⟩
  have hWs : W.heap.size = w2.heap.size + 1 := by rw [hW, World.size_alloc]
  rw [← hW] at HB2a KO2 HO2a KZ2a ⊢
  clear hW
  obtain ⟨g9, cap9, e9, hRg, hgl, hn9, hm9, hc9, hfr9⟩ := HO2a.out.at (i := up) hupl
  simp only [Value.slice.injEq, true_and] at e9
  obtain ⟨rfl, rfl⟩ := e9
  have hg2 : g9 < w2.heap.size := hlt2 g9 rfl
  have hq1 : ps2[up].1 = nodeAt f.nodes up := at_map HPS.out hupl
  have HEN : Hid (Ents W (w.heap.size + 2) ps2[up].2 (nodeAt f.nodes up).list) := Lib.hid (by rw [← hq1]; exact HO2a.out.ent _ (List.getElem_mem hupl))
  have x6 : W.cell? ⟨g9, up * 7 + 6, none⟩ = some ps2[up].2 := hc9.c6
  obtain ⟨lv, hlv⟩ : ∃ lv, lv = ps2[up].2 := ⟨_, rfl⟩
  have HLV := Lib.hid hlv
  rw [← hlv] at x6 HEN
  have HQ1 := Lib.hid hq1
  obtain ⟨oe, ce, rfl, -⟩ := owns_form HEN.out
  have ko0 : W.cell? ⟨w2.heap.size, 0, none⟩ = some (.slice (some ⟨g9, 0, none⟩) ps2.length cc2) := cell_blk KO2.out 0
  have HLAY := Lib.hid (l3Lay_in (nodeAt f.nodes up).list (w.heap.size + 2) (.slice oe (nodeAt f.nodes up).list.length ce) ⟨nm, nd⟩ W.drew HEN.out HQL.out HRI.out HIS.out)
  rw [← HXN.out] at HLAY
  clear hq1 hc9 hlt2 hlv
  go_region_with (first | (go_at_call 94; (with_reducible refine HLAY.out.mono ?_); rintro e w3 ⟨v3, rfl, hE3, hb3⟩; obtain ⟨o3, c3, rfl, -⟩ := owns_form hE3; have HE3 := Lib.hid hE3; have HB3 := Lib.hid hb3; have kk0 : w3.cell? ⟨w2.heap.size, 0, none⟩ = some (.slice (some ⟨g9, 0, none⟩) ps2.length cc2) := (hb3.cell (p := ⟨w2.heap.size, 0, none⟩) (by show w2.heap.size < W.heap.size; omega)).trans ko0; have kk6 : w3.cell? ⟨g9, up * 7 + 6, none⟩ = some (Value.slice oe (nodeAt f.nodes up).list.length ce) := (hb3.cell (p := ⟨g9, up * 7 + 6, none⟩) (by show g9 < W.heap.size; omega)).trans x6; have kkf : w3.frozen? ⟨g9, up * 7 + 6, none⟩ = false := (World.frozen?_of_block (hb3.block g9 (by show g9 < W.heap.size; omega))).trans (hfr9 _); clear hE3 hb3))
  all_goals
    have HOW := Lib.hid ((HO2a.out.up (w' := W.drew) (fun _ _ _ => rfl)).list hupl (lv' := (.slice o3 (insE (nodeAt f.nodes up).list ⟨nm, nd⟩).length c3)) (es' := insE (nodeAt f.nodes up).list ⟨nm, nd⟩) (grown_bel HB3.out _) (by have := HE3.out; exact owns_low this (by show w.heap.size + 2 ≤ W.heap.size; omega)) (.inr (by
      obtain ⟨b, h1, h2⟩ := ents_new HE3.out (by rw [insE_len]; omega)
      exact ⟨b, h1, h2⟩)))
    have KOs : Hid ((w3.setCell ⟨g9, up * 7 + 6, none⟩ (.slice o3 (insE (nodeAt f.nodes up).list ⟨nm, nd⟩).length c3)).heap[w2.heap.size]? = some (.cells #[.slice (some ⟨g9, 0, none⟩) ps2.length cc2, .int .i64 f.room] 30)) := Lib.hid ((Below.heap_setCell w3 ⟨g9, up * 7 + 6, none⟩ _ _ (by simp only; omega)).trans ((HB3.out.block _ (by show w2.heap.size < W.heap.size; omega)).trans KO2.out))
    have KZs : Hid ((w3.setCell ⟨g9, up * 7 + 6, none⟩ (.slice o3 (insE (nodeAt f.nodes up).list ⟨nm, nd⟩).length c3)).heap[w.heap.size + 1]? = some (.cells #[.slice none 0 0, .int .i64 0] 30)) := Lib.hid ((Below.heap_setCell w3 ⟨g9, up * 7 + 6, none⟩ _ _ (by simp only; omega)).trans ((HB3.out.block _ (lt_of_heap KZ2a.out)).trans KZ2a.out))
    have HBs : Hid (Below w.heap.size w (w3.setCell ⟨g9, up * 7 + 6, none⟩ (.slice o3 (insE (nodeAt f.nodes up).list ⟨nm, nd⟩).length c3))) := Lib.hid ((HB2a.out.drew.trans (HB3.out.mono HB2a.out.size)).setCell (p := ⟨g9, up * 7 + 6, none⟩) (by simp only; omega) _)
    obtain ⟨W4, hW4⟩ : ∃ W4, W4 = w3.setCell ⟨g9, up * 7 + 6, none⟩ (.slice o3 (insE (nodeAt f.nodes up).list ⟨nm, nd⟩).length c3) := ⟨_, rfl⟩
    rw [← hW4] at HOW KOs KZs HBs ⊢
    clear hW4 kk0 kk6 kkf
    obtain ⟨qs, hqs⟩ : ∃ qs, qs = ps2.set up ({ ps2[up].1 with list := insE (nodeAt f.nodes up).list ⟨nm, nd⟩ }, (.slice o3 (insE (nodeAt f.nodes up).list ⟨nm, nd⟩).length c3)) := ⟨_, rfl⟩
    have hql : qs.length = ps2.length := by rw [hqs]; simp
    rw [← hqs, ← hql] at HOW
    rw [← hql] at KOs
    have hqu : up < qs.length := by omega
    have hql9 : qs.length ≤ 1048576 := by omega
    clear hql
    have hq9 : qs[up]'hqu = ({ ps2[up].1 with list := insE (nodeAt f.nodes up).list ⟨nm, nd⟩ }, (.slice o3 (insE (nodeAt f.nodes up).list ⟨nm, nd⟩).length c3)) := by simp [hqs]
    obtain ⟨g8, cap8, e8, hRg8, hgl8, hn8, hm8, hc8, hfr8⟩ := HOW.out.at (i := up) hqu
    simp only [Value.slice.injEq, Option.some.injEq, Addr.mk.injEq, and_true, true_and] at e8
    obtain ⟨rfl, rfl⟩ := e8
    have x4 := hc8.c4
    have HWT := Lib.hid (HOW.out.turn (i := up) (j := 4) hqu (by decide) (.int .i64 t) { (qs[up]'hqu).1 with time := t } rfl rfl)
    have hMP : (qs.set up ({ (qs[up]'hqu).1 with time := t }, (qs[up]'hqu).2)).map Prod.fst = (putFs f up nm nd t).nodes := by
      rw [List.map_set, hq9, hqs, List.map_set, HPS.out, HQ1.out]
      simp [putFs, putN]
    have HMP := Lib.hid hMP
    have jo0 : W4.cell? ⟨w2.heap.size, 0, none⟩ = some (.slice (some ⟨g9, 0, none⟩) qs.length cc2) := cell_blk KOs.out 0
    have KO5 : Hid ((W4.setCell ⟨g9, up * 7 + 4, none⟩ (.int .i64 t)).heap[w2.heap.size]? = some (.cells #[.slice (some ⟨g9, 0, none⟩) qs.length cc2, .int .i64 f.room] 30)) := Lib.hid ((Below.heap_setCell W4 ⟨g9, up * 7 + 4, none⟩ _ _ (by simp only; omega)).trans KOs.out)
    have KZ5 : Hid ((W4.setCell ⟨g9, up * 7 + 4, none⟩ (.int .i64 t)).heap[w.heap.size + 1]? = some (.cells #[.slice none 0 0, .int .i64 0] 30)) := Lib.hid ((Below.heap_setCell W4 ⟨g9, up * 7 + 4, none⟩ _ _ (by simp only; omega)).trans KZs.out)
    have HB5 : Hid (Below w.heap.size w (W4.setCell ⟨g9, up * 7 + 4, none⟩ (.int .i64 t))) := Lib.hid (HBs.out.setCell (p := ⟨g9, up * 7 + 4, none⟩) (by simp only; omega) _)
    have j50 : (W4.setCell ⟨g9, up * 7 + 4, none⟩ (.int .i64 t)).cell? ⟨w2.heap.size, 0, none⟩ = some (.slice (some ⟨g9, 0, none⟩) qs.length cc2) := cell_blk KO5.out 0
    have j51 : (W4.setCell ⟨g9, up * 7 + 4, none⟩ (.int .i64 t)).cell? ⟨w2.heap.size, 1, none⟩ = some (.int .i64 f.room) := cell_blk KO5.out 1
    have z50 : (W4.setCell ⟨g9, up * 7 + 4, none⟩ (.int .i64 t)).cell? ⟨w.heap.size + 1, 0, none⟩ = some (.slice none 0 0) := cell_blk KZ5.out 0
    have z51 : (W4.setCell ⟨g9, up * 7 + 4, none⟩ (.int .i64 t)).cell? ⟨w.heap.size + 1, 1, none⟩ = some (.int .i64 0) := cell_blk KZ5.out 1
    have z5f := frozen_blk KZ5.out
    clear hqs hq9 hc8 hMP
    go_wp2
    have hq := two_set KZ5.out (.slice (some ⟨g9, 0, none⟩) qs.length cc2) (.int .i64 f.room)
    have t0 := (cell_blk hq 0).trans rfl
    have t1 := (cell_blk hq 1).trans rfl
    refine bodyPost_ret (v := .agg #[(.slice (some ⟨g9, 0, none⟩) qs.length cc2), .int .i64 f.room]) (by simp [results, Tryz.results60, go_sem, t0, t1]) rfl ?_
    first | refine ⟨_, _, rfl, HMP.out, ?_, bel_set2 HB5.out (by omega)⟩ | refine ⟨_, rfl, _, HMP.out, ?_, bel_set2 HB5.out (by omega)⟩
    have h9 := ((HWT.out.besides (b := w.heap.size + 1) (by omega) 0 (.slice (some ⟨g9, 0, none⟩) qs.length cc2)).besides (b := w.heap.size + 1) (by omega) 1 (.int .i64 f.room)).low (R := w.heap.size) (by omega)
    simpa using h9

set_option maxHeartbeats 2000000 in
theorem l5Change_is {f : FsD} {v : Value} {u g : Int} {m : Nat} {w : World} {b : Bool} (hb : mayB u g (nodeAt f.nodes m).mode (nodeAt f.nodes m).uid (nodeAt f.nodes m).gid 3 = b) (hR : FsA w v f) (hm : m < f.nodes.length) (hmo : inB 0 511 (nodeAt f.nodes m).mode = true) (hs : f.nodes.length ≤ 1048576) :
    Calls Tryz.prog 58 #[v, .agg #[.int .i64 u, .int .i64 g], .int .i64 m] w fun e w' => e = .returned (.bool b) ∧ Below w.heap.size w w' := by
  have HR := Lib.hid hR
  obtain ⟨nv, rfl, hN⟩ := hR
  obtain ⟨o, c, rfl, -, -⟩ := hN
  have HBM := Lib.hid hb
  have HMO := Lib.hid hmo
  have HB0 : Hid (Below w.heap.size w ((w.alloc (.cells #[.slice o f.nodes.length c, .int .i64 f.room] 30)).alloc (.cells #[.int .i64 u, .int .i64 g] 34))) := Lib.hid (((Below.refl _ _).alloc (Nat.le_refl _) _).alloc (by simp) _)
  clear hb hmo
  go_enter Tryz.func58, Tryz.ntmps58
  go_wp2_with fail
  refine (l4May_is HBM.out (HR.out.below HB0.out) hm HMO.out hs).mono ?_
  rintro e w1 ⟨rfl, hb1⟩
  have HB1 := Lib.hid (HB0.out.trans (hb1.mono HB0.out.size))
  clear hb1
  go_wp2
  go_ret
  exact ⟨rfl, HB1.out⟩
end Go.Proofs.YtjomkjnpflebaaaGreatDoor


/-
  The model's AddName: what it answers, as plain data, and walked.
  Conditions: at most 2^20 values and letters together; texts of at most 2^20 bytes.
-/
namespace Go.Proofs.YtjomkjnpflebaaaGreatDoor
open Go.ChangeShapes Go.WideShapes Go.ChangeAt Go.RowKit Go.Joins
set_option linter.unusedVariables false
set_option linter.unusedSimpArgs false

/-- What stands in the way of a new name, or nothing. -/
def spotC (f : FsD) (u g : Int) (l : List UInt8) : Int :=
  if (fp0 f.nodes u g l).1 ≠ 0 then (fp0 f.nodes u g l).1 else if isE (nodeAt f.nodes (fp0 f.nodes u g l).2.1).list (fp0 f.nodes u g l).2.2 = true then 6
  else if mayB u g (nodeAt f.nodes (fp0 f.nodes u g l).2.1).mode (nodeAt f.nodes (fp0 f.nodes u g l).2.1).uid (nodeAt f.nodes (fp0 f.nodes u g l).2.1).gid 3 = false then 4 else 0
def addC (f : FsD) (u g : Int) (l p : List UInt8) : Int :=
  if (lkFind f.nodes u g l false).1 ≠ 0 then (lkFind f.nodes u g l false).1 else if (nodeAt f.nodes (lkFind f.nodes u g l false).2).kind = 2 then 7 else spotC f u g p
def addG (f : FsD) (u g : Int) (l p : List UInt8) (t : Int) : FsD := putFs f (fp0 f.nodes u g p).2.1 (fp0 f.nodes u g p).2.2 ((lkFind f.nodes u g l false).2 : Nat) t
theorem spotC_bad {f : FsD} {u g : Int} {l : List UInt8} {cd : Int} {nd : Nat} {nm : List UInt8} (h : fp0 f.nodes u g l = (cd, nd, nm)) (hc : cd ≠ 0) : spotC f u g l = cd := by unfold spotC; rw [h]; simp [hc]
theorem spotC_there {f : FsD} {u g : Int} {l : List UInt8} {nd : Nat} {nm : List UInt8} (h : fp0 f.nodes u g l = (0, nd, nm)) (hi : isE (nodeAt f.nodes nd).list nm = true) : spotC f u g l = 6 := by unfold spotC; rw [h]; simp [hi]
theorem spotC_may {f : FsD} {u g : Int} {l : List UInt8} {nd : Nat} {nm : List UInt8} (h : fp0 f.nodes u g l = (0, nd, nm)) (hi : isE (nodeAt f.nodes nd).list nm = false) (hm : mayB u g (nodeAt f.nodes nd).mode (nodeAt f.nodes nd).uid (nodeAt f.nodes nd).gid 3 = false) : spotC f u g l = 4 := by unfold spotC; rw [h]; simp [hi, hm]
theorem spotC_ok {f : FsD} {u g : Int} {l : List UInt8} {nd : Nat} {nm : List UInt8} (h : fp0 f.nodes u g l = (0, nd, nm)) (hi : isE (nodeAt f.nodes nd).list nm = false) (hm : mayB u g (nodeAt f.nodes nd).mode (nodeAt f.nodes nd).uid (nodeAt f.nodes nd).gid 3 = true) : spotC f u g l = 0 := by unfold spotC; rw [h]; simp [hi, hm]
theorem spotC_zero {f : FsD} {u g : Int} {l : List UInt8} (h : spotC f u g l = 0) : ∃ nd nm, fp0 f.nodes u g l = (0, nd, nm) ∧ isE (nodeAt f.nodes nd).list nm = false ∧ mayB u g (nodeAt f.nodes nd).mode (nodeAt f.nodes nd).uid (nodeAt f.nodes nd).gid 3 = true := by
  obtain ⟨⟨cd, nd, nm⟩, hf⟩ : ∃ q, fp0 f.nodes u g l = q := ⟨_, rfl⟩
  by_cases hc : cd = 0
  · subst hc
    refine ⟨nd, nm, hf, ?_⟩
    cases hi : isE (nodeAt f.nodes nd).list nm with
    | true => rw [spotC_there hf hi] at h; cases h
    | false =>
      refine ⟨rfl, ?_⟩
      cases hm : mayB u g (nodeAt f.nodes nd).mode (nodeAt f.nodes nd).uid (nodeAt f.nodes nd).gid 3 with
      | true => rfl
      | false => rw [spotC_may hf hi hm] at h; cases h
  · rw [spotC_bad hf hc] at h; exact absurd h hc
theorem atE_there {f : FsD} (hg : goodF f = true) {i : Nat} {nm : List UInt8} (h : isE (nodeAt f.nodes i).list nm = true) : 0 ≤ atE (nodeAt f.nodes i).list nm := by
  have hr := rise_node (good_nods hg) i
  rw [atE_is hr, if_pos h]
  have hl : posE (nodeAt f.nodes i).list nm < (nodeAt f.nodes i).list.length := by unfold isE at h; simp at h; exact h.1
  rw [show (nodeAt f.nodes i).list.getD (posE (nodeAt f.nodes i).list nm) ent0 = (nodeAt f.nodes i).list[posE (nodeAt f.nodes i).list nm] from getE_at hl]
  have hi : i < f.nodes.length := by
    rcases Nat.lt_or_ge i f.nodes.length with h1 | h1
    · exact h1
    · have : nodeAt f.nodes i = ⟨0, 0, 0, 0, 0, [], []⟩ := by unfold nodeAt; rw [List.getD_eq_getElem?_getD, List.getElem?_eq_none h1]; rfl
      rw [this] at hl; simp at hl
  exact (leadI (good_nods hg) _ (by rw [show nodeAt f.nodes i = f.nodes[i] from getD_at hi]; exact List.getElem_mem hi) _ (List.getElem_mem hl)).1
theorem atE_not {f : FsD} (hg : goodF f = true) {i : Nat} {nm : List UInt8} (h : isE (nodeAt f.nodes i).list nm = false) : atE (nodeAt f.nodes i).list nm = -1 := by
  rw [atE_is (rise_node (good_nods hg) i), if_neg (by rw [h]; decide)]
theorem l3At_isA {es : List Ent} {v : Value} {p : ByteArray} {w : World} {y : Int} (h : atE es p.data.toList = y) (hR : EntsA w v es) (hs : es.length ≤ 1048576) : Calls Tryz.prog 57 #[v, .string p] w fun e w' => e = .returned (.int .i64 y) ∧ Below w.heap.size w w' := by
  rw [← h]; exact l3At_any es v p w hR hs
theorem mode_at {f : FsD} (hg : goodF f = true) {i : Nat} (hi : i < f.nodes.length) (hk : (nodeAt f.nodes i).kind = 2) : inB 0 511 (nodeAt f.nodes i).mode = true := by
  have h1 := node_ok (good_nods hg) hi
  unfold nodOkI at h1
  rw [if_neg (by omega)] at h1
  simp only [Bool.and_eq_true] at h1
  exact h1.1


set_option maxRecDepth 100000 in
set_option maxHeartbeats 8000000 in
theorem l5Add_A (f : FsD) (v : Value) (u g : Int) (s p : ByteArray) (t : Int) (w : World) (hR : FsA w v f) (hs : szF f ≤ 1048576) (hk : askB4 f u g = true) (hss : s.size ≤ 1048576) (hsp : p.size ≤ 1048576) (cd : Int) (nd : Nat) (hfd : lkFind f.nodes u g s.data.toList false = (cd, nd)) (hc : cd ≠ 0) :
    Calls Tryz.prog 41 #[v, .agg #[.int .i64 u, .int .i64 g], .string s, .string p, .int .i64 t] w fun e w' => ∃ v', e = .returned (.tuple #[v', .int .i64 cd]) ∧ FsA w' v' f ∧ Below w.heap.size w w' := by
  have HR := Lib.hid hR
  obtain ⟨nv, rfl, hN⟩ := hR
  obtain ⟨o, c, rfl, hm, hH⟩ := hN
  have hpos : 0 < f.nodes.length := by have := lkFind_lt (look_of (ask_good hk) hs).1 u g s.data.toList false; omega
  obtain ⟨g0, f0, lv0, rfl, -⟩ := hH 0 hpos
  have HH := Lib.hid hH
  have HS := Lib.hid hs
  have HK := Lib.hid hk
  have HSS := Lib.hid hss
  have HSP := Lib.hid hsp
  have hl : f.nodes.length ≤ 1048576 := (lists_small hs).1
  have HL := Lib.hid (look_of (ask_good hk) hs)
  have HGD := Lib.hid (ask_good hk)
  have HB0 : Hid (Below w.heap.size w (((w.alloc (.cells #[.slice (some ⟨g0, f0, none⟩) f.nodes.length c, .int .i64 f.room] 30)).alloc (.cells #[.int .i64 u, .int .i64 g] 34)).alloc (.cells #[.slice none 0 0, .int .i64 0] 30))) := Lib.hid ((((Below.refl _ _).alloc (Nat.le_refl _) _).alloc (by simp) _).alloc (by simp; omega) _)
  have KA0 := Lib.hid (m3_0 w (.cells #[.slice (some ⟨g0, f0, none⟩) f.nodes.length c, .int .i64 f.room] 30) (.cells #[.int .i64 u, .int .i64 g] 34) (.cells #[.slice none 0 0, .int .i64 0] 30))
  have KB0 := Lib.hid (m3_1 w (.cells #[.slice (some ⟨g0, f0, none⟩) f.nodes.length c, .int .i64 f.room] 30) (.cells #[.int .i64 u, .int .i64 g] 34) (.cells #[.slice none 0 0, .int .i64 0] 30))
  have KZ0 := Lib.hid (m3_2 w (.cells #[.slice (some ⟨g0, f0, none⟩) f.nodes.length c, .int .i64 f.room] 30) (.cells #[.int .i64 u, .int .i64 g] 34) (.cells #[.slice none 0 0, .int .i64 0] 30))
  clear hH hs hk hss hsp hm
  have HFD := Lib.hid hfd
  clear hfd
  go_enter Tryz.func41, Tryz.ntmps41
  go_wp2_with fail
  refine (l4Find_isM HFD.out (HR.out.below HB0.out) HL.out.1 HL.out.2 (by have := HSS.out; omega)).mono ?_
  rintro e w1 ⟨rfl, hb1⟩
  have HB1 := Lib.hid (HB0.out.trans (hb1.mono HB0.out.size))
  have KA1 := Lib.hid (blk_step hb1 KA0.out)
  have KB1 := Lib.hid (blk_step hb1 KB0.out)
  have KZ1 := Lib.hid (blk_step hb1 KZ0.out)
  clear hb1
  have KA1c0 : w1.cell? ⟨w.heap.size, 0, none⟩ = some (.slice (some ⟨g0, f0, none⟩) f.nodes.length c) := cell_blk KA1.out 0
  have KA1c1 : w1.cell? ⟨w.heap.size, 1, none⟩ = some (.int .i64 f.room) := cell_blk KA1.out 1
  have KZ1c0 : w1.cell? ⟨w.heap.size + 2, 0, none⟩ = some (.slice none 0 0) := cell_blk KZ1.out 0
  have KZ1c1 : w1.cell? ⟨w.heap.size + 2, 1, none⟩ = some (.int .i64 0) := cell_blk KZ1.out 1
  have KZ1f := frozen_blk KZ1.out
  have hq := two_set KZ1.out (.slice (some ⟨g0, f0, none⟩) f.nodes.length c) (.int .i64 f.room)
  have t0 := (cell_blk hq 0).trans rfl
  have t1 := (cell_blk hq 1).trans rfl
  go_wp2
  refine bodyPost_ret (v := .tuple #[.agg #[.slice (some ⟨g0, f0, none⟩) f.nodes.length c, .int .i64 f.room], .int .i64 cd]) (by simp [results, Tryz.results41, go_sem, t0, t1]) rfl ?_
  have hB9 := bel_set2 (G := w.heap.size + 2) (x := (.slice (some ⟨g0, f0, none⟩) f.nodes.length c)) (y := .int .i64 f.room) HB1.out (by omega)
  first
    | exact ⟨_, rfl, HR.out.below hB9, hB9⟩
    | exact ⟨rfl, HR.out.below hB9, hB9⟩


set_option maxRecDepth 100000 in
set_option maxHeartbeats 8000000 in
theorem l5Add_B (f : FsD) (v : Value) (u g : Int) (s p : ByteArray) (t : Int) (w : World) (hR : FsA w v f) (hs : szF f ≤ 1048576) (hk : askB4 f u g = true) (hss : s.size ≤ 1048576) (hsp : p.size ≤ 1048576) (nd : Nat) (hfd : lkFind f.nodes u g s.data.toList false = (0, nd)) (hkk : (nodeAt f.nodes nd).kind = 2) :
    Calls Tryz.prog 41 #[v, .agg #[.int .i64 u, .int .i64 g], .string s, .string p, .int .i64 t] w fun e w' => ∃ v', e = .returned (.tuple #[v', .int .i64 7]) ∧ FsA w' v' f ∧ Below w.heap.size w w' := by
  have HR := Lib.hid hR
  obtain ⟨nv, rfl, hN⟩ := hR
  obtain ⟨o, c, rfl, hm, hH⟩ := hN
  have hpos : 0 < f.nodes.length := by have := lkFind_lt (look_of (ask_good hk) hs).1 u g s.data.toList false; omega
  obtain ⟨g0, f0, lv0, rfl, -⟩ := hH 0 hpos
  have HH := Lib.hid hH
  have HS := Lib.hid hs
  have HK := Lib.hid hk
  have HSS := Lib.hid hss
  have HSP := Lib.hid hsp
  have hl : f.nodes.length ≤ 1048576 := (lists_small hs).1
  have HL := Lib.hid (look_of (ask_good hk) hs)
  have HGD := Lib.hid (ask_good hk)
  have HB0 : Hid (Below w.heap.size w (((w.alloc (.cells #[.slice (some ⟨g0, f0, none⟩) f.nodes.length c, .int .i64 f.room] 30)).alloc (.cells #[.int .i64 u, .int .i64 g] 34)).alloc (.cells #[.slice none 0 0, .int .i64 0] 30))) := Lib.hid ((((Below.refl _ _).alloc (Nat.le_refl _) _).alloc (by simp) _).alloc (by simp; omega) _)
  have KA0 := Lib.hid (m3_0 w (.cells #[.slice (some ⟨g0, f0, none⟩) f.nodes.length c, .int .i64 f.room] 30) (.cells #[.int .i64 u, .int .i64 g] 34) (.cells #[.slice none 0 0, .int .i64 0] 30))
  have KB0 := Lib.hid (m3_1 w (.cells #[.slice (some ⟨g0, f0, none⟩) f.nodes.length c, .int .i64 f.room] 30) (.cells #[.int .i64 u, .int .i64 g] 34) (.cells #[.slice none 0 0, .int .i64 0] 30))
  have KZ0 := Lib.hid (m3_2 w (.cells #[.slice (some ⟨g0, f0, none⟩) f.nodes.length c, .int .i64 f.room] 30) (.cells #[.int .i64 u, .int .i64 g] 34) (.cells #[.slice none 0 0, .int .i64 0] 30))
  clear hH hs hk hss hsp hm
  have HFD := Lib.hid hfd
  clear hfd
  go_enter Tryz.func41, Tryz.ntmps41
  go_wp2_with fail
  refine (l4Find_isM HFD.out (HR.out.below HB0.out) HL.out.1 HL.out.2 (by have := HSS.out; omega)).mono ?_
  rintro e w1 ⟨rfl, hb1⟩
  have HB1 := Lib.hid (HB0.out.trans (hb1.mono HB0.out.size))
  have KA1 := Lib.hid (blk_step hb1 KA0.out)
  have KB1 := Lib.hid (blk_step hb1 KB0.out)
  have KZ1 := Lib.hid (blk_step hb1 KZ0.out)
  clear hb1
  have KA1c0 : w1.cell? ⟨w.heap.size, 0, none⟩ = some (.slice (some ⟨g0, f0, none⟩) f.nodes.length c) := cell_blk KA1.out 0
  have KA1c1 : w1.cell? ⟨w.heap.size, 1, none⟩ = some (.int .i64 f.room) := cell_blk KA1.out 1
  have KZ1c0 : w1.cell? ⟨w.heap.size + 2, 0, none⟩ = some (.slice none 0 0) := cell_blk KZ1.out 0
  have KZ1c1 : w1.cell? ⟨w.heap.size + 2, 1, none⟩ = some (.int .i64 0) := cell_blk KZ1.out 1
  have KZ1f := frozen_blk KZ1.out
  have hlt : nd < f.nodes.length := by have h7 := lkFind_lt HL.out.1 u g s.data.toList false; rw [HFD.out] at h7; exact h7
  obtain ⟨g3, f3, lv3, e3, hcc, hee⟩ := nod_cells (c := c) HH.out hlt HB1.out
  have d0 := hcc.c0
  simp only [Option.some.injEq, Addr.mk.injEq, and_true] at e3
  obtain ⟨rfl, rfl⟩ := e3
  obtain ⟨kd, hkd⟩ : ∃ kd, kd = (nodeAt f.nodes nd).kind := ⟨_, rfl⟩
  rw [← hkd] at d0 hkk
  clear hcc hee hkd
  have hq := two_set KZ1.out (.slice (some ⟨g0, f0, none⟩) f.nodes.length c) (.int .i64 f.room)
  have t0 := (cell_blk hq 0).trans rfl
  have t1 := (cell_blk hq 1).trans rfl
  go_wp2
  refine bodyPost_ret (v := .tuple #[.agg #[.slice (some ⟨g0, f0, none⟩) f.nodes.length c, .int .i64 f.room], .int .i64 7]) (by simp [results, Tryz.results41, go_sem, t0, t1]) rfl ?_
  have hB9 := bel_set2 (G := w.heap.size + 2) (x := (.slice (some ⟨g0, f0, none⟩) f.nodes.length c)) (y := .int .i64 f.room) HB1.out (by omega)
  first
    | exact ⟨_, rfl, HR.out.below hB9, hB9⟩
    | exact ⟨rfl, HR.out.below hB9, hB9⟩


set_option maxRecDepth 100000 in
set_option maxHeartbeats 8000000 in
theorem l5Add_C (f : FsD) (v : Value) (u g : Int) (s p : ByteArray) (t : Int) (w : World) (hR : FsA w v f) (hs : szF f ≤ 1048576) (hk : askB4 f u g = true) (hss : s.size ≤ 1048576) (hsp : p.size ≤ 1048576) (nd : Nat) (hfd : lkFind f.nodes u g s.data.toList false = (0, nd)) (hkk : (nodeAt f.nodes nd).kind ≠ 2) (c2 : Int) (up : Nat) (nm : List UInt8) (hfp : fp0 f.nodes u g p.data.toList = (c2, up, nm)) (hc2 : c2 ≠ 0) :
    Calls Tryz.prog 41 #[v, .agg #[.int .i64 u, .int .i64 g], .string s, .string p, .int .i64 t] w fun e w' => ∃ v', e = .returned (.tuple #[v', .int .i64 c2]) ∧ FsA w' v' f ∧ Below w.heap.size w w' := by
  have HR := Lib.hid hR
  obtain ⟨nv, rfl, hN⟩ := hR
  obtain ⟨o, c, rfl, hm, hH⟩ := hN
  have hpos : 0 < f.nodes.length := by have := lkFind_lt (look_of (ask_good hk) hs).1 u g s.data.toList false; omega
  obtain ⟨g0, f0, lv0, rfl, -⟩ := hH 0 hpos
  have HH := Lib.hid hH
  have HS := Lib.hid hs
  have HK := Lib.hid hk
  have HSS := Lib.hid hss
  have HSP := Lib.hid hsp
  have hl : f.nodes.length ≤ 1048576 := (lists_small hs).1
  have HL := Lib.hid (look_of (ask_good hk) hs)
  have HGD := Lib.hid (ask_good hk)
  have HB0 : Hid (Below w.heap.size w (((w.alloc (.cells #[.slice (some ⟨g0, f0, none⟩) f.nodes.length c, .int .i64 f.room] 30)).alloc (.cells #[.int .i64 u, .int .i64 g] 34)).alloc (.cells #[.slice none 0 0, .int .i64 0] 30))) := Lib.hid ((((Below.refl _ _).alloc (Nat.le_refl _) _).alloc (by simp) _).alloc (by simp; omega) _)
  have KA0 := Lib.hid (m3_0 w (.cells #[.slice (some ⟨g0, f0, none⟩) f.nodes.length c, .int .i64 f.room] 30) (.cells #[.int .i64 u, .int .i64 g] 34) (.cells #[.slice none 0 0, .int .i64 0] 30))
  have KB0 := Lib.hid (m3_1 w (.cells #[.slice (some ⟨g0, f0, none⟩) f.nodes.length c, .int .i64 f.room] 30) (.cells #[.int .i64 u, .int .i64 g] 34) (.cells #[.slice none 0 0, .int .i64 0] 30))
  have KZ0 := Lib.hid (m3_2 w (.cells #[.slice (some ⟨g0, f0, none⟩) f.nodes.length c, .int .i64 f.room] 30) (.cells #[.int .i64 u, .int .i64 g] 34) (.cells #[.slice none 0 0, .int .i64 0] 30))
  clear hH hs hk hss hsp hm
  have HFD := Lib.hid hfd
  have HFP := Lib.hid hfp
  clear hfd hfp
  go_enter Tryz.func41, Tryz.ntmps41
  go_wp2_with fail
  refine (l4Find_isM HFD.out (HR.out.below HB0.out) HL.out.1 HL.out.2 (by have := HSS.out; omega)).mono ?_
  rintro e w1 ⟨rfl, hb1⟩
  have HB1 := Lib.hid (HB0.out.trans (hb1.mono HB0.out.size))
  have KA1 := Lib.hid (blk_step hb1 KA0.out)
  have KB1 := Lib.hid (blk_step hb1 KB0.out)
  have KZ1 := Lib.hid (blk_step hb1 KZ0.out)
  clear hb1
  have KA1c0 : w1.cell? ⟨w.heap.size, 0, none⟩ = some (.slice (some ⟨g0, f0, none⟩) f.nodes.length c) := cell_blk KA1.out 0
  have KA1c1 : w1.cell? ⟨w.heap.size, 1, none⟩ = some (.int .i64 f.room) := cell_blk KA1.out 1
  have KB1c0 : w1.cell? ⟨w.heap.size + 1, 0, none⟩ = some (.int .i64 u) := cell_blk KB1.out 0
  have KB1c1 : w1.cell? ⟨w.heap.size + 1, 1, none⟩ = some (.int .i64 g) := cell_blk KB1.out 1
  have hlt : nd < f.nodes.length := by have h7 := lkFind_lt HL.out.1 u g s.data.toList false; rw [HFD.out] at h7; exact h7
  obtain ⟨g3, f3, lv3, e3, hcc, hee⟩ := nod_cells (c := c) HH.out hlt HB1.out
  have d0 := hcc.c0
  simp only [Option.some.injEq, Addr.mk.injEq, and_true] at e3
  obtain ⟨rfl, rfl⟩ := e3
  obtain ⟨kd, hkd⟩ : ∃ kd, kd = (nodeAt f.nodes nd).kind := ⟨_, rfl⟩
  rw [← hkd] at d0 hkk
  clear hcc hee hkd
  have hkb : (kd == 2) = false := by simpa using hkk
  go_wp2_with fail
  refine (l4Place_is HFP.out (HR.out.below HB1.out) HS.out HK.out HSP.out).mono ?_
  rintro e w2 ⟨rfl, hb2⟩
  have HB2 := Lib.hid (HB1.out.trans (hb2.mono HB1.out.size))
  have KA2 := Lib.hid (blk_step hb2 KA1.out)
  have KB2 := Lib.hid (blk_step hb2 KB1.out)
  have KZ2 := Lib.hid (blk_step hb2 KZ1.out)
  clear hb2
  clear d0
  clear KA1c0 KA1c1 KB1c0 KB1c1
  have KA2c0 : w2.cell? ⟨w.heap.size, 0, none⟩ = some (.slice (some ⟨g0, f0, none⟩) f.nodes.length c) := cell_blk KA2.out 0
  have KA2c1 : w2.cell? ⟨w.heap.size, 1, none⟩ = some (.int .i64 f.room) := cell_blk KA2.out 1
  have KZ2c0 : w2.cell? ⟨w.heap.size + 2, 0, none⟩ = some (.slice none 0 0) := cell_blk KZ2.out 0
  have KZ2c1 : w2.cell? ⟨w.heap.size + 2, 1, none⟩ = some (.int .i64 0) := cell_blk KZ2.out 1
  have KZ2f := frozen_blk KZ2.out
  have hq := two_set KZ2.out (.slice (some ⟨g0, f0, none⟩) f.nodes.length c) (.int .i64 f.room)
  have t0 := (cell_blk hq 0).trans rfl
  have t1 := (cell_blk hq 1).trans rfl
  go_wp2
  refine bodyPost_ret (v := .tuple #[.agg #[.slice (some ⟨g0, f0, none⟩) f.nodes.length c, .int .i64 f.room], .int .i64 c2]) (by simp [results, Tryz.results41, go_sem, t0, t1]) rfl ?_
  have hB9 := bel_set2 (G := w.heap.size + 2) (x := (.slice (some ⟨g0, f0, none⟩) f.nodes.length c)) (y := .int .i64 f.room) HB2.out (by omega)
  first
    | exact ⟨_, rfl, HR.out.below hB9, hB9⟩
    | exact ⟨rfl, HR.out.below hB9, hB9⟩


set_option maxRecDepth 100000 in
set_option maxHeartbeats 8000000 in
theorem l5Add_D (f : FsD) (v : Value) (u g : Int) (s p : ByteArray) (t : Int) (w : World) (hR : FsA w v f) (hs : szF f ≤ 1048576) (hk : askB4 f u g = true) (hss : s.size ≤ 1048576) (hsp : p.size ≤ 1048576) (nd : Nat) (hfd : lkFind f.nodes u g s.data.toList false = (0, nd)) (hkk : (nodeAt f.nodes nd).kind ≠ 2) (up : Nat) (nm : List UInt8) (hfp : fp0 f.nodes u g p.data.toList = (0, up, nm)) (hup : up < f.nodes.length) (hkd2 : (nodeAt f.nodes up).kind = 2) (y : Int) (hat : atE (nodeAt f.nodes up).list nm = y) (hy : 0 ≤ y) :
    Calls Tryz.prog 41 #[v, .agg #[.int .i64 u, .int .i64 g], .string s, .string p, .int .i64 t] w fun e w' => ∃ v', e = .returned (.tuple #[v', .int .i64 6]) ∧ FsA w' v' f ∧ Below w.heap.size w w' := by
  have HR := Lib.hid hR
  obtain ⟨nv, rfl, hN⟩ := hR
  obtain ⟨o, c, rfl, hm, hH⟩ := hN
  have hpos : 0 < f.nodes.length := by have := lkFind_lt (look_of (ask_good hk) hs).1 u g s.data.toList false; omega
  obtain ⟨g0, f0, lv0, rfl, -⟩ := hH 0 hpos
  have HH := Lib.hid hH
  have HS := Lib.hid hs
  have HK := Lib.hid hk
  have HSS := Lib.hid hss
  have HSP := Lib.hid hsp
  have hl : f.nodes.length ≤ 1048576 := (lists_small hs).1
  have HL := Lib.hid (look_of (ask_good hk) hs)
  have HGD := Lib.hid (ask_good hk)
  have HB0 : Hid (Below w.heap.size w (((w.alloc (.cells #[.slice (some ⟨g0, f0, none⟩) f.nodes.length c, .int .i64 f.room] 30)).alloc (.cells #[.int .i64 u, .int .i64 g] 34)).alloc (.cells #[.slice none 0 0, .int .i64 0] 30))) := Lib.hid ((((Below.refl _ _).alloc (Nat.le_refl _) _).alloc (by simp) _).alloc (by simp; omega) _)
  have KA0 := Lib.hid (m3_0 w (.cells #[.slice (some ⟨g0, f0, none⟩) f.nodes.length c, .int .i64 f.room] 30) (.cells #[.int .i64 u, .int .i64 g] 34) (.cells #[.slice none 0 0, .int .i64 0] 30))
  have KB0 := Lib.hid (m3_1 w (.cells #[.slice (some ⟨g0, f0, none⟩) f.nodes.length c, .int .i64 f.room] 30) (.cells #[.int .i64 u, .int .i64 g] 34) (.cells #[.slice none 0 0, .int .i64 0] 30))
  have KZ0 := Lib.hid (m3_2 w (.cells #[.slice (some ⟨g0, f0, none⟩) f.nodes.length c, .int .i64 f.room] 30) (.cells #[.int .i64 u, .int .i64 g] 34) (.cells #[.slice none 0 0, .int .i64 0] 30))
  clear hH hs hk hss hsp hm
  have HFD := Lib.hid hfd
  have HFP := Lib.hid hfp
  clear hfd hfp
  go_enter Tryz.func41, Tryz.ntmps41
  go_wp2_with fail
  refine (l4Find_isM HFD.out (HR.out.below HB0.out) HL.out.1 HL.out.2 (by have := HSS.out; omega)).mono ?_
  rintro e w1 ⟨rfl, hb1⟩
  have HB1 := Lib.hid (HB0.out.trans (hb1.mono HB0.out.size))
  have KA1 := Lib.hid (blk_step hb1 KA0.out)
  have KB1 := Lib.hid (blk_step hb1 KB0.out)
  have KZ1 := Lib.hid (blk_step hb1 KZ0.out)
  clear hb1
  have KA1c0 : w1.cell? ⟨w.heap.size, 0, none⟩ = some (.slice (some ⟨g0, f0, none⟩) f.nodes.length c) := cell_blk KA1.out 0
  have KA1c1 : w1.cell? ⟨w.heap.size, 1, none⟩ = some (.int .i64 f.room) := cell_blk KA1.out 1
  have KB1c0 : w1.cell? ⟨w.heap.size + 1, 0, none⟩ = some (.int .i64 u) := cell_blk KB1.out 0
  have KB1c1 : w1.cell? ⟨w.heap.size + 1, 1, none⟩ = some (.int .i64 g) := cell_blk KB1.out 1
  have hlt : nd < f.nodes.length := by have h7 := lkFind_lt HL.out.1 u g s.data.toList false; rw [HFD.out] at h7; exact h7
  obtain ⟨g3, f3, lv3, e3, hcc, hee⟩ := nod_cells (c := c) HH.out hlt HB1.out
  have d0 := hcc.c0
  simp only [Option.some.injEq, Addr.mk.injEq, and_true] at e3
  obtain ⟨rfl, rfl⟩ := e3
  obtain ⟨kd, hkd⟩ : ∃ kd, kd = (nodeAt f.nodes nd).kind := ⟨_, rfl⟩
  rw [← hkd] at d0 hkk
  clear hcc hee hkd
  have hkb : (kd == 2) = false := by simpa using hkk
  go_wp2_with fail
  refine (l4Place_is HFP.out (HR.out.below HB1.out) HS.out HK.out HSP.out).mono ?_
  rintro e w2 ⟨rfl, hb2⟩
  have HB2 := Lib.hid (HB1.out.trans (hb2.mono HB1.out.size))
  have KA2 := Lib.hid (blk_step hb2 KA1.out)
  have KB2 := Lib.hid (blk_step hb2 KB1.out)
  have KZ2 := Lib.hid (blk_step hb2 KZ1.out)
  clear hb2
  clear d0
  clear KA1c0 KA1c1 KB1c0 KB1c1
  have KA2c0 : w2.cell? ⟨w.heap.size, 0, none⟩ = some (.slice (some ⟨g0, f0, none⟩) f.nodes.length c) := cell_blk KA2.out 0
  have KA2c1 : w2.cell? ⟨w.heap.size, 1, none⟩ = some (.int .i64 f.room) := cell_blk KA2.out 1
  obtain ⟨g4, f4, lv4, e4, hcc4, hee4⟩ := nod_cells (c := c) HH.out hup HB2.out
  have d6 := hcc4.c6
  simp only [Option.some.injEq, Addr.mk.injEq, and_true] at e4
  obtain ⟨rfl, rfl⟩ := e4
  obtain ⟨oe, ce, rfl, hle, -⟩ := id hee4
  have HEE := Lib.hid hee4
  have HLL : Hid ((nodeAt f.nodes up).list.length ≤ 1048576) := Lib.hid ((lists_small HS.out).2 (nodeAt f.nodes up) (by rw [show nodeAt f.nodes up = f.nodes[up] from getD_at hup]; exact List.getElem_mem hup)).1
  obtain ⟨xn, hxn⟩ : ∃ xn, xn = bs nm := ⟨_, rfl⟩
  have hxl : xn.data.toList = nm := by rw [hxn]; exact bs_list _
  have HAT : Hid (atE (nodeAt f.nodes up).list xn.data.toList = y) := Lib.hid (by rw [hxl]; exact hat)
  rw [← hxn]
  have HXN := Lib.hid hxn
  clear hcc4 hee4 hxn hxl hat
  go_wp2_with fail
  refine (l3At_isA HAT.out HEE.out HLL.out).mono ?_
  rintro e w3 ⟨rfl, hb3⟩
  have HB3 := Lib.hid (HB2.out.trans (hb3.mono HB2.out.size))
  have KA3 := Lib.hid (blk_step hb3 KA2.out)
  have KB3 := Lib.hid (blk_step hb3 KB2.out)
  have KZ3 := Lib.hid (blk_step hb3 KZ2.out)
  clear hb3
  clear d6
  clear KA2c0 KA2c1
  have KA3c0 : w3.cell? ⟨w.heap.size, 0, none⟩ = some (.slice (some ⟨g0, f0, none⟩) f.nodes.length c) := cell_blk KA3.out 0
  have KA3c1 : w3.cell? ⟨w.heap.size, 1, none⟩ = some (.int .i64 f.room) := cell_blk KA3.out 1
  have KZ3c0 : w3.cell? ⟨w.heap.size + 2, 0, none⟩ = some (.slice none 0 0) := cell_blk KZ3.out 0
  have KZ3c1 : w3.cell? ⟨w.heap.size + 2, 1, none⟩ = some (.int .i64 0) := cell_blk KZ3.out 1
  have KZ3f := frozen_blk KZ3.out
  have hyb : ¬ (y < 0) := by omega
  have hq := two_set KZ3.out (.slice (some ⟨g0, f0, none⟩) f.nodes.length c) (.int .i64 f.room)
  have t0 := (cell_blk hq 0).trans rfl
  have t1 := (cell_blk hq 1).trans rfl
  go_wp2
  refine bodyPost_ret (v := .tuple #[.agg #[.slice (some ⟨g0, f0, none⟩) f.nodes.length c, .int .i64 f.room], .int .i64 6]) (by simp [results, Tryz.results41, go_sem, t0, t1]) rfl ?_
  have hB9 := bel_set2 (G := w.heap.size + 2) (x := (.slice (some ⟨g0, f0, none⟩) f.nodes.length c)) (y := .int .i64 f.room) HB3.out (by omega)
  first
    | exact ⟨_, rfl, HR.out.below hB9, hB9⟩
    | exact ⟨rfl, HR.out.below hB9, hB9⟩


set_option maxRecDepth 100000 in
set_option maxHeartbeats 8000000 in
theorem l5Add_E (f : FsD) (v : Value) (u g : Int) (s p : ByteArray) (t : Int) (w : World) (hR : FsA w v f) (hs : szF f ≤ 1048576) (hk : askB4 f u g = true) (hss : s.size ≤ 1048576) (hsp : p.size ≤ 1048576) (nd : Nat) (hfd : lkFind f.nodes u g s.data.toList false = (0, nd)) (hkk : (nodeAt f.nodes nd).kind ≠ 2) (up : Nat) (nm : List UInt8) (hfp : fp0 f.nodes u g p.data.toList = (0, up, nm)) (hup : up < f.nodes.length) (hkd2 : (nodeAt f.nodes up).kind = 2) (hat : atE (nodeAt f.nodes up).list nm = -1) (hmo : inB 0 511 (nodeAt f.nodes up).mode = true) (hmb : mayB u g (nodeAt f.nodes up).mode (nodeAt f.nodes up).uid (nodeAt f.nodes up).gid 3 = false) :
    Calls Tryz.prog 41 #[v, .agg #[.int .i64 u, .int .i64 g], .string s, .string p, .int .i64 t] w fun e w' => ∃ v', e = .returned (.tuple #[v', .int .i64 4]) ∧ FsA w' v' f ∧ Below w.heap.size w w' := by
  have HMO := Lib.hid hmo
  have HMB := Lib.hid hmb
  clear hmo hmb
  have HR := Lib.hid hR
  obtain ⟨nv, rfl, hN⟩ := hR
  obtain ⟨o, c, rfl, hm, hH⟩ := hN
  have hpos : 0 < f.nodes.length := by have := lkFind_lt (look_of (ask_good hk) hs).1 u g s.data.toList false; omega
  obtain ⟨g0, f0, lv0, rfl, -⟩ := hH 0 hpos
  have HH := Lib.hid hH
  have HS := Lib.hid hs
  have HK := Lib.hid hk
  have HSS := Lib.hid hss
  have HSP := Lib.hid hsp
  have hl : f.nodes.length ≤ 1048576 := (lists_small hs).1
  have HL := Lib.hid (look_of (ask_good hk) hs)
  have HGD := Lib.hid (ask_good hk)
  have HB0 : Hid (Below w.heap.size w (((w.alloc (.cells #[.slice (some ⟨g0, f0, none⟩) f.nodes.length c, .int .i64 f.room] 30)).alloc (.cells #[.int .i64 u, .int .i64 g] 34)).alloc (.cells #[.slice none 0 0, .int .i64 0] 30))) := Lib.hid ((((Below.refl _ _).alloc (Nat.le_refl _) _).alloc (by simp) _).alloc (by simp; omega) _)
  have KA0 := Lib.hid (m3_0 w (.cells #[.slice (some ⟨g0, f0, none⟩) f.nodes.length c, .int .i64 f.room] 30) (.cells #[.int .i64 u, .int .i64 g] 34) (.cells #[.slice none 0 0, .int .i64 0] 30))
  have KB0 := Lib.hid (m3_1 w (.cells #[.slice (some ⟨g0, f0, none⟩) f.nodes.length c, .int .i64 f.room] 30) (.cells #[.int .i64 u, .int .i64 g] 34) (.cells #[.slice none 0 0, .int .i64 0] 30))
  have KZ0 := Lib.hid (m3_2 w (.cells #[.slice (some ⟨g0, f0, none⟩) f.nodes.length c, .int .i64 f.room] 30) (.cells #[.int .i64 u, .int .i64 g] 34) (.cells #[.slice none 0 0, .int .i64 0] 30))
  clear hH hs hk hss hsp hm
  have HFD := Lib.hid hfd
  have HFP := Lib.hid hfp
  clear hfd hfp
  go_enter Tryz.func41, Tryz.ntmps41
  go_wp2_with fail
  refine (l4Find_isM HFD.out (HR.out.below HB0.out) HL.out.1 HL.out.2 (by have := HSS.out; omega)).mono ?_
  rintro e w1 ⟨rfl, hb1⟩
  have HB1 := Lib.hid (HB0.out.trans (hb1.mono HB0.out.size))
  have KA1 := Lib.hid (blk_step hb1 KA0.out)
  have KB1 := Lib.hid (blk_step hb1 KB0.out)
  have KZ1 := Lib.hid (blk_step hb1 KZ0.out)
  clear hb1
  have KA1c0 : w1.cell? ⟨w.heap.size, 0, none⟩ = some (.slice (some ⟨g0, f0, none⟩) f.nodes.length c) := cell_blk KA1.out 0
  have KA1c1 : w1.cell? ⟨w.heap.size, 1, none⟩ = some (.int .i64 f.room) := cell_blk KA1.out 1
  have KB1c0 : w1.cell? ⟨w.heap.size + 1, 0, none⟩ = some (.int .i64 u) := cell_blk KB1.out 0
  have KB1c1 : w1.cell? ⟨w.heap.size + 1, 1, none⟩ = some (.int .i64 g) := cell_blk KB1.out 1
  have hlt : nd < f.nodes.length := by have h7 := lkFind_lt HL.out.1 u g s.data.toList false; rw [HFD.out] at h7; exact h7
  obtain ⟨g3, f3, lv3, e3, hcc, hee⟩ := nod_cells (c := c) HH.out hlt HB1.out
  have d0 := hcc.c0
  simp only [Option.some.injEq, Addr.mk.injEq, and_true] at e3
  obtain ⟨rfl, rfl⟩ := e3
  obtain ⟨kd, hkd⟩ : ∃ kd, kd = (nodeAt f.nodes nd).kind := ⟨_, rfl⟩
  rw [← hkd] at d0 hkk
  clear hcc hee hkd
  have hkb : (kd == 2) = false := by simpa using hkk
  go_wp2_with fail
  refine (l4Place_is HFP.out (HR.out.below HB1.out) HS.out HK.out HSP.out).mono ?_
  rintro e w2 ⟨rfl, hb2⟩
  have HB2 := Lib.hid (HB1.out.trans (hb2.mono HB1.out.size))
  have KA2 := Lib.hid (blk_step hb2 KA1.out)
  have KB2 := Lib.hid (blk_step hb2 KB1.out)
  have KZ2 := Lib.hid (blk_step hb2 KZ1.out)
  clear hb2
  clear d0
  clear KA1c0 KA1c1 KB1c0 KB1c1
  have KA2c0 : w2.cell? ⟨w.heap.size, 0, none⟩ = some (.slice (some ⟨g0, f0, none⟩) f.nodes.length c) := cell_blk KA2.out 0
  have KA2c1 : w2.cell? ⟨w.heap.size, 1, none⟩ = some (.int .i64 f.room) := cell_blk KA2.out 1
  obtain ⟨g4, f4, lv4, e4, hcc4, hee4⟩ := nod_cells (c := c) HH.out hup HB2.out
  have d6 := hcc4.c6
  simp only [Option.some.injEq, Addr.mk.injEq, and_true] at e4
  obtain ⟨rfl, rfl⟩ := e4
  obtain ⟨oe, ce, rfl, hle, -⟩ := id hee4
  have HEE := Lib.hid hee4
  have HLL : Hid ((nodeAt f.nodes up).list.length ≤ 1048576) := Lib.hid ((lists_small HS.out).2 (nodeAt f.nodes up) (by rw [show nodeAt f.nodes up = f.nodes[up] from getD_at hup]; exact List.getElem_mem hup)).1
  obtain ⟨xn, hxn⟩ : ∃ xn, xn = bs nm := ⟨_, rfl⟩
  have hxl : xn.data.toList = nm := by rw [hxn]; exact bs_list _
  have HAT : Hid (atE (nodeAt f.nodes up).list xn.data.toList = -1) := Lib.hid (by rw [hxl]; exact hat)
  rw [← hxn]
  have HXN := Lib.hid hxn
  clear hcc4 hee4 hxn hxl hat
  go_wp2_with fail
  refine (l3At_isA HAT.out HEE.out HLL.out).mono ?_
  rintro e w3 ⟨rfl, hb3⟩
  have HB3 := Lib.hid (HB2.out.trans (hb3.mono HB2.out.size))
  have KA3 := Lib.hid (blk_step hb3 KA2.out)
  have KB3 := Lib.hid (blk_step hb3 KB2.out)
  have KZ3 := Lib.hid (blk_step hb3 KZ2.out)
  clear hb3
  clear d6
  clear KA2c0 KA2c1
  have KA3c0 : w3.cell? ⟨w.heap.size, 0, none⟩ = some (.slice (some ⟨g0, f0, none⟩) f.nodes.length c) := cell_blk KA3.out 0
  have KA3c1 : w3.cell? ⟨w.heap.size, 1, none⟩ = some (.int .i64 f.room) := cell_blk KA3.out 1
  have KB3c0 : w3.cell? ⟨w.heap.size + 1, 0, none⟩ = some (.int .i64 u) := cell_blk KB3.out 0
  have KB3c1 : w3.cell? ⟨w.heap.size + 1, 1, none⟩ = some (.int .i64 g) := cell_blk KB3.out 1
  go_wp2_with fail
  refine (l5Change_is HMB.out (HR.out.below HB3.out) hup HMO.out hl).mono ?_
  rintro e w4 ⟨rfl, hb4⟩
  have HB4 := Lib.hid (HB3.out.trans (hb4.mono HB3.out.size))
  have KA4 := Lib.hid (blk_step hb4 KA3.out)
  have KB4 := Lib.hid (blk_step hb4 KB3.out)
  have KZ4 := Lib.hid (blk_step hb4 KZ3.out)
  clear hb4
  clear KA3c0 KA3c1 KB3c0 KB3c1
  have KA4c0 : w4.cell? ⟨w.heap.size, 0, none⟩ = some (.slice (some ⟨g0, f0, none⟩) f.nodes.length c) := cell_blk KA4.out 0
  have KA4c1 : w4.cell? ⟨w.heap.size, 1, none⟩ = some (.int .i64 f.room) := cell_blk KA4.out 1
  have KZ4c0 : w4.cell? ⟨w.heap.size + 2, 0, none⟩ = some (.slice none 0 0) := cell_blk KZ4.out 0
  have KZ4c1 : w4.cell? ⟨w.heap.size + 2, 1, none⟩ = some (.int .i64 0) := cell_blk KZ4.out 1
  have KZ4f := frozen_blk KZ4.out
  have hq := two_set KZ4.out (.slice (some ⟨g0, f0, none⟩) f.nodes.length c) (.int .i64 f.room)
  have t0 := (cell_blk hq 0).trans rfl
  have t1 := (cell_blk hq 1).trans rfl
  go_wp2
  refine bodyPost_ret (v := .tuple #[.agg #[.slice (some ⟨g0, f0, none⟩) f.nodes.length c, .int .i64 f.room], .int .i64 4]) (by simp [results, Tryz.results41, go_sem, t0, t1]) rfl ?_
  have hB9 := bel_set2 (G := w.heap.size + 2) (x := (.slice (some ⟨g0, f0, none⟩) f.nodes.length c)) (y := .int .i64 f.room) HB4.out (by omega)
  first
    | exact ⟨_, rfl, HR.out.below hB9, hB9⟩
    | exact ⟨rfl, HR.out.below hB9, hB9⟩


set_option maxRecDepth 100000 in
set_option maxHeartbeats 8000000 in
theorem l5Add_F (f : FsD) (v : Value) (u g : Int) (s p : ByteArray) (t : Int) (w : World) (hR : FsA w v f) (hs : szF f ≤ 1048576) (hk : askB4 f u g = true) (hss : s.size ≤ 1048576) (hsp : p.size ≤ 1048576) (nd : Nat) (hfd : lkFind f.nodes u g s.data.toList false = (0, nd)) (hkk : (nodeAt f.nodes nd).kind ≠ 2) (up : Nat) (nm : List UInt8) (hfp : fp0 f.nodes u g p.data.toList = (0, up, nm)) (hup : up < f.nodes.length) (hkd2 : (nodeAt f.nodes up).kind = 2) (hat : atE (nodeAt f.nodes up).list nm = -1) (hmo : inB 0 511 (nodeAt f.nodes up).mode = true) (hmb : mayB u g (nodeAt f.nodes up).mode (nodeAt f.nodes up).uid (nodeAt f.nodes up).gid 3 = true) (hri : Rise (nodeAt f.nodes up).list) (hie : isE (nodeAt f.nodes up).list nm = false) (hnf : NodsFit f.nodes) (hnl : nm.length ≤ 8) :
    Calls Tryz.prog 41 #[v, .agg #[.int .i64 u, .int .i64 g], .string s, .string p, .int .i64 t] w fun e w' => ∃ v', e = .returned (.tuple #[v', .int .i64 0]) ∧ FsA w' v' (putFs f up nm nd t) ∧ Below w.heap.size w w' := by
  have HMO := Lib.hid hmo
  have HMB := Lib.hid hmb
  have HRI := Lib.hid hri
  have HIE := Lib.hid hie
  have HNF := Lib.hid hnf
  clear hmo hmb hri hie hnf
  have HR := Lib.hid hR
  obtain ⟨nv, rfl, hN⟩ := hR
  obtain ⟨o, c, rfl, hm, hH⟩ := hN
  have hpos : 0 < f.nodes.length := by have := lkFind_lt (look_of (ask_good hk) hs).1 u g s.data.toList false; omega
  obtain ⟨g0, f0, lv0, rfl, -⟩ := hH 0 hpos
  have HH := Lib.hid hH
  have HS := Lib.hid hs
  have HK := Lib.hid hk
  have HSS := Lib.hid hss
  have HSP := Lib.hid hsp
  have hl : f.nodes.length ≤ 1048576 := (lists_small hs).1
  have HL := Lib.hid (look_of (ask_good hk) hs)
  have HGD := Lib.hid (ask_good hk)
  have HB0 : Hid (Below w.heap.size w (((w.alloc (.cells #[.slice (some ⟨g0, f0, none⟩) f.nodes.length c, .int .i64 f.room] 30)).alloc (.cells #[.int .i64 u, .int .i64 g] 34)).alloc (.cells #[.slice none 0 0, .int .i64 0] 30))) := Lib.hid ((((Below.refl _ _).alloc (Nat.le_refl _) _).alloc (by simp) _).alloc (by simp; omega) _)
  have KA0 := Lib.hid (m3_0 w (.cells #[.slice (some ⟨g0, f0, none⟩) f.nodes.length c, .int .i64 f.room] 30) (.cells #[.int .i64 u, .int .i64 g] 34) (.cells #[.slice none 0 0, .int .i64 0] 30))
  have KB0 := Lib.hid (m3_1 w (.cells #[.slice (some ⟨g0, f0, none⟩) f.nodes.length c, .int .i64 f.room] 30) (.cells #[.int .i64 u, .int .i64 g] 34) (.cells #[.slice none 0 0, .int .i64 0] 30))
  have KZ0 := Lib.hid (m3_2 w (.cells #[.slice (some ⟨g0, f0, none⟩) f.nodes.length c, .int .i64 f.room] 30) (.cells #[.int .i64 u, .int .i64 g] 34) (.cells #[.slice none 0 0, .int .i64 0] 30))
  clear hH hs hk hss hsp hm
  have HFD := Lib.hid hfd
  have HFP := Lib.hid hfp
  clear hfd hfp
  go_enter Tryz.func41, Tryz.ntmps41
  go_wp2_with fail
  refine (l4Find_isM HFD.out (HR.out.below HB0.out) HL.out.1 HL.out.2 (by have := HSS.out; omega)).mono ?_
  rintro e w1 ⟨rfl, hb1⟩
  have HB1 := Lib.hid (HB0.out.trans (hb1.mono HB0.out.size))
  have KA1 := Lib.hid (blk_step hb1 KA0.out)
  have KB1 := Lib.hid (blk_step hb1 KB0.out)
  have KZ1 := Lib.hid (blk_step hb1 KZ0.out)
  clear hb1
  have KA1c0 : w1.cell? ⟨w.heap.size, 0, none⟩ = some (.slice (some ⟨g0, f0, none⟩) f.nodes.length c) := cell_blk KA1.out 0
  have KA1c1 : w1.cell? ⟨w.heap.size, 1, none⟩ = some (.int .i64 f.room) := cell_blk KA1.out 1
  have KB1c0 : w1.cell? ⟨w.heap.size + 1, 0, none⟩ = some (.int .i64 u) := cell_blk KB1.out 0
  have KB1c1 : w1.cell? ⟨w.heap.size + 1, 1, none⟩ = some (.int .i64 g) := cell_blk KB1.out 1
  have hlt : nd < f.nodes.length := by have h7 := lkFind_lt HL.out.1 u g s.data.toList false; rw [HFD.out] at h7; exact h7
  obtain ⟨g3, f3, lv3, e3, hcc, hee⟩ := nod_cells (c := c) HH.out hlt HB1.out
  have d0 := hcc.c0
  simp only [Option.some.injEq, Addr.mk.injEq, and_true] at e3
  obtain ⟨rfl, rfl⟩ := e3
  obtain ⟨kd, hkd⟩ : ∃ kd, kd = (nodeAt f.nodes nd).kind := ⟨_, rfl⟩
  rw [← hkd] at d0 hkk
  clear hcc hee hkd
  have hkb : (kd == 2) = false := by simpa using hkk
  go_wp2_with fail
  refine (l4Place_is HFP.out (HR.out.below HB1.out) HS.out HK.out HSP.out).mono ?_
  rintro e w2 ⟨rfl, hb2⟩
  have HB2 := Lib.hid (HB1.out.trans (hb2.mono HB1.out.size))
  have KA2 := Lib.hid (blk_step hb2 KA1.out)
  have KB2 := Lib.hid (blk_step hb2 KB1.out)
  have KZ2 := Lib.hid (blk_step hb2 KZ1.out)
  clear hb2
  clear d0
  clear KA1c0 KA1c1 KB1c0 KB1c1
  have KA2c0 : w2.cell? ⟨w.heap.size, 0, none⟩ = some (.slice (some ⟨g0, f0, none⟩) f.nodes.length c) := cell_blk KA2.out 0
  have KA2c1 : w2.cell? ⟨w.heap.size, 1, none⟩ = some (.int .i64 f.room) := cell_blk KA2.out 1
  obtain ⟨g4, f4, lv4, e4, hcc4, hee4⟩ := nod_cells (c := c) HH.out hup HB2.out
  have d6 := hcc4.c6
  simp only [Option.some.injEq, Addr.mk.injEq, and_true] at e4
  obtain ⟨rfl, rfl⟩ := e4
  obtain ⟨oe, ce, rfl, hle, -⟩ := id hee4
  have HEE := Lib.hid hee4
  have HLL : Hid ((nodeAt f.nodes up).list.length ≤ 1048576) := Lib.hid ((lists_small HS.out).2 (nodeAt f.nodes up) (by rw [show nodeAt f.nodes up = f.nodes[up] from getD_at hup]; exact List.getElem_mem hup)).1
  obtain ⟨xn, hxn⟩ : ∃ xn, xn = bs nm := ⟨_, rfl⟩
  have hxl : xn.data.toList = nm := by rw [hxn]; exact bs_list _
  have HAT : Hid (atE (nodeAt f.nodes up).list xn.data.toList = -1) := Lib.hid (by rw [hxl]; exact hat)
  rw [← hxn]
  have HXN := Lib.hid hxn
  clear hcc4 hee4 hxn hxl hat
  go_wp2_with fail
  refine (l3At_isA HAT.out HEE.out HLL.out).mono ?_
  rintro e w3 ⟨rfl, hb3⟩
  have HB3 := Lib.hid (HB2.out.trans (hb3.mono HB2.out.size))
  have KA3 := Lib.hid (blk_step hb3 KA2.out)
  have KB3 := Lib.hid (blk_step hb3 KB2.out)
  have KZ3 := Lib.hid (blk_step hb3 KZ2.out)
  clear hb3
  clear d6
  clear KA2c0 KA2c1
  have KA3c0 : w3.cell? ⟨w.heap.size, 0, none⟩ = some (.slice (some ⟨g0, f0, none⟩) f.nodes.length c) := cell_blk KA3.out 0
  have KA3c1 : w3.cell? ⟨w.heap.size, 1, none⟩ = some (.int .i64 f.room) := cell_blk KA3.out 1
  have KB3c0 : w3.cell? ⟨w.heap.size + 1, 0, none⟩ = some (.int .i64 u) := cell_blk KB3.out 0
  have KB3c1 : w3.cell? ⟨w.heap.size + 1, 1, none⟩ = some (.int .i64 g) := cell_blk KB3.out 1
  go_wp2_with fail
  refine (l5Change_is HMB.out (HR.out.below HB3.out) hup HMO.out hl).mono ?_
  rintro e w4 ⟨rfl, hb4⟩
  have HB4 := Lib.hid (HB3.out.trans (hb4.mono HB3.out.size))
  have KA4 := Lib.hid (blk_step hb4 KA3.out)
  have KB4 := Lib.hid (blk_step hb4 KB3.out)
  have KZ4 := Lib.hid (blk_step hb4 KZ3.out)
  clear hb4
  clear KA3c0 KA3c1 KB3c0 KB3c1
  have KA4c0 : w4.cell? ⟨w.heap.size, 0, none⟩ = some (.slice (some ⟨g0, f0, none⟩) f.nodes.length c) := cell_blk KA4.out 0
  have KA4c1 : w4.cell? ⟨w.heap.size, 1, none⟩ = some (.int .i64 f.room) := cell_blk KA4.out 1
  have KZ4c0 : w4.cell? ⟨w.heap.size + 2, 0, none⟩ = some (.slice none 0 0) := cell_blk KZ4.out 0
  have KZ4c1 : w4.cell? ⟨w.heap.size + 2, 1, none⟩ = some (.int .i64 0) := cell_blk KZ4.out 1
  have KZ4f := frozen_blk KZ4.out
  have HPU : Hid (∀ W, FsA W (.agg #[.slice (some ⟨g0, f0, none⟩) f.nodes.length c, .int .i64 f.room]) f → Calls Tryz.prog 60 #[.agg #[.slice (some ⟨g0, f0, none⟩) f.nodes.length c, .int .i64 f.room], .int .i64 up, .string xn, .int .i64 nd, .int .i64 t] W fun e w' => ∃ nv ps, e = .returned (.agg #[nv, .int .i64 f.room]) ∧ ps.map Prod.fst = (putFs f up nm nd t).nodes ∧ Own w' W.heap.size nv ps ∧ Below W.heap.size W w') := Lib.hid (fun W h => by rw [HXN.out]; exact l5Put_any f _ up nm nd t W h HS.out hup HRI.out HIE.out)
  go_wp2_with fail
  refine (HPU.out _ (HR.out.below HB4.out)).mono ?_
  rintro e w5 ⟨nv5, ps5, rfl, hp5, hO5, hb5⟩
  have HB5 := Lib.hid (HB4.out.trans (hb5.mono HB4.out.size))
  have KA5 := Lib.hid (blk_step hb5 KA4.out)
  have KB5 := Lib.hid (blk_step hb5 KB4.out)
  have KZ5 := Lib.hid (blk_step hb5 KZ4.out)
  clear hb5
  clear KA4c0 KA4c1 KZ4c0 KZ4c1 KZ4f
  have KZ5c0 : w5.cell? ⟨w.heap.size + 2, 0, none⟩ = some (.slice none 0 0) := cell_blk KZ5.out 0
  have KZ5c1 : w5.cell? ⟨w.heap.size + 2, 1, none⟩ = some (.int .i64 0) := cell_blk KZ5.out 1
  have KZ5f := frozen_blk KZ5.out
  obtain ⟨oo5, cc5, rfl, -⟩ := owns_form hO5.row
  have HP5 := Lib.hid hp5
  have HO5 := Lib.hid hO5
  have hw4 : w.heap.size + 2 < w4.heap.size := lt_of_heap KZ4.out
  clear hp5 hO5
  go_wp2
  have hq := two_set KZ5.out (.slice oo5 ps5.length cc5) (.int .i64 f.room)
  have t0 := (cell_blk hq 0).trans rfl
  have t1 := (cell_blk hq 1).trans rfl
  refine bodyPost_ret (v := .tuple #[.agg #[.slice oo5 ps5.length cc5, .int .i64 f.room], .int .i64 0]) (by simp [results, Tryz.results41, go_sem, t0, t1]) rfl ?_
  have hB9 := bel_set2 (G := w.heap.size + 2) (x := (.slice oo5 ps5.length cc5)) (y := .int .i64 f.room) HB5.out (by omega)
  have hA9 := ((HO5.out.besides (b := w.heap.size + 2) hw4 0 (.slice oo5 ps5.length cc5)).besides (b := w.heap.size + 2) hw4 1 (.int .i64 f.room)).read f.room (by rw [HP5.out]; exact putFs_fit hup HNF.out (by unfold maxLen; omega))
  rw [HP5.out] at hA9
  first
    | exact ⟨_, rfl, hA9, hB9⟩
    | exact ⟨rfl, hA9, hB9⟩


theorem l5Add_is (f : FsD) (v : Value) (u g : Int) (s p : ByteArray) (t : Int) (w : World) (cd : Int) (F : FsD) (hF : F = if addC f u g s.data.toList p.data.toList = 0 then addG f u g s.data.toList p.data.toList t else f) (hcd : addC f u g s.data.toList p.data.toList = cd) (hR : FsA w v f) (hs : szF f ≤ 1048576) (hk : askB4 f u g = true) (hss : s.size ≤ 1048576) (hsp : p.size ≤ 1048576) (hnf : NodsFit f.nodes) :
    Calls Tryz.prog 41 #[v, .agg #[.int .i64 u, .int .i64 g], .string s, .string p, .int .i64 t] w fun e w' => ∃ v', e = .returned (.tuple #[v', .int .i64 cd]) ∧ FsA w' v' F ∧ Below w.heap.size w w' := by
  have hg := ask_good hk
  have hL := (look_of hg hs).1
  obtain ⟨⟨c1, nd⟩, hfd⟩ : ∃ q, lkFind f.nodes u g s.data.toList false = q := ⟨_, rfl⟩
  by_cases h1 : c1 = 0
  case neg =>
    have e1 : addC f u g s.data.toList p.data.toList = c1 := by unfold addC; rw [hfd]; simp [h1]
    rw [e1] at hF hcd
    rw [if_neg h1] at hF
    rw [hF, ← hcd]
    exact l5Add_A f v u g s p t w hR hs hk hss hsp c1 nd hfd h1
  subst h1
  by_cases h2 : (nodeAt f.nodes nd).kind = 2
  · have e1 : addC f u g s.data.toList p.data.toList = 7 := by unfold addC; rw [hfd]; simp [h2]
    rw [e1] at hF hcd
    rw [if_neg (by decide)] at hF
    rw [hF, ← hcd]
    exact l5Add_B f v u g s p t w hR hs hk hss hsp nd hfd h2
  have e0 : addC f u g s.data.toList p.data.toList = spotC f u g p.data.toList := by unfold addC; rw [hfd]; simp [h2]
  rw [e0] at hF hcd
  obtain ⟨⟨c2, up, nm⟩, hfp⟩ : ∃ q, fp0 f.nodes u g p.data.toList = q := ⟨_, rfl⟩
  by_cases h3 : c2 = 0
  case neg =>
    rw [spotC_bad hfp h3] at hF hcd
    rw [if_neg h3] at hF
    rw [hF, ← hcd]
    exact l5Add_C f v u g s p t w hR hs hk hss hsp nd hfd h2 c2 up nm hfp h3
  subst h3
  obtain ⟨hnm, hup, hkd⟩ := fp0_facts hL hfp
  cases hi : isE (nodeAt f.nodes up).list nm with
  | true =>
    rw [spotC_there hfp hi] at hF hcd
    rw [if_neg (by decide)] at hF
    rw [hF, ← hcd]
    exact l5Add_D f v u g s p t w hR hs hk hss hsp nd hfd h2 up nm hfp hup hkd _ rfl (atE_there hg hi)
  | false =>
    cases hm : mayB u g (nodeAt f.nodes up).mode (nodeAt f.nodes up).uid (nodeAt f.nodes up).gid 3 with
    | false =>
      rw [spotC_may hfp hi hm] at hF hcd
      rw [if_neg (by decide)] at hF
      rw [hF, ← hcd]
      exact l5Add_E f v u g s p t w hR hs hk hss hsp nd hfd h2 up nm hfp hup hkd (atE_not hg hi) (mode_at hg hup hkd) hm
    | true =>
      rw [spotC_ok hfp hi hm] at hF hcd
      rw [if_pos rfl] at hF
      have e9 : addG f u g s.data.toList p.data.toList t = putFs f up nm nd t := by unfold addG; rw [hfd, hfp]
      rw [hF, ← hcd, e9]
      exact l5Add_F f v u g s p t w hR hs hk hss hsp nd hfd h2 up nm hfp hup hkd (atE_not hg hi) (mode_at hg hup hkd) hm (rise_node (good_nods hg) up) hi hnf (name_len hnm)
/-- What AddName's answer weighs. -/
theorem addG_facts {f : FsD} {u g : Int} {l p : List UInt8} {t : Int} (hk : askB4 f u g = true) (hs : szF f ≤ 1048576) (hnf : NodsFit f.nodes) (h0 : addC f u g l p = 0) : szF (addG f u g l p t) ≤ 2097152 ∧ NodsFit (addG f u g l p t).nodes := by
  have hL := (look_of (ask_good hk) hs).1
  have h1 : spotC f u g p = 0 := by
    unfold addC at h0
    split at h0
    · rename_i h; exact absurd h0 h
    · split at h0
      · cases h0
      · exact h0
  obtain ⟨nd, nm, hfp, -, -⟩ := spotC_zero h1
  obtain ⟨hnm, hup, -⟩ := fp0_facts hL hfp
  have hn8 := name_len hnm
  unfold addG
  rw [hfp]
  show szF (putFs f nd nm _ t) ≤ _ ∧ NodsFit (putFs f nd nm _ t).nodes
  refine ⟨?_, putFs_fit hup hnf (by unfold maxLen; omega)⟩
  rw [putFs_sz hup]; omega


set_option maxRecDepth 100000 in
set_option maxHeartbeats 8000000 in
theorem specAddName_any (f : FsD) (v : Value) (u g : Int) (s p : ByteArray) (t : Int) (w : World) (hR : FsA w v f) (hs : szF f ≤ 1048576) (hss : s.size ≤ 1048576) (hsp : p.size ≤ 1048576) (hnf : NodsFit f.nodes) :
    Calls Tryz.prog 22 #[v, .agg #[.int .i64 u, .int .i64 g], .string s, .string p, .int .i64 t] w fun e w' => ∃ nv ps, e = .returned (.tuple #[.agg #[nv, .int .i64 (makF (askT f u g t) (addC f u g s.data.toList p.data.toList) (addG f u g s.data.toList p.data.toList t) f).room], .int .i64 (makC (askT f u g t) (addC f u g s.data.toList p.data.toList)), .bool (askT f u g t)]) ∧ ps.map Prod.fst = (makF (askT f u g t) (addC f u g s.data.toList p.data.toList) (addG f u g s.data.toList p.data.toList t) f).nodes ∧ Own w' w.heap.size nv ps ∧ Below w.heap.size w w' := by
  have HR := Lib.hid hR
  obtain ⟨nv, rfl, hN⟩ := hR
  obtain ⟨o, c, rfl, hm, hH⟩ := hN
  have HS := Lib.hid hs
  have HNF := Lib.hid hnf
  have HB0 : Hid (Below w.heap.size w (((w.alloc (.cells #[.slice o f.nodes.length c, .int .i64 f.room] 30)).alloc (.cells #[.int .i64 u, .int .i64 g] 34)).alloc (.cells #[.slice none 0 0, .int .i64 0] 30))) := Lib.hid ((((Below.refl _ _).alloc (Nat.le_refl _) _).alloc (by simp) _).alloc (by simp; omega) _)
  have KA0 := Lib.hid (m3_0 w (.cells #[.slice o f.nodes.length c, .int .i64 f.room] 30) (.cells #[.int .i64 u, .int .i64 g] 34) (.cells #[.slice none 0 0, .int .i64 0] 30))
  have KB0 := Lib.hid (m3_1 w (.cells #[.slice o f.nodes.length c, .int .i64 f.room] 30) (.cells #[.int .i64 u, .int .i64 g] 34) (.cells #[.slice none 0 0, .int .i64 0] 30))
  have KZ0 := Lib.hid (m3_2 w (.cells #[.slice o f.nodes.length c, .int .i64 f.room] 30) (.cells #[.int .i64 u, .int .i64 g] 34) (.cells #[.slice none 0 0, .int .i64 0] 30))
  clear hH hm
  obtain ⟨F, hF⟩ : ∃ F, F = (makF (askT f u g t) (addC f u g s.data.toList p.data.toList) (addG f u g s.data.toList p.data.toList t) f) := ⟨_, rfl⟩
  obtain ⟨CD, hCD⟩ : ∃ C, C = makC (askT f u g t) (addC f u g s.data.toList p.data.toList) := ⟨_, rfl⟩
  obtain ⟨AK, hAK⟩ : ∃ A, A = (askT f u g t) := ⟨_, rfl⟩
  rw [← hF, ← hCD, ← hAK]
  cases hk : (askT f u g t) with
  | false =>
    have HAK : Hid (AK = false) := Lib.hid (by rw [hAK, hk])
    have HF : Hid (F = fs0) := Lib.hid (by rw [hF, hk]; rfl)
    have HCD : Hid (CD = 0) := Lib.hid (by rw [hCD, hk]; rfl)
    have HK := Lib.hid hk
    clear hk hF hCD hAK hs hnf
    go_enter Tryz.func22, Tryz.ntmps22
    go_wp2_with fail
    refine (l5Asked_is HK.out (HR.out.below HB0.out) HS.out).mono ?_
    rintro e w1 ⟨rfl, hb1⟩
    have HB1 := Lib.hid (HB0.out.trans (hb1.mono HB0.out.size))
    have KA1 := Lib.hid (blk_step hb1 KA0.out)
    have KB1 := Lib.hid (blk_step hb1 KB0.out)
    have KZ1 := Lib.hid (blk_step hb1 KZ0.out)
    clear hb1
    have KZ1c0 : w1.cell? ⟨w.heap.size + 2, 0, none⟩ = some (.slice none 0 0) := cell_blk KZ1.out 0
    have KZ1c1 : w1.cell? ⟨w.heap.size + 2, 1, none⟩ = some (.int .i64 0) := cell_blk KZ1.out 1
    have KZ1f := frozen_blk KZ1.out
    have hq := two_set KZ1.out (.slice none 0 0) (.int .i64 0)
    have t0 := (cell_blk hq 0).trans rfl
    have t1 := (cell_blk hq 1).trans rfl
    go_wp2
    refine bodyPost_ret (v := .tuple #[.agg #[.slice none 0 0, .int .i64 0], .int .i64 0, .bool false]) (by simp [results, Tryz.results22, go_sem, t0, t1]) rfl ?_
    first
      | exact ⟨_, [], by rw [HF.out, HCD.out, HAK.out]; rfl, by rw [HF.out]; rfl, Own.nil _ _, bel_set2 HB1.out (by omega)⟩
      | exact ⟨_, by rw [HF.out, HCD.out, HAK.out]; rfl, [], by rw [HF.out]; rfl, Own.nil _ _, bel_set2 HB1.out (by omega)⟩
  | true =>
    have HAK : Hid (AK = true) := Lib.hid (by rw [hAK, hk])
    have hk4 : askB4 f u g = true := by unfold askT at hk; simp only [Bool.and_eq_true] at hk; exact hk.1
    have HK := Lib.hid hk
    rw [hk] at hF hCD
    have hF2 : F = if (addC f u g s.data.toList p.data.toList) = 0 then (addG f u g s.data.toList p.data.toList t) else f := by rw [hF]; unfold makF; rw [if_pos rfl]
    have hC2 : CD = (addC f u g s.data.toList p.data.toList) := by rw [hCD]; unfold makC; rw [if_pos rfl]
    have HFS : Hid (szF F ≤ 2097152) := Lib.hid (by
      rw [hF2]
      split
      · rename_i h; exact (addG_facts hk4 HS.out HNF.out h).1
      · omega)
    have HIN : Hid (∀ W, FsA W (.agg #[.slice o f.nodes.length c, .int .i64 f.room]) f → Calls Tryz.prog 41 #[.agg #[.slice o f.nodes.length c, .int .i64 f.room], .agg #[.int .i64 u, .int .i64 g], .string s, .string p, .int .i64 t] W fun e w' => ∃ v', e = .returned (.tuple #[v', .int .i64 CD]) ∧ FsA w' v' F ∧ Below W.heap.size W w') := Lib.hid (fun W h => l5Add_is f _ u g s p t W CD F hF2 hC2.symm h HS.out hk4 hss hsp HNF.out)
    clear hk hk4 hF hCD hF2 hC2 hAK hs hnf
    go_enter Tryz.func22, Tryz.ntmps22
    go_wp2_with fail
    refine (l5Asked_is HK.out (HR.out.below HB0.out) HS.out).mono ?_
    rintro e w1 ⟨rfl, hb1⟩
    have HB1 := Lib.hid (HB0.out.trans (hb1.mono HB0.out.size))
    have KA1 := Lib.hid (blk_step hb1 KA0.out)
    have KB1 := Lib.hid (blk_step hb1 KB0.out)
    have KZ1 := Lib.hid (blk_step hb1 KZ0.out)
    clear hb1
    have KA1c0 : w1.cell? ⟨w.heap.size, 0, none⟩ = some (.slice o f.nodes.length c) := cell_blk KA1.out 0
    have KA1c1 : w1.cell? ⟨w.heap.size, 1, none⟩ = some (.int .i64 f.room) := cell_blk KA1.out 1
    have KB1c0 : w1.cell? ⟨w.heap.size + 1, 0, none⟩ = some (.int .i64 u) := cell_blk KB1.out 0
    have KB1c1 : w1.cell? ⟨w.heap.size + 1, 1, none⟩ = some (.int .i64 g) := cell_blk KB1.out 1
    go_wp2_with fail
    refine (HIN.out _ (HR.out.below HB1.out)).mono ?_
    rintro e w2 ⟨v2, rfl, hv2, hb2⟩
    have HB2 := Lib.hid (HB1.out.trans (hb2.mono HB1.out.size))
    have KA2 := Lib.hid (blk_step hb2 KA1.out)
    have KB2 := Lib.hid (blk_step hb2 KB1.out)
    have KZ2 := Lib.hid (blk_step hb2 KZ1.out)
    clear hb2
    clear KA1c0 KA1c1 KB1c0 KB1c1
    have HV2 := Lib.hid hv2
    obtain ⟨n2, rfl, hN2⟩ := hv2
    obtain ⟨o2, c2, rfl, -, -⟩ := hN2
    have HB3 := Lib.hid (HB2.out.alloc HB2.out.size (.cells #[.slice o2 F.nodes.length c2, .int .i64 F.room] 30))
    have KZ3 := Lib.hid ((Below.heap_alloc w2 (.cells #[.slice o2 F.nodes.length c2, .int .i64 F.room] 30) _ (lt_of_heap KZ2.out)).trans KZ2.out)
    have HV3 := Lib.hid (HV2.out.below ((Below.refl _ w2).alloc (Nat.le_refl _) (.cells #[.slice o2 F.nodes.length c2, .int .i64 F.room] 30)))
    go_wp2_with fail
    refine (l3Own_big F _ _ HV3.out HFS.out).mono ?_
    rintro e w4 ⟨nv4, ps4, rfl, hp4, hO4, hb4⟩
    have HB4 := Lib.hid (HB3.out.trans (hb4.mono HB3.out.size))
    have KZ4 := Lib.hid (blk_step hb4 KZ3.out)
    obtain ⟨oo4, cc4, rfl, -⟩ := owns_form hO4.row
    have HP4 := Lib.hid hp4
    have HO4 := Lib.hid hO4
    have hw3 : w.heap.size + 2 < (w2.alloc (.cells #[.slice o2 F.nodes.length c2, .int .i64 F.room] 30)).heap.size := lt_of_heap KZ3.out
    clear hp4 hO4 hb4
    have KZ4c0 : w4.cell? ⟨w.heap.size + 2, 0, none⟩ = some (.slice none 0 0) := cell_blk KZ4.out 0
    have KZ4c1 : w4.cell? ⟨w.heap.size + 2, 1, none⟩ = some (.int .i64 0) := cell_blk KZ4.out 1
    have KZ4f := frozen_blk KZ4.out
    go_wp2
    have hq := two_set KZ4.out (.slice oo4 ps4.length cc4) (.int .i64 F.room)
    have t0 := (cell_blk hq 0).trans rfl
    have t1 := (cell_blk hq 1).trans rfl
    refine bodyPost_ret (v := .tuple #[.agg #[(.slice oo4 ps4.length cc4), .int .i64 F.room], .int .i64 CD, .bool true]) (by simp [results, Tryz.results22, go_sem, t0, t1]) rfl ?_
    have hA9 := ((HO4.out.besides (b := w.heap.size + 2) hw3 0 (.slice oo4 ps4.length cc4)).besides (b := w.heap.size + 2) hw3 1 (.int .i64 F.room)).low (R := w.heap.size) (by omega)
    have hB9 := bel_set2 (G := w.heap.size + 2) (x := (.slice oo4 ps4.length cc4)) (y := .int .i64 F.room) HB4.out (by omega)
    first
      | exact ⟨_, ps4, by rw [HAK.out], HP4.out, hA9, hB9⟩
      | exact ⟨_, by rw [HAK.out], ps4, HP4.out, hA9, hB9⟩

end Go.Proofs.YtjomkjnpflebaaaGreatDoor
