
/-
  For every list of faults the law FnExactFaultsText returns true (impl.FaultsText answers as its model) and its argument reads as before.
  Conditions: the table impl.codeTexts as the program's text lays it (the card ties it).
-/
import Derived.Test.YthobfdcomcknoaaDoorFauD
import Derived.Test.YthobfdcomcknoaaDoorTabE
namespace Go.Proofs.YthobfdcomcknoaaDoor.fnExactFaultsText
open Go.ChangeShapes Go.WideShapes Go.ChangeAt Go.RowKit Go.Joins
set_option linter.unusedVariables false

theorem tab_below {W w' : World} (h : Tab4 W) (hb : Below W.heap.size W w') : Tab4 w' := h.below hb h.1

set_option maxHeartbeats 2000000 in
theorem implFaultsText_any (es : List Ent) (v : Value) (w : World) (hR : FltsA w v es) (hl : es.length ≤ 1048576) (hs : ∀ e ∈ es, e.name.length ≤ 1048576) (hT : Tab4 w) :
    Calls Tryd.prog 7 #[v] w fun e w' => e = .returned (.tuple #[.string (faultsS es), .bool (faultsB es)]) ∧ Below w.heap.size w w' := by
  have HR := Lib.hid hR
  obtain ⟨x, hx⟩ : ∃ x, faultsS es = x := ⟨_, rfl⟩
  obtain ⟨y, hy⟩ : ∃ y, faultsB es = y := ⟨_, rfl⟩
  have HP := Lib.hid (textOfFaults_any es v w hR hl hs (fun w' hb => tab_below hT hb))
  rw [hx, hy] at HP ⊢
  clear hx hy hR hs hT
  go_enter Tryd.func7, Tryd.ntmps7
  go_wp2_with (go_at_call 14; refine HP.out.mono ?_)
  rintro e w1 ⟨rfl, hb⟩
  go_wp2
  go_ret2
  exact ⟨rfl, hb⟩

theorem names_small {es : List Ent} {n : Nat} (h : lensE es ≤ n) : ∀ e ∈ es, e.name.length ≤ n := by
  intro e he
  obtain ⟨i, hi, rfl⟩ := List.getElem_of_mem he
  have h1 := lensE_take hi
  have h2 := lensE_pre es (i + 1)
  omega

set_option maxHeartbeats 2000000 in
theorem walk (es : List Ent) (v : Value) (w : World) (hR : FltsA w v es) (hT : Tab4 w) : Calls Tryd.prog 3 #[v] w fun e w' => e = .returned (.bool true) ∧ Below w.heap.size w w' := by
  have hm : es.length ≤ maxLen := by obtain ⟨o, c, -, hm, -⟩ := hR; exact hm
  have HR := Lib.hid hR
  have HT := Lib.hid hT
  by_cases hq : (es.length : Int) + lensE es ≤ 1048576
  · have h0 : (0 : Int) ≤ 1048576 - (es.length + lensE es : Int) := by omega
    have HL : Hid (lessR (es.length + lensE es) 1048576 = 1048576 - (es.length + lensE es : Int)) := Lib.hid (by unfold lessR; rw [if_pos (by omega)]; omega)
    have hl : es.length ≤ 1048576 := by omega
    have HS := Lib.hid (names_small (es := es) (n := 1048576) (by omega))
    obtain ⟨x, hx⟩ : ∃ x, faultsS es = x := ⟨_, rfl⟩
    obtain ⟨y, hy⟩ : ∃ y, faultsB es = y := ⟨_, rfl⟩
    have HX := Lib.hid hx
    have HY := Lib.hid hy
    have HSm : Hid (∀ e ∈ es, e.name.length ≤ maxLen) := Lib.hid (fun e he => by have := HS.out e he; unfold maxLen; omega)
    clear hx hy hR hT hm
    go_enter Tryd.func3, Tryd.ntmps3
    go_wp2_with (go_at_call 4; refine (szFaultS_any es v w 1048576 HR.out (by omega) (by omega)).mono ?_)
    rintro e w1 ⟨rfl, hb1⟩
    rw [HL.out]
    have HR1 := Lib.hid (HR.out.below hb1)
    have HB1 := Lib.hid hb1
    clear hb1
    go_wp2_with (go_at_call 6; refine (toFaultS_any es v w1 HR1.out hl).mono ?_)
    rintro e w2 ⟨u, rfl, hu, hb2⟩
    have HU2 := Lib.hid (hu.read HSm.out)
    have HR2 := Lib.hid (HR1.out.below hb2)
    have HB2 := Lib.hid (HB1.out.trans (hb2.mono HB1.out.size))
    clear hb2 hu
    go_wp2_with (go_at_call 5; refine (specFaultsText_any es u w2 HU2.out hl HS.out).mono ?_)
    rintro e w3 ⟨rfl, hb3⟩
    rw [HX.out, HY.out]
    have HR3 := Lib.hid (HR2.out.below hb3)
    have HB3 := Lib.hid (HB2.out.trans (hb3.mono HB2.out.size))
    clear hb3
    go_wp2_with (go_at_call 6; refine (toFaultS_any es v w3 HR3.out hl).mono ?_)
    rintro e w4 ⟨u4, rfl, hu4, hb4⟩
    have HU4 := Lib.hid (hu4.read HSm.out)
    have HR4 := Lib.hid (HR3.out.below hb4)
    have HB4 := Lib.hid (HB3.out.trans (hb4.mono HB3.out.size))
    clear hb4 hu4
    go_wp2_with (go_at_call 7; refine (implFaultsText_any es u4 w4 HU4.out hl HS.out (tab_below HT.out HB4.out)).mono ?_)
    rintro e w5 ⟨rfl, hb5⟩
    rw [HX.out, HY.out]
    have HU5 := Lib.hid (HU4.out.below hb5)
    have HR5 := Lib.hid (HR4.out.below hb5)
    have HB5 := Lib.hid (HB4.out.trans (hb5.mono HB4.out.size))
    clear hb5
    go_wp2_with (go_at_call 6; refine (toFaultS_any es v w5 HR5.out hl).mono ?_)
    rintro e w6 ⟨u6, rfl, hu6, hb6⟩
    have HU6 := Lib.hid (hu6.read HSm.out)
    have HV6 := Lib.hid (HU5.out.below hb6)
    have HB6 := Lib.hid (HB5.out.trans (hb6.mono HB5.out.size))
    clear hb6 hu6
    go_wp2_with (go_at_call 8; refine (eqFaultS_same es u4 u6 w6 HV6.out HU6.out).mono ?_)
    rintro e w7 ⟨rfl, hb7⟩
    have HB7 := Lib.hid (HB6.out.trans (hb7.mono HB6.out.size))
    clear hb7
    go_wp2
    go_ret
    exact ⟨rfl, HB7.out⟩
  · obtain ⟨r, hr, hL⟩ : ∃ r : Int, r < 0 ∧ lessR (es.length + lensE es) 1048576 = r := ⟨-1, by omega, by unfold lessR; rw [if_neg (by omega)]⟩
    have HL := Lib.hid hL
    have HZ : Hid (Calls Tryd.prog 4 #[v, .int .i64 1048576] w fun e w' => e = .returned (.int .i64 r) ∧ Below w.heap.size w w') := Lib.hid (by
      have h9 := szFaultS_any es v w 1048576 HR.out (by omega) (by omega)
      rw [HL.out] at h9
      exact h9)
    clear hR hT hL hq
    go_enter Tryd.func3, Tryd.ntmps3
    go_wp2_with fail
    refine HZ.out.mono ?_
    rintro e w1 ⟨rfl, hb1⟩
    have HB1 := Lib.hid hb1
    clear hb1
    go_wp2
    go_ret
    exact ⟨rfl, HB1.out⟩

set_option maxRecDepth 100000 in
theorem contract (H : Type) (enc : TypeId × Value → H) (W : World) (base : Nat) (args : Array Value) (ds gs : List (DataW H)) (before : List MemPlace)
    (hval : ∀ (j : Nat) t v, Tryd.f3.params[j]? = some t → args[j]? = some v → Value.okWide Tryd.prog W .any base t v)
    (hW : DataW.Whole enc Tryd.prog Tryd.f3.params.toList Rows.fnExactFaultsTextSpec.vars false W args.toList ds gs before) (hL : laidMetH Tryd.prog Rows.fnExactFaultsTextRow.laid W) :
    Calls Tryd.prog 3 args W fun e W' => ∃ v, e = .returned v ∧ Rows.fnExactFaultsTextSpec.post enc Tryd.prog Tryd.f3 false true false false W args v W' := by
  have hW' := hW
  obtain ⟨p, q, hA0, hV, rfl, hfz, hnd⟩ := hW
  have hA : DataW.TrodAll enc Tryd.prog W 0 (fun _ => true) true Tryd.f3.params.toList args.toList ds p := hA0
  rw [Tryd.params3] at hA hval
  obtain ⟨v0, vs0, d0, ds0, p0, q0, hargs, rfl, rfl, h0, r0⟩ := trodAll_cons hA
  obtain ⟨rfl, rfl, rfl⟩ := trodAll_nil r0
  obtain rfl : args = #[v0] := by cases args; simp_all
  obtain ⟨g, rfl⟩ := vars_one hV
  obtain ⟨o, n, c, rfl⟩ := okWide_slice Tryd.underlying22 (hval 0 22 v0 rfl rfl)
  obtain ⟨fuel, hf⟩ := h0
  obtain ⟨v, es, hv, hR, -⟩ := open_flts hf
  simp [Value.cells] at hv
  subst hv
  refine (walk es _ W hR (table4 hL)).mono fun e W' ⟨he, hb⟩ => ?_
  subst he
  exact ⟨_, rfl, law_post laidOut (by kernel_rfl) (by kernel_rfl) (by kernel_rfl) Tryd.underlying4 hW' rfl hb⟩

theorem laid_met (os : Os) : laidMet Tryd.prog Rows.fnExactFaultsTextRow.laid ((laidWorld os).forCall (fun _ _ => 0) ⟨#[], #[.slice none 0 0], []⟩).memory :=
  laidMet_of_run' 8 (by kernel_rfl) (by kernel_rfl)
theorem reads (os : Os) {H : Type} (enc : TypeId × Value → H) : ∃ places, DataW.whole enc Tryd.prog ((laidWorld os).forCall (fun _ _ => 0) ⟨#[], #[.slice none 0 0], []⟩).memory Tryd.f3.params.toList Rows.fnExactFaultsTextSpec.vars false (#[.slice none 0 0] : Array Value).toList 8 = some ([.nil], [Rows.laid_loop_example_g00756_impl_codeTexts], places) :=
  ⟨MemPlace.row ⟨0, 0, none⟩ 11, by kernel_rfl⟩

set_option maxRecDepth 100000 in
theorem lifted (os : Os) (started : os.Started) (H : Type) (enc : TypeId × Value → H) (F : Stop.Interp) :
    ReturnsInHanded {} Tryd.checked os 3 .any ((OpenSpec.ofChange Rows.fnExactFaultsTextSpec).preRow enc Tryd.prog Tryd.f3 Rows.fnExactFaultsTextRow.domain false Rows.fnExactFaultsTextRow.laid) (((OpenSpec.ofChange Rows.fnExactFaultsTextSpec).at F).post enc Tryd.prog Tryd.f3 false true false false) := by
  obtain ⟨places, hx⟩ := reads os enc
  refine returnsInHanded_of_row (C := Tryd.checked) (s := OpenSpec.ofChange Rows.fnExactFaultsTextSpec) own started (by kernel_rfl) Tryd.func3
    (witness_row_at (enc := enc) (C := Tryd.checked) false (laidWorld os) #[.slice none 0 0] rfl (by kernel_rfl) (by kernel_rfl) (by kernel_rfl)
      (OpenSpec.preRow_of_cond 8 hx (by kernel_rfl) (fun k hk => by cases hk) (by kernel_rfl) (laid_met os))) ?_
  intro W base args ds gs before hval hW _ _ _ hL _ _
  exact contract H enc W base args ds gs before hval hW hL

theorem said : Rows.FnExactFaultsTextSaid :=
  OpenClaim.holds_of_cond 3 Tryd.f3 rfl rfl rfl rfl rfl rfl rfl ⟨rfl, rfl, rfl, rfl, rfl⟩ rfl rfl rfl rfl rfl (by kernel_rfl) Tryd.func3 (by kernel_rfl)
    (of_decide_eq_true (by kernel_rfl)) (by unfold Func.isWrapper; first | (rw [if_pos (by decide +kernel)]; kernel_rfl) | (rw [if_neg (by decide +kernel)]; exact ⟨rfl, rfl⟩))
    (fun os started H enc _ F => by rw [OpenClaim.pre_eq_preRow]; exact lifted os started H enc F)

theorem plain (f : FuncId) (fn : Func) (hf : Tryd.pinned.checked.prog.funcNamed "loop.example/g00756/laws.FnExactFaultsText" = some f) (hfn : Tryd.pinned.checked.prog.funcs[f]? = some fn) :
    false = Tryd.pinned.checked.prog.looks [] ∧ ∀ (j : Nat) t, fn.params[j]? = some t → Tryd.pinned.checked.prog.wantsStandIn t = false := by
  obtain rfl : f = 3 := Option.some.inj ((show Tryd.prog.funcNamed "loop.example/g00756/laws.FnExactFaultsText" = some 3 by kernel_rfl).symm.trans hf) |>.symm
  obtain rfl : fn = Tryd.f3 := (Option.some.inj (Tryd.func3.symm.trans hfn)).symm
  refine ⟨by kernel_rfl, fun j t ht => ?_⟩
  rw [Tryd.params3] at ht
  have hm : t = 22 := by simpa using Array.mem_of_getElem? ht
  subst hm
  exact (show Tryd.prog.wantsStandIn 22 = false by kernel_rfl)

theorem card : Rows.FnExactFaultsTextCardSaid :=
  Claim7.holds_tied_plain_at .later [] _ _ _ _ said (fun _ h => by cases h) (by kernel_rfl) (fun _ h => by cases h) fnExactFaultsText_row_tie rfl ⟨rfl, rfl⟩ (by kernel_rfl) rfl plain (by kernel_rfl)
#print axioms card
end Go.Proofs.YthobfdcomcknoaaDoor.fnExactFaultsText
