/-
  For every list of texts the law FnExactPathOf returns true (impl.PathOf answers as its model, and writes into no argument) and its argument reads as before.
  Conditions: none beyond the row's own form.
-/
import Derived.Test.YtpdnhaaedibbaaaPathC
import Derived.Test.YtpdnhaaedibbaaaStrsC
import Derived.ChangeMaps5
namespace Go.Proofs.Ytpdnhaaedibbaaa.fnExactPathOf
open Go.ChangeShapes Go.WideShapes Go.ChangeAt Go.RowKit Go.Joins
set_option linter.unusedVariables false

theorem lens_mem {ps : List (List UInt8)} {p : List UInt8} (h : p ∈ ps) : p.length ≤ lens ps := by
  induction ps with
  | nil => cases h
  | cons q r ih =>
    have e : lens (q :: r) = q.length + lens r := by simp [lens]
    rcases List.mem_cons.1 h with rfl | h1
    · omega
    · have := ih h1; omega

set_option maxHeartbeats 1000000 in
theorem walk (ps : List (List UInt8)) (v : Value) (w : World) (hR : RdA w v ps) : Calls Try.prog 8 #[v] w fun e w' => e = .returned (.bool true) ∧ Below w.heap.size w w' := by
  have HR := Lib.hid hR
  obtain ⟨o, c, rfl, hm, _⟩ := id hR
  clear hR
  by_cases hs : (ps.length : Int) + lens ps ≤ (1048576 : Nat)
  · have hsz : ∀ p ∈ ps, p.length ≤ 1048576 := fun p hp => by have := lens_mem hp; omega
    have HZ := Lib.hid hsz
    have HS : Hid (szR ps (1048576 : Nat) = (1048576 : Nat) - ps.length - lens ps) := Lib.hid (by unfold szR; rw [if_pos hs])
    have hpos : ¬ ((1048576 : Nat) : Int) - ps.length - lens ps < 0 := by omega
    have hlen : ps.length ≤ 1048576 := by omega
    clear hsz
    go_enter Try.func8, Try.ntmps8
    go_wp2_with fail
    refine (szStringS_any ps _ _ 1048576 HR.out (Nat.le_refl _)).mono ?_
    rintro e w1 ⟨rfl, rfl⟩
    rw [HS.out]
    go_wp2_with fail
    refine (toStringS_any ps _ _ HR.out hlen).mono ?_
    rintro e w1 ⟨u1, rfl, hL1, hb1⟩
    go_wp2_with fail
    refine (specPathOf_any ps _ _ hL1.read HZ.out).mono ?_
    rintro e w2 ⟨rfl, hb2⟩
    have h12 := hb1.trans (hb2.mono hb1.size)
    go_wp2_with fail
    refine (toStringS_any ps _ _ (HR.out.below h12) hlen).mono ?_
    rintro e w3 ⟨u3, rfl, hL3, hb3⟩
    have h13 := h12.trans (hb3.mono h12.size)
    have HR3 := Lib.hid hL3.read
    clear hL1 hL3
    go_wp2_with fail
    refine (pathOf_any ps _ _ HR3.out).mono ?_
    rintro e w4 ⟨rfl, hb4⟩
    have h14 := h13.trans (hb4.mono h13.size)
    have HR4 := Lib.hid (HR3.out.below hb4)
    clear hb1 hb2 hb3 hb4 h12 h13
    by_cases hk : ofOk ps = true
    all_goals
      go_wp2_with fail
      refine (toStringS_any ps _ _ (HR.out.below h14) hlen).mono ?_
      rintro e w5 ⟨u5, rfl, hL5, hb5⟩
      have h15 := h14.trans (hb5.mono h14.size)
      have HR5 := Lib.hid (HR4.out.below hb5)
      have HR6 := Lib.hid hL5.read
      clear hL5
      go_wp2_with fail
      refine (eqStringS_same ps _ _ _ HR5.out HR6.out).mono ?_
      rintro e w6 ⟨rfl, hb6⟩
      have h16 := h15.trans (hb6.mono h15.size)
      go_wp2
      go_ret
      exact ⟨rfl, h16⟩
  · have HS : Hid (szR ps (1048576 : Nat) = -1) := Lib.hid (by unfold szR; rw [if_neg hs])
    go_enter Try.func8, Try.ntmps8
    go_wp2_with fail
    refine (szStringS_any ps _ _ 1048576 HR.out (Nat.le_refl _)).mono ?_
    rintro e w1 ⟨rfl, rfl⟩
    rw [HS.out]
    go_wp2
    go_ret
    exact ⟨rfl, Below.refl _ _⟩

theorem own : ownKnob Try.prog.godebug = none := by kernel_rfl
theorem laidOut : laidOutB Try.prog = true := by kernel_rfl

set_option maxRecDepth 100000 in
theorem lifted (os : Os) (started : os.Started) (H : Type) (enc : TypeId × Value → H) :
    ReturnsInHanded {} Try.checked os 8 .any (Rows.fnExactPathOfSpec.pre6 enc Try.prog Try.f8 Rows.fnExactPathOfRow.domain false) (Rows.fnExactPathOfSpec.post enc Try.prog Try.f8 false true false false) := by
  refine returnsInHanded_of_change (C := Try.checked) own started (by kernel_rfl) Try.func8
    (ChangeSpec.witness6 (enc := enc) (C := Try.checked) false ⟨#[], #[.slice none 0 0], []⟩ 8 (by kernel_rfl) (by kernel_rfl) (by kernel_rfl) (by kernel_rfl)) ?_
  intro W base args ds gs before hval0 hW hcnd _
  have hval : ∀ (j : Nat) t v, Try.f8.params[j]? = some t → args[j]? = some v → Value.okWide Try.prog W .any base t v := hval0
  have hW' := hW
  obtain ⟨p, q, hA0, hV, rfl, hfz, hnd⟩ := hW
  have hA : DataW.TrodAll enc Try.prog W 0 (fun _ => true) true Try.f8.params.toList args.toList ds p := hA0
  rw [Try.params8] at hA hval
  obtain ⟨v0, vs0, d0, ds0, p0, q0, hargs, rfl, rfl, h0, r0⟩ := trodAll_cons hA
  obtain ⟨rfl, rfl, rfl⟩ := trodAll_nil r0
  obtain rfl : args = #[v0] := by cases args; simp_all
  obtain ⟨rfl, rfl⟩ := trodVars_none hV
  obtain ⟨ps0, hR0⟩ := open_strsA (hval 0 28 v0 rfl rfl) h0
  refine (walk ps0 v0 W hR0).mono fun e W' ⟨he, hb⟩ => ?_
  subst he
  exact ⟨_, rfl, law_post laidOut (by kernel_rfl) (by kernel_rfl) (by kernel_rfl) Try.underlying4 hW' rfl hb⟩

theorem over : Rows.fnExactPathOfRow.holds Try.pinned (OpenSpec.ofChange Rows.fnExactPathOfSpec) :=
  OpenClaim.holds_of_wide 8 Try.f8 rfl rfl rfl rfl rfl rfl rfl ⟨rfl, rfl, rfl, rfl, rfl⟩ rfl rfl rfl rfl rfl (by kernel_rfl) Try.func8 (by kernel_rfl)
    (of_decide_eq_true (by kernel_rfl)) (by unfold Func.isWrapper; first | (rw [if_pos (by decide +kernel)]; kernel_rfl) | (rw [if_neg (by decide +kernel)]; exact ⟨rfl, rfl⟩))
    (fun os started H enc _ => lifted os started H enc)

theorem proved : Rows.FnExactPathOfSaid :=
  over
#print axioms proved
end Go.Proofs.Ytpdnhaaedibbaaa.fnExactPathOf
