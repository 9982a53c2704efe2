/-
  For every text the law FnExactPartsOf returns true (impl.PartsOf answers as its model, in memory of its own) and its argument reads as before.
  Conditions: none beyond the row's own form.
-/
import Derived.Test.YtpdnhaaedibbaaaPartsC
import Derived.Test.YtpdnhaaedibbaaaMarkC
import Derived.ChangeMaps5
namespace Go.Proofs.Ytpdnhaaedibbaaa.fnExactPartsOf
open Go.ChangeShapes Go.WideShapes Go.ChangeAt Go.RowKit Go.Joins
set_option linter.unusedVariables false

theorem partT_len (l : List UInt8) : (partT l).length ≤ 61 := by
  by_cases h : goodB l = true
  · rw [partT_yes h]
    have h1 := parts_le l
    simp [goodB] at h
    omega
  · rw [partT_no (by simpa using h)]; simp

set_option maxHeartbeats 1000000 in
theorem walk (s : ByteArray) (hs : s.size ≤ maxLen) (w : World) : Calls Try.prog 7 #[.string s] w fun e w' => e = .returned (.bool true) ∧ Below w.heap.size w w' := by
  unfold maxLen at hs
  by_cases h : 1048576 < (s.size : Int)
  · go_enter Try.func7, Try.ntmps7
    go_wp2
    go_ret
    exact ⟨rfl, by go_grown⟩
  · have hpl := partT_len s.data.toList
    go_enter Try.func7, Try.ntmps7
    go_wp2_with fail
    refine (specPartsOf_any _ _ (by omega)).mono ?_
    rintro e w1 ⟨v1, rfl, hL1, hb1⟩
    have HR1 := Lib.hid hL1.read
    clear hL1
    go_wp2_with fail
    refine (partsOf_any _ _ (by omega)).mono ?_
    rintro e w2 ⟨v2, rfl, hL2, hb2⟩
    have HL2 := Lib.hid hL2
    have HR2 := Lib.hid hL2.read
    have HV2 := Lib.hid (HR1.out.below hb2)
    clear hL2
    go_wp2_with fail
    refine (eqStringS_same _ _ _ _ HR2.out HV2.out).mono ?_
    rintro e w3 ⟨rfl, hb3⟩
    have HL3 : Hid (Lst w3 w1.heap.size v2 (partT s.data.toList)) := Lib.hid (lst_below HL2.out hb3)
    have HB3 := Lib.hid (hb2.trans (hb3.mono hb2.size))
    go_wp2_with fail
    refine (markStringS_any _ _ _ 1 _ HL3.out (Nat.le_refl _) HB3.out.size (by omega)).mono ?_
    rintro e w4 ⟨rfl, hL4, hb4⟩
    have HB4 := Lib.hid (HB3.out.trans hb4)
    have HR4 := Lib.hid hL4.read
    clear hL4 hb4 hb3 hb2
    obtain ⟨n, hn⟩ : ∃ n, n = (partT s.data.toList).length := ⟨_, rfl⟩
    rw [← hn] at hpl HR4 ⊢
    clear hn
    go_wp2_with fail
    refine (heldStringS_some n 1 _ _ HR4.out (Nat.le_refl _) (by omega)).mono ?_
    rintro e w5 ⟨rfl, hb5⟩
    have HB5 := Lib.hid (HB4.out.trans (hb5.mono HB4.out.size))
    have HR5 := Lib.hid (HR4.out.below hb5)
    clear hb5
    go_wp2_with fail
    refine (partsOf_any _ _ (by omega)).mono ?_
    rintro e w6 ⟨v6, rfl, hL6, hb6⟩
    have HB6 := Lib.hid (HB5.out.trans (hb6.mono HB5.out.size))
    have HR6 := Lib.hid (HR5.out.below hb6)
    have HV6 := Lib.hid (HR1.out.below HB6.out)
    have HU6 := Lib.hid hL6.read
    clear hb6 hL6
    go_wp2_with fail
    refine (eqStringS_same _ _ _ _ HU6.out HV6.out).mono ?_
    rintro e w7 ⟨rfl, hb7⟩
    have HB7 := Lib.hid (HB6.out.trans (hb7.mono HB6.out.size))
    have HR7 := Lib.hid (HR6.out.below hb7)
    clear hb7
    go_wp2_with fail
    refine (heldStringS_some n 1 _ _ HR7.out (Nat.le_refl _) (by omega)).mono ?_
    rintro e w8 ⟨rfl, hb8⟩
    have HB8 := Lib.hid (HB7.out.trans (hb8.mono HB7.out.size))
    go_wp2
    go_ret
    exact ⟨rfl, hb1.trans (HB8.out.mono hb1.size)⟩

theorem own : ownKnob Try.prog.godebug = none := by kernel_rfl
theorem laidOut : laidOutB Try.prog = true := by kernel_rfl

set_option maxRecDepth 100000 in
theorem lifted (os : Os) (started : os.Started) (H : Type) (enc : TypeId × Value → H) :
    ReturnsInHanded {} Try.checked os 7 .any (Rows.fnExactPartsOfSpec.pre6 enc Try.prog Try.f7 Rows.fnExactPartsOfRow.domain false) (Rows.fnExactPartsOfSpec.post enc Try.prog Try.f7 false true false false) := by
  refine returnsInHanded_of_change (C := Try.checked) own started (by kernel_rfl) Try.func7
    (ChangeSpec.witness6 (enc := enc) (C := Try.checked) false ⟨#[], #[.string ⟨#[]⟩], []⟩ 8 (by kernel_rfl) (by kernel_rfl) (by kernel_rfl) (by kernel_rfl)) ?_
  intro W base args ds gs before hval0 hW hcnd _
  have hval : ∀ (j : Nat) t v, Try.f7.params[j]? = some t → args[j]? = some v → Value.okWide Try.prog W .any base t v := hval0
  have hW' := hW
  obtain ⟨p, q, hA0, hV, rfl, hfz, hnd⟩ := hW
  have hA : DataW.TrodAll enc Try.prog W 0 (fun _ => true) true Try.f7.params.toList args.toList ds p := hA0
  rw [Try.params7] at hA hval
  obtain ⟨v0, vs0, d0, ds0, p0, q0, hargs, rfl, rfl, h0, r0⟩ := trodAll_cons hA
  obtain ⟨rfl, rfl, rfl⟩ := trodAll_nil r0
  obtain rfl : args = #[v0] := by cases args; simp_all
  obtain ⟨rfl, rfl⟩ := trodVars_none hV
  obtain ⟨a0, rfl, rfl, rfl, w0⟩ := Go.ChangeMaps.open_string Try.underlying9 (hval 0 9 v0 rfl rfl) h0
  refine (walk a0 w0 W).mono fun e W' ⟨he, hb⟩ => ?_
  subst he
  exact ⟨_, rfl, law_post laidOut (by kernel_rfl) (by kernel_rfl) (by kernel_rfl) Try.underlying4 hW' rfl hb⟩

theorem over : Rows.fnExactPartsOfRow.holds Try.pinned (OpenSpec.ofChange Rows.fnExactPartsOfSpec) :=
  OpenClaim.holds_of_wide 7 Try.f7 rfl rfl rfl rfl rfl rfl rfl ⟨rfl, rfl, rfl, rfl, rfl⟩ rfl rfl rfl rfl rfl (by kernel_rfl) Try.func7 (by kernel_rfl)
    (of_decide_eq_true (by kernel_rfl)) (by unfold Func.isWrapper; first | (rw [if_pos (by decide +kernel)]; kernel_rfl) | (rw [if_neg (by decide +kernel)]; exact ⟨rfl, rfl⟩))
    (fun os started H enc _ => lifted os started H enc)

theorem proved : Rows.FnExactPartsOfSaid :=
  over
#print axioms proved
end Go.Proofs.Ytpdnhaaedibbaaa.fnExactPartsOf
