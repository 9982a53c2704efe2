/-
  The contract of spec.l1Letters: the bits of a text's letters, or -1 where a letter is none of them or stands twice.
  Conditions: the text has fewer than 4294967281 bytes; the list of letters and the cells of bits as the contract names them.
-/
import Derived.Test.YtkindoihmcojdaaDoorLetC
namespace Go.Proofs.YtkindoihmcojdaaDoor
open Go.ChangeShapes Go.WideShapes Go.ChangeAt Go.RowKit Go.Joins
set_option linter.unusedVariables false

/-- What the model's function of letters returns. -/
def lettersSpec (o : Option Int) : Ending := match o with
  | some n => .returned (.int .i64 n)
  | none => .returned (.int .i64 (-1))

/-- The letter x stands first at place K of a text, or (K its length) nowhere. -/
def FirstAt (t : ByteArray) (x : UInt8) (K : Nat) : Prop := K ≤ t.size ∧ (∀ (j : Nat) (h : j < t.size), j < K → t[j]'h ≠ x) ∧ (∀ h : K < t.size, t[K]'h = x)

/-- The letters of a text and their bits. -/
def TableOf (f : UInt8 → Int) (t : ByteArray) (vals : Nat → Int) : Prop := ∀ x : UInt8, ∃ K, FirstAt t x K ∧ (K < t.size → f x = vals K ∧ f x ≠ 0) ∧ (K = t.size → f x = 0)

theorem neB {a b : UInt8} (h : a ≠ b) : ((a.toNat : Int) != (b.toNat : Int)) = true := by
  rw [bne_iff_ne]
  intro e
  exact h (UInt8.toNat_inj.1 (by omega))
theorem eqB (a : UInt8) : ((a.toNat : Int) != (a.toNat : Int)) = false := by simp

set_option maxRecDepth 100000 in
set_option maxHeartbeats 2000000 in
theorem l1Letters_any (f : UInt8 → Int) (s t : ByteArray) (g : Nat) (vals : Nat → Int) (w : World) (hs : s.size < 4294967281) (ht : t.size ≤ 4) (hf : TableOf f t vals)
    (hc : ∀ k, k < t.size → w.cell? ⟨g, k, none⟩ = some (.int .i64 (vals k))) :
    Calls Tryd.prog 37 #[.string s, .string t, .slice (some ⟨g, 0, none⟩) t.size t.size] w fun e w' => e = lettersSpec (lettersOf f s.data.toList) ∧ Below w.heap.size w w' := by
  have HT := Lib.hid hf
  have HC := Lib.hid hc
  clear hf hc
  go_enter Tryd.func37, Tryd.ntmps37
  go_wp2
  go_loopw [7, 8] (fun v i wr => ∃ k a : Nat, k ≤ s.size ∧ i = .int .i64 k ∧ v = .int .i64 (orAll f (s.data.toList.take k)) ∧ wr = w.drewN a ∧ Hid (Fine f s.data.toList k)) (fun _ i _ => s.size - (intOf i).toNat)
  case atStart => exact ⟨0, 0, by omega, rfl, rfl, rfl, Fine.zero _ _⟩
  case round =>
    obtain ⟨k, a, hk, rfl, rfl, rfl, HF⟩ := hrel
    by_cases hlt : k < s.size
    · obtain ⟨x, hx⟩ : ∃ x : UInt8, s[k]'hlt = x := ⟨_, rfl⟩
      have hxl : s.data.toList[k]? = some x := by rw [← hx]; exact Lib.data_getElem? s k hlt
      have HX := Lib.hid hxl
      clear hxl
      obtain ⟨K, ⟨hK, hKn, hKe⟩, hv, hz⟩ := HT.out x
      have HN := Lib.hid hKn
      have HE := Lib.hid hKe
      have HV := Lib.hid hv
      have HZ := Lib.hid hz
      clear hKn hKe hv hz
      go_wp2
      go_loopw [9] (fun q wr => ∃ p b : Nat, p ≤ K ∧ q = .int .i64 p ∧ wr = w.drewN b) (fun q _ => K - (intOf q).toNat)
      case atStart => exact ⟨0, a, by omega, rfl, rfl⟩
      case round =>
        obtain ⟨p, b, hp, rfl, rfl⟩ := hrel
        by_cases hpk : p < K
        · have hpt : p < t.size := by omega
          have hne := neB (HN.out p hpt hpk)
          go_wp2
          go_quiet (fail)
          go_wp2
          go_roundw
          case rel => exact ⟨p + 1, _, by omega, by go_num, rfl⟩
          case measure => simp [intOf]; omega
        · obtain rfl : p = K := by omega
          by_cases hend : p < t.size
          · have hpx : t[p]'hend = x := HE.out hend
            have hne := eqB x
            have hq := eqF (show (p : Int) ≠ (t.size : Int) by omega)
            have hval := HV.out hend
            have HW := Lib.hid hval
            have hcell := HC.out p hend
            rw [← hval.1] at hcell
            clear hval
            go_wp2
            go_quiet (fail)
            go_wp2
            go_loopw [10] (fun q wr => ∃ i b : Nat, i ≤ k ∧ q = .int .i64 i ∧ wr = w.drewN b ∧ Hid (x ∉ s.data.toList.take i)) (fun q _ => k - (intOf q).toNat)
            case atStart => exact ⟨0, _, by omega, rfl, rfl, (by simp : x ∉ s.data.toList.take 0)⟩
            case round =>
              obtain ⟨i, c, hi, rfl, rfl, HM⟩ := hrel
              by_cases hik : i < k
              · have his : i < s.size := by omega
                obtain ⟨y, hy⟩ : ∃ y : UInt8, s[i]'his = y := ⟨_, rfl⟩
                have hyl : s.data.toList[i]? = some y := by rw [← hy]; exact Lib.data_getElem? s i his
                have HY := Lib.hid hyl
                clear hyl
                by_cases hxy : y = x
                · subst hxy
                  have hee := eqT (rfl : (y.toNat : Int) = (y.toNat : Int))
                  go_wp2
                  go_quiet (fail)
                  go_wp2
                  go_ret
                  refine ⟨?_, ⟨rfl, rfl, rfl, Nat.le_refl _, fun _ _ => rfl⟩⟩
                  rw [letters_none k y HX.out (Or.inr ?_)]
                  · rfl
                  · exact List.mem_of_getElem? (show (s.data.toList.take k)[i]? = some y by rw [List.getElem?_take, if_pos hik]; exact HY.out)
                · have hee : ((y.toNat : Int) == (x.toNat : Int)) = false := eqF (fun e => hxy (UInt8.toNat_inj.1 (by omega)))
                  have HXY := Lib.hid hxy
                  clear hxy
                  go_wp2
                  go_quiet (fail)
                  go_wp2
                  go_roundw
                  case rel =>
                    refine ⟨i + 1, _, by omega, by go_num, rfl, ?_⟩
                    show x ∉ s.data.toList.take (i + 1)
                    rw [take_next _ _ _ HY.out]
                    intro hmem
                    rcases List.mem_append.1 hmem with h1 | h1
                    · exact HM.out h1
                    · simp at h1; exact HXY.out h1.symm
                  case measure => simp [intOf]; omega
              · obtain rfl : i = k := by omega
                go_wp2
                go_roundw
                case rel => exact ⟨i + 1, _, by omega, by go_num, by rw [take_next _ _ _ HX.out, orAll_snoc], rfl, HF.out.succ HX.out HW.out.2 HM.out⟩
                case measure => simp [intOf]; omega
          · obtain rfl : p = t.size := by omega
            have hq := eqT (rfl : (t.size : Int) = (t.size : Int))
            have HFX := Lib.hid (HZ.out rfl)
            go_wp2
            go_quiet (fail)
            go_wp2
            go_ret
            exact ⟨by rw [letters_none k x HX.out (Or.inl HFX.out)]; rfl, ⟨rfl, rfl, rfl, Nat.le_refl _, fun _ _ => rfl⟩⟩
    · go_wp2
      go_ret
      have hl := Lib.size_eq s
      have hf : Fine f s.data.toList s.data.toList.length := by
        rw [show s.data.toList.length = k by omega]
        exact HF.out
      refine ⟨?_, ⟨rfl, rfl, rfl, Nat.le_refl _, fun _ _ => rfl⟩⟩
      rw [letters_some hf, List.take_of_length_le (by omega)]
      rfl
end Go.Proofs.YtkindoihmcojdaaDoor
