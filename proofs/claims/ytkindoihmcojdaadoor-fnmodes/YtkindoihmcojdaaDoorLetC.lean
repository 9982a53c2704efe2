/-
  Contracts of impl.whoBits, impl.whatBits and impl.bitsOfLetters: the bits of a text's letters, or none where a letter is none of them or stands twice.
  Conditions: the text has fewer than 4294967281 bytes.
-/
import Derived.Test.YtkindoihmcojdaaDoorIdxD
namespace Go.Proofs.YtkindoihmcojdaaDoor
open Go.ChangeShapes Go.WideShapes Go.ChangeAt Go.RowKit Go.Joins
set_option linter.unusedVariables false

def whoB (x : UInt8) : Int := if x.toNat = 117 then 448 else if x.toNat = 103 then 56 else if x.toNat = 111 then 7 else if x.toNat = 97 then 511 else 0
def whatB (x : UInt8) : Int := if x.toNat = 114 then 292 else if x.toNat = 119 then 146 else if x.toNat = 120 then 73 else 0

theorem eqT {a b : Int} (h : a = b) : (a == b) = true := by simpa using h
theorem eqF {a b : Int} (h : a ≠ b) : (a == b) = false := by simpa using h

set_option maxHeartbeats 400000 in
theorem whoBits_any (x : UInt8) (w : World) : Calls Tryd.prog 34 #[.int .u8 (x.toNat : Int)] w fun e w' => e = .returned (.int .i64 (whoB x)) ∧ w' = w := by
  by_cases h1 : x.toNat = 117
  · have e1 := eqT (show (x.toNat : Int) = 117 by omega)
    have H := Lib.hid h1
    clear h1
    go_enter Tryd.func34, Tryd.ntmps34
    go_wp2
    go_ret
    exact ⟨ret_int (by simp [whoB, H.out]), rfl⟩
  · have e1 := eqF (show (x.toNat : Int) ≠ 117 by omega)
    by_cases h2 : x.toNat = 103
    · have e2 := eqT (show (x.toNat : Int) = 103 by omega)
      have H := Lib.hid h2
      clear h1 h2
      go_enter Tryd.func34, Tryd.ntmps34
      go_wp2
      go_ret
      exact ⟨ret_int (by simp [whoB, H.out]), rfl⟩
    · have e2 := eqF (show (x.toNat : Int) ≠ 103 by omega)
      by_cases h3 : x.toNat = 111
      · have e3 := eqT (show (x.toNat : Int) = 111 by omega)
        have H := Lib.hid h3
        clear h1 h2 h3
        go_enter Tryd.func34, Tryd.ntmps34
        go_wp2
        go_ret
        exact ⟨ret_int (by simp [whoB, H.out]), rfl⟩
      · have e3 := eqF (show (x.toNat : Int) ≠ 111 by omega)
        by_cases h4 : x.toNat = 97
        · have e4 := eqT (show (x.toNat : Int) = 97 by omega)
          have H := Lib.hid h4
          clear h1 h2 h3 h4
          go_enter Tryd.func34, Tryd.ntmps34
          go_wp2
          go_ret
          exact ⟨ret_int (by simp [whoB, H.out]), rfl⟩
        · have e4 := eqF (show (x.toNat : Int) ≠ 97 by omega)
          have H := Lib.hid (And.intro h1 (And.intro h2 (And.intro h3 h4)))
          clear h1 h2 h3 h4
          go_enter Tryd.func34, Tryd.ntmps34
          go_wp2
          go_ret
          exact ⟨ret_int (by simp [whoB, H.out]), rfl⟩

set_option maxHeartbeats 400000 in
theorem whatBits_any (x : UInt8) (w : World) : Calls Tryd.prog 35 #[.int .u8 (x.toNat : Int)] w fun e w' => e = .returned (.int .i64 (whatB x)) ∧ w' = w := by
  by_cases h1 : x.toNat = 114
  · have e1 := eqT (show (x.toNat : Int) = 114 by omega)
    have H := Lib.hid h1
    clear h1
    go_enter Tryd.func35, Tryd.ntmps35
    go_wp2
    go_ret
    exact ⟨ret_int (by simp [whatB, H.out]), rfl⟩
  · have e1 := eqF (show (x.toNat : Int) ≠ 114 by omega)
    by_cases h2 : x.toNat = 119
    · have e2 := eqT (show (x.toNat : Int) = 119 by omega)
      have H := Lib.hid h2
      clear h1 h2
      go_enter Tryd.func35, Tryd.ntmps35
      go_wp2
      go_ret
      exact ⟨ret_int (by simp [whatB, H.out]), rfl⟩
    · have e2 := eqF (show (x.toNat : Int) ≠ 119 by omega)
      by_cases h3 : x.toNat = 120
      · have e3 := eqT (show (x.toNat : Int) = 120 by omega)
        have H := Lib.hid h3
        clear h1 h2 h3
        go_enter Tryd.func35, Tryd.ntmps35
        go_wp2
        go_ret
        exact ⟨ret_int (by simp [whatB, H.out]), rfl⟩
      · have e3 := eqF (show (x.toNat : Int) ≠ 120 by omega)
        have H := Lib.hid (And.intro h1 (And.intro h2 h3))
        clear h1 h2 h3
        go_enter Tryd.func35, Tryd.ntmps35
        go_wp2
        go_ret
        exact ⟨ret_int (by simp [whatB, H.out]), rfl⟩

/-- The bits of letters, joined from the front. -/
def orAll (f : UInt8 → Int) (l : List UInt8) : Int := l.foldl (fun a b => bits BinOp.or IntKind.i64 a (f b)) 0
theorem orAll_snoc (f : UInt8 → Int) (l : List UInt8) (b : UInt8) : orAll f (l ++ [b]) = bits BinOp.or IntKind.i64 (orAll f l) (f b) := by simp [orAll]
/-- Each of the first n letters has bits, and none of them stands ahead of itself. -/
def Fine (f : UInt8 → Int) (l : List UInt8) (n : Nat) : Prop := ∀ (k : Nat) (b : UInt8), k < n → l[k]? = some b → f b ≠ 0 ∧ b ∉ l.take k
theorem Fine.zero (f : UInt8 → Int) (l : List UInt8) : Fine f l 0 := fun _ _ h => absurd h (by omega)
theorem Fine.succ {f : UInt8 → Int} {l : List UInt8} {n : Nat} {x : UInt8} (h : Fine f l n) (hx : l[n]? = some x) (h0 : f x ≠ 0) (h1 : x ∉ l.take n) : Fine f l (n + 1) := by
  intro k b hk hb
  rcases Nat.lt_or_ge k n with hlt | hge
  · exact h k b hlt hb
  · obtain rfl : k = n := by omega
    rw [hx] at hb
    cases hb
    exact ⟨h0, h1⟩
/-- What the letters of a text stand for. -/
noncomputable def lettersOf (f : UInt8 → Int) (l : List UInt8) : Option Int := by
  classical exact if Fine f l l.length then some (orAll f l) else none
theorem letters_some {f : UInt8 → Int} {l : List UInt8} (h : Fine f l l.length) : lettersOf f l = some (orAll f l) := by unfold lettersOf; simp [h]
theorem letters_none {f : UInt8 → Int} {l : List UInt8} (k : Nat) (x : UInt8) (hk : l[k]? = some x) (hbad : f x = 0 ∨ x ∈ l.take k) : lettersOf f l = none := by
  unfold lettersOf
  have : ¬ Fine f l l.length := fun h => by
    have hlt := (List.getElem?_eq_some_iff.1 hk).1
    have := h k x hlt hk
    rcases hbad with e | e
    · exact this.1 e
    · exact this.2 e
  simp [this]
theorem take_next (l : List UInt8) (k : Nat) (x : UInt8) (h : l[k]? = some x) : l.take (k + 1) = l.take k ++ [x] := by
  obtain ⟨hk, e⟩ := List.getElem?_eq_some_iff.1 h
  rw [List.take_succ_eq_append_getElem hk, e]

theorem idx_mem (l : List UInt8) (c : UInt8) : (0 ≤ Lib.indexByte l c) ↔ c ∈ l := by
  have h := Lib.contains_iff_indexByte l c
  constructor
  · intro h0
    rw [decide_eq_true h0] at h
    simpa using h
  · intro h0
    have : l.contains c = true := by simpa using h0
    rw [this] at h
    exact of_decide_eq_true h.symm

/-- What a function of letters returns. -/
def lettersEnd (o : Option Int) : Ending := match o with
  | some n => .returned (.tuple #[.int .i64 n, .bool true])
  | none => .returned (.tuple #[.int .i64 0, .bool false])

theorem below_drew {w : World} (n : Nat) : Below w.heap.size w (w.drewN n) := ⟨rfl, rfl, rfl, Nat.le_refl _, fun _ _ => rfl⟩

set_option maxRecDepth 100000 in
set_option maxHeartbeats 1000000 in
theorem bitsOfLetters_any (f : UInt8 → Int) (j : FuncId) (hj : ∀ (x : UInt8) (w : World), Calls Tryd.prog j #[.int .u8 (x.toNat : Int)] w fun e w' => e = .returned (.int .i64 (f x)) ∧ w' = w) (hcf : ∀ args w, (callFunc j args).run Tryd.prog w = .ok (.enter j args) w)
    (s : ByteArray) (w : World) (hs : s.size < 4294967281) :
    Calls Tryd.prog 33 #[.string s, .func (.func j) #[] #[]] w fun e w' => e = lettersEnd (lettersOf f s.data.toList) ∧ Below w.heap.size w w' := by
  have HJ := Lib.hid hj
  clear hj
  go_enter Tryd.func33, Tryd.ntmps33
  go_wp2
  go_loopw [6, 7] (fun v i wr => ∃ k a : Nat, k ≤ s.size ∧ i = .int .i64 k ∧ v = .int .i64 (orAll f (s.data.toList.take k)) ∧ wr = w.drewN a ∧ Hid (Fine f s.data.toList k)) (fun _ i _ => s.size - (intOf i).toNat)
  case atStart => exact ⟨0, 0, by omega, rfl, rfl, rfl, Fine.zero _ _⟩
  case round =>
    obtain ⟨k, a, hk, rfl, rfl, rfl, HF⟩ := hrel
    by_cases hlt : k < s.size
    · obtain ⟨x, hx⟩ : ∃ x : UInt8, s[k]'hlt = x := ⟨_, rfl⟩
      have hxl : s.data.toList[k]? = some x := by rw [← hx]; exact Lib.data_getElem? s k hlt
      have HX := Lib.hid hxl
      clear hxl
      go_wp2_with fail
      refine (HJ.out x _).mono ?_
      rintro e w' ⟨rfl, rfl⟩
      by_cases h0 : f x = 0
      · have e0 := eqT h0
        have H0 := Lib.hid h0
        clear h0
        go_wp2
        go_quiet (fail)
        go_wp2
        go_ret2
        exact ⟨by rw [letters_none k x HX.out (Or.inl H0.out)]; rfl, ⟨rfl, rfl, rfl, Nat.le_refl _, fun _ _ => rfl⟩⟩
      · have e0 := eqF h0
        have H0 := Lib.hid h0
        clear h0
        by_cases hm : x ∈ s.data.toList.take k
        · have hq : 0 ≤ Lib.indexByte (List.take k s.data.toList) x := (idx_mem _ _).2 hm
          have HM := Lib.hid hm
          clear hm
          go_wp2
          go_quiet ((go_at_call 46; exact still_behind (Tryd.strings_IndexByte _ _ _)))
          go_wp2
          go_ret2
          exact ⟨by rw [letters_none k x HX.out (Or.inr HM.out)]; rfl, ⟨rfl, rfl, rfl, Nat.le_refl _, fun _ _ => rfl⟩⟩
        · have hq : ¬ 0 ≤ Lib.indexByte (List.take k s.data.toList) x := fun e => hm ((idx_mem _ _).1 e)
          have HM := Lib.hid hm
          clear hm
          go_wp2
          go_quiet ((go_at_call 46; exact still_behind (Tryd.strings_IndexByte _ _ _)))
          go_wp2
          go_roundw
          case rel => exact ⟨k + 1, _, by omega, by go_num, by rw [take_next _ _ _ HX.out, orAll_snoc], rfl, HF.out.succ HX.out H0.out HM.out⟩
          case measure => simp [intOf]; omega
    · go_wp2
      go_ret2
      have hl := Lib.size_eq s
      have hf : Fine f s.data.toList s.data.toList.length := by
        rw [show s.data.toList.length = k by omega]
        exact HF.out
      refine ⟨?_, ⟨rfl, rfl, rfl, Nat.le_refl _, fun _ _ => rfl⟩⟩
      rw [letters_some hf, List.take_of_length_le (by omega)]
      rfl
end Go.Proofs.YtkindoihmcojdaaDoor
