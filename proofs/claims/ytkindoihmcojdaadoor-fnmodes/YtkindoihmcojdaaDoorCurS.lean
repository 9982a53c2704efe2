/-
  Contracts of the model's cursor on texts: of and spoilt; and of DrawModeText, DrawReadMode, DrawReadOctal, DrawChangeMode: some values, texts of bounded length, nothing old turned.
  Conditions: a readable slice of at most 2000000 bytes.
-/
import Derived.Test.YtkindoihmcojdaaDoorCurM
import Derived.Test.YtkindoihmcojdaaDoorReadMC
namespace Go.Proofs.YtkindoihmcojdaaDoor
open Go.ChangeShapes Go.WideShapes Go.ChangeAt Go.RowKit Go.Joins
set_option linter.unusedVariables false

theorem oct_size (m : Int) : (oct m).size = 3 := strOf_size _
theorem Cur.below {w w' : World} {b B : Nat} {o : Option Addr} {n c a : Nat} (h : Cur w b o n c a) (hb : Below B w w') (hB : b < B) : Cur w' b o n c a := by
  have hq : w'.heap[b]? = w.heap[b]? := hb.block b hB
  have hc : ∀ k, w'.cell? ⟨b, k, none⟩ = w.cell? ⟨b, k, none⟩ := fun k => World.cell?_of_block (a := ⟨b, k, none⟩) hq
  have hf : ∀ k, w'.frozen? ⟨b, k, none⟩ = w.frozen? ⟨b, k, none⟩ := fun k => World.frozen?_of_block (a := ⟨b, k, none⟩) hq
  obtain ⟨s, hs⟩ := h.seed
  exact ⟨(hc 0).trans h.code, (hc 1).trans h.here, ⟨s, (hc 2).trans hs⟩, (hf 1).trans h.free1, (hf 2).trans h.free2, Nat.lt_of_lt_of_le h.old hb.size⟩
theorem CodeAt.belowB {w w' : World} {B B' : Nat} {o : Option Addr} {n : Nat} (h : CodeAt w B o n) (hb : Below B' w w') (hB : B ≤ B') : CodeAt w' B o n := by
  intro i hi
  obtain ⟨ad, v, e, hlt, hc, h0, h1⟩ := h i hi
  exact ⟨ad, v, e, hlt, (hb.cell (p := ad.add i) (by rw [add_block]; omega)).trans hc, h0, h1⟩

def StrLe (L : Nat) (v : Value) : Prop := ∃ s : ByteArray, v = .string s ∧ s.size ≤ L
/-- The first k cells of a block are texts of at most L bytes. -/
def StrsAt (w : World) (g k L : Nat) : Prop := ∀ i, i < k → ∃ s : ByteArray, w.cell? ⟨g, i, none⟩ = some (.string s) ∧ s.size ≤ L
theorem StrsAt.step {w w' : World} {g k L b : Nat} (h : StrsAt w g k L) (hg : w.grownBy w' (some b)) (hlt : g < w.heap.size) (hne : g ≠ b) : StrsAt w' g k L := by
  intro i hi
  obtain ⟨z, hz, h0⟩ := h i hi
  exact ⟨z, by rw [World.cell?_of_block (hg.block g hlt (fun e => hne (by injection e)))]; exact hz, h0⟩
theorem strs_new (w : World) (l : List ByteArray) (t : TypeId) (L : Nat) (h : ∀ z ∈ l, z.size ≤ L) : StrsAt (w.alloc (.cells (l.map Value.string).toArray t)) w.heap.size l.length L := by
  intro i hi
  refine ⟨l[i], ?_, h _ (List.getElem_mem hi)⟩
  rw [World.cell?_alloc_mark]
  simp [hi]

set_option maxRecDepth 100000 in
set_option maxHeartbeats 1000000 in
theorem of_any (L g k : Nat) (w : World) (b : Nat) (o : Option Addr) (n c a B : Nat) (hC : Cur w b o n c a) (hD : CodeAt w B o n) (hB : B ≤ b) (ha : a ≤ 900000000) (hn : n ≤ 2000000) (hk0 : 1 ≤ k) (hk1 : k ≤ 1000)
    (hI : StrsAt w g k L) (hlt : g < w.heap.size) (hne : g ≠ b) :
    Calls Tryd.prog 31 #[.pointer (some ⟨b, 0, none⟩), .slice (some ⟨g, 0, none⟩) k k] w (CurP (StrLe L) 2 w b o n c a) := by
  have HC := Lib.hid hC
  have HD := Lib.hid hD
  have HI := Lib.hid hI
  clear hC hD hI
  go_enter Tryd.func31, Tryd.ntmps31
  go_wp2_with fail
  refine (pick_any _ _ b o n c a B HC.out HD.out hB ha hn (by omega) (by omega)).mono ?_
  rintro e w1 ⟨_, a', ⟨z, rfl, hz0, hz1⟩, h1, h2, rfl, hC1, hg1⟩
  obtain ⟨i, rfl⟩ : ∃ i : Nat, z = (i : Int) := ⟨z.toNat, by omega⟩
  have hik : i < k := by omega
  obtain ⟨y, hy, hy0⟩ := (HI.out.step hg1 hlt hne) i hik
  go_wp2
  go_ret
  exact ⟨_, a', ⟨_, rfl, hy0⟩, h1, h2, rfl, hC1, hg1⟩

theorem size_ext (s : ByteArray) (x y : Nat) : (s.extract x y).size ≤ y - x := by
  have := ByteArray.size_extract (a := s) (b := x) (e := y)
  omega
theorem add_ok (x y : ByteArray) (h : x.size + y.size ≤ 1000000) (W : World) : (Op.stringOp .add x y).run Tryd.prog W = .ok (.string (x ++ y)) W := run_string_add_sum W x y (by omega)

set_option maxRecDepth 100000 in
set_option maxHeartbeats 4000000 in
theorem spoilt_any (t u : ByteArray) (ht : t.size ≤ 100) (hu0 : 1 ≤ u.size) (hu1 : u.size ≤ 100) (w : World) (b : Nat) (o : Option Addr) (n c a B : Nat) (hC : Cur w b o n c a) (hD : CodeAt w B o n) (hB : B ≤ b) (ha : a ≤ 800000000) (hn : n ≤ 2000000) :
    Calls Tryd.prog 30 #[.pointer (some ⟨b, 0, none⟩), .string t, .string u] w (CurP (StrLe 102) 20 w b o n c a) := by
  have hold := hC.old
  have HC := Lib.hid hC
  have HD := Lib.hid hD
  have hs1 := str_new1
  clear hC hD
  go_enter Tryd.func30, Tryd.ntmps30
  go_wp2_with fail
  refine (pick_any _ _ b o n c a B HC.out HD.out hB (by omega) hn (by omega) (by omega)).mono ?_
  rintro e w1 ⟨_, a1, ⟨z, rfl, hz0, hz1⟩, l1, l2, rfl, hC1, hg1⟩
  have hzw1 := hg1.size
  have HC1 := Lib.hid hC1
  have HD1 := Lib.hid (HD.out.step hB hold hg1)
  have HG1 := Lib.hid hg1
  clear hC1 hg1
  go_wp2
  go_loopw [1, 7] (fun tv nv wr => ∃ (r : Nat) (s : ByteArray) (aa : Nat), nv = .int .i64 (r : Int) ∧ tv = .string s ∧ r ≤ 2 ∧ s.size + r ≤ 102 ∧ a ≤ aa ∧ aa + 6 * r ≤ a + 14 ∧ Cur wr b o n c aa ∧ CodeAt wr B o n ∧ w.grownBy wr (some b)) (fun _ nv _ => (intOf nv).toNat)
  case atStart => exact ⟨(1 + z).toNat, t, a1, by rw [Int.toNat_of_nonneg (by omega)], rfl, by omega, by omega, by omega, by omega, HC1.out, HD1.out, HG1.out⟩
  case round =>
    obtain ⟨r, s, aa, rfl, rfl, hr, hsz, la, lb, hCr, hDr, hGr⟩ := hrel
    have hzr := hGr.size
    have HCr := Lib.hid hCr
    have HDr := Lib.hid hDr
    have HGr := Lib.hid hGr
    clear hCr hDr hGr
    by_cases hr0 : 0 < r
    · by_cases hs0 : 0 < s.size
      · go_wp2_with fail
        refine (pick_any _ _ b o n c aa B HCr.out HDr.out hB (by omega) hn (by omega) (by omega)).mono ?_
        rintro e w2 ⟨_, a2, ⟨i, rfl, hi0, hi1⟩, l3, l4, rfl, hC2, hg2⟩
        obtain ⟨i, rfl⟩ : ∃ q : Nat, i = (q : Int) := ⟨i.toNat, by omega⟩
        have hz2 := hg2.size
        have HC2 := Lib.hid hC2
        have HD2 := Lib.hid (HDr.out.step hB (by omega) hg2)
        have HG2 := Lib.hid (grown_then HGr.out hg2)
        clear hC2 hg2
        go_wp2_with fail
        refine (pick_any _ _ b o n c a2 B HC2.out HD2.out hB (by omega) hn (by omega) (by omega)).mono ?_
        rintro e w3 ⟨_, a3, ⟨j, rfl, hj0, hj1⟩, l5, l6, rfl, hC3, hg3⟩
        obtain ⟨j, rfl⟩ : ∃ q : Nat, j = (q : Int) := ⟨j.toNat, by omega⟩
        have hju : j < u.size := by omega
        have his : i < s.size := by omega
        obtain ⟨y, hy⟩ : ∃ y : UInt8, u[j]'hju = y := ⟨_, rfl⟩
        have hz3 := hg3.size
        have HC3 := Lib.hid hC3
        have HD3 := Lib.hid (HD2.out.step hB (by omega) hg3)
        have HG3 := Lib.hid (grown_then HG2.out hg3)
        clear hC3 hg3
        go_wp2_with fail
        refine (pick_any _ _ b o n c a3 B (HC3.out.alloc _) (HD3.out.alloc (by omega) _) hB (by omega) hn (by omega) (by omega)).mono ?_
        rintro e w4 ⟨_, a4, ⟨k, rfl, hk0, hk1⟩, l7, l8, rfl, hC4, hg4⟩
        have HC4 := Lib.hid hC4
        have HD4 := Lib.hid ((HD3.out.alloc (by omega) _).step hB (by simp; omega) hg4)
        have HG4 := Lib.hid (grown_then (grown_alloc HG3.out _) hg4)
        clear hC4 hg4
        have e1 := size_ext s 0 i
        have e2 := size_ext s i s.size
        have e3 := size_ext s (i + 1) s.size
        have eY : (strOf [(y.toNat : Int)]).size = 1 := strOf_size _
        have ad1 : ∀ W : World, (Op.stringOp .add (s.extract 0 i) (strOf [(y.toNat : Int)])).run Tryd.prog W = .ok (.string (s.extract 0 i ++ strOf [(y.toNat : Int)])) W := add_ok _ _ (by omega)
        have ad2 : ∀ W : World, (Op.stringOp .add (s.extract 0 i ++ strOf [(y.toNat : Int)]) (s.extract i s.size)).run Tryd.prog W = .ok (.string (s.extract 0 i ++ strOf [(y.toNat : Int)] ++ s.extract i s.size)) W := add_ok _ _ (by rw [ByteArray.size_append]; omega)
        have ad3 : ∀ W : World, (Op.stringOp .add (s.extract 0 i ++ strOf [(y.toNat : Int)]) (s.extract (i + 1) s.size)).run Tryd.prog W = .ok (.string (s.extract 0 i ++ strOf [(y.toNat : Int)] ++ s.extract (i + 1) s.size)) W := add_ok _ _ (by rw [ByteArray.size_append]; omega)
        have ad4 : ∀ W : World, (Op.stringOp .add (s.extract 0 i) (s.extract (i + 1) s.size)).run Tryd.prog W = .ok (.string (s.extract 0 i ++ s.extract (i + 1) s.size)) W := add_ok _ _ (by omega)
        clear e1 e2 e3 eY
        have i0 : (0 : Int) ≤ (i : Int) := by omega
        have i1 : (i : Int) ≤ (s.size : Int) := by omega
        have i2 : (i : Int) + 1 ≤ (s.size : Int) := by omega
        have i3 : (0 : Int) ≤ (i : Int) + 1 := by omega
        have i4 : IntKind.i64.wrap ((i : Int) + 1) = (i : Int) + 1 := IntWalk.i64_in _ (by omega)
        have i5 : ((i : Int) + 1).toNat = i + 1 := by omega
        rcases (show k = 0 ∨ k = 1 ∨ k = 2 by omega) with rfl | rfl | rfl
        · go_wp2
          go_quiet (fail)
          go_wp2
          go_roundw
          case rel => exact ⟨r - 1, s.extract 0 i ++ strOf [(y.toNat : Int)] ++ s.extract i s.size, a4, by rw [Int.ofNat_sub (by omega)]; rfl, rfl, by omega, by simp only [ByteArray.size_append, strOf_size]; have e1 := size_ext s 0 i; have e2 := size_ext s i s.size; have e3 := size_ext s (i + 1) s.size; simp only [List.length_cons, List.length_nil]; omega, by omega, by omega, cur_drew HC4.out _, HD4.out, grown_draw HG4.out _⟩
          case measure => simp [intOf]; omega
        · go_wp2
          go_quiet (fail)
          go_wp2
          go_roundw
          case rel => exact ⟨r - 1, s.extract 0 i ++ strOf [(y.toNat : Int)] ++ s.extract (i + 1) s.size, a4, by rw [Int.ofNat_sub (by omega)]; rfl, rfl, by omega, by simp only [ByteArray.size_append, strOf_size]; have e1 := size_ext s 0 i; have e2 := size_ext s i s.size; have e3 := size_ext s (i + 1) s.size; simp only [List.length_cons, List.length_nil]; omega, by omega, by omega, cur_drew HC4.out _, HD4.out, grown_draw HG4.out _⟩
          case measure => simp [intOf]; omega
        · go_wp2
          go_quiet (fail)
          go_wp2
          go_roundw
          case rel => exact ⟨r - 1, s.extract 0 i ++ s.extract (i + 1) s.size, a4, by rw [Int.ofNat_sub (by omega)]; rfl, rfl, by omega, by rw [ByteArray.size_append]; have e1 := size_ext s 0 i; have e3 := size_ext s (i + 1) s.size; omega, by omega, by omega, cur_drew HC4.out _, HD4.out, grown_draw HG4.out _⟩
          case measure => simp [intOf]; omega
      · go_wp2
        go_ret
        exact ⟨_, aa, ⟨s, rfl, by omega⟩, by omega, by omega, rfl, HCr.out, HGr.out⟩
    · go_wp2
      go_ret
      exact ⟨_, aa, ⟨s, rfl, by omega⟩, by omega, by omega, rfl, HCr.out, HGr.out⟩

def DrawStrP (w : World) (e : Ending) (w' : World) : Prop := ∃ s : ByteArray, s.size ≤ 1000 ∧ e = .returned (.string s) ∧ Below w.heap.size w w'
def DrawIntP (w : World) (e : Ending) (w' : World) : Prop := ∃ m : Int, e = .returned (.int .i64 m) ∧ Below w.heap.size w w'
def DrawIntStrP (w : World) (e : Ending) (w' : World) : Prop := ∃ (m : Int) (s : ByteArray), s.size ≤ 1000 ∧ e = .returned (.tuple #[.int .i64 m, .string s]) ∧ Below w.heap.size w w'

set_option maxRecDepth 100000 in
set_option maxHeartbeats 2000000 in
theorem drawModeText_any (w : World) (o : Option Addr) (n c : Nat) (hD : CodeAt w w.heap.size o n) (hn : n ≤ 2000000) :
    Calls Tryd.prog 7 #[.slice o n c] w (DrawIntP w) := by
  have HD := Lib.hid hD
  clear hD
  go_enter Tryd.func7, Tryd.ntmps7
  go_wp2_with fail
  refine (mode_any _ w.heap.size o n c 0 w.heap.size (Cur.made w o n c _) (HD.out.alloc (Nat.le_refl _) _) (Nat.le_refl _) (by omega) hn).mono ?_
  rintro e w1 ⟨_, a1, ⟨x, rfl, hx0, hx1⟩, l1, l2, rfl, hC1, hg1⟩
  have HC1 := Lib.hid hC1
  have HD1 := Lib.hid ((HD.out.alloc (Nat.le_refl _) _).step (Nat.le_refl _) (by simp) hg1)
  have hz1 : w.heap.size + 1 ≤ w1.heap.size := by have := hg1.size; simpa using this
  have HB1 := Lib.hid (below_of_grown ((Below.refl _ w).alloc (Nat.le_refl _) _) hg1 (Nat.le_refl _))
  clear hC1 hg1
  go_wp2_with fail
  refine (pick_any _ _ w.heap.size o n c a1 w.heap.size HC1.out HD1.out (Nat.le_refl _) (by omega) hn (by omega) (by omega)).mono ?_
  rintro e w3 ⟨_, a3, ⟨q, rfl, hq0, hq1⟩, l5, l6, rfl, hC3, hg3⟩
  go_wp2
  go_ret
  exact ⟨_, rfl, below_of_grown HB1.out hg3 (Nat.le_refl _)⟩

set_option maxRecDepth 100000 in
set_option maxHeartbeats 2000000 in
theorem drawReadMode_any (w : World) (o : Option Addr) (n c : Nat) (hD : CodeAt w w.heap.size o n) (hn : n ≤ 2000000) :
    Calls Tryd.prog 14 #[.slice o n c] w (DrawStrP w) := by
  have HD := Lib.hid hD
  clear hD
  go_enter Tryd.func14, Tryd.ntmps14
  go_wp2_with fail
  refine (mode_any _ w.heap.size o n c 0 w.heap.size (Cur.made w o n c _) (HD.out.alloc (Nat.le_refl _) _) (Nat.le_refl _) (by omega) hn).mono ?_
  rintro e w1 ⟨_, a1, ⟨x, rfl, hx0, hx1⟩, l1, l2, rfl, hC1, hg1⟩
  have HC1 := Lib.hid hC1
  have HD1 := Lib.hid ((HD.out.alloc (Nat.le_refl _) _).step (Nat.le_refl _) (by simp) hg1)
  have hz1 : w.heap.size + 1 ≤ w1.heap.size := by have := hg1.size; simpa using this
  have HB1 := Lib.hid (below_of_grown ((Below.refl _ w).alloc (Nat.le_refl _) _) hg1 (Nat.le_refl _))
  clear hC1 hg1
  go_wp2_with fail
  refine (l1Signs_any _ _ hx0 hx1).mono ?_
  rintro e w2 ⟨rfl, rfl⟩
  have HC2 := HC1
  have HD2 := HD1
  have HB2 := HB1
  have hz2 := hz1
  go_wp2_with fail
  refine (one_any _ _ w.heap.size o n c a1 w.heap.size HC2.out HD2.out (Nat.le_refl _) (by omega) hn (by omega) (by omega)).mono ?_
  rintro e w3 ⟨_, a3, ⟨z, rfl⟩, l3, l4, rfl, hC3, hg3⟩
  have hz3 := hg3.size
  have HC3 := Lib.hid hC3
  have HD3 := Lib.hid (HD2.out.step (Nat.le_refl _) (by omega) hg3)
  have HB3 := Lib.hid (below_of_grown HB2.out hg3 (Nat.le_refl _))
  clear hC3 hg3
  cases z
  · go_wp2
    go_ret
    exact ⟨_, by rw [signs_size]; omega, rfl, HB3.out⟩
  · go_wp2_with fail
    refine (spoilt_any _ ⟨#[114, 119, 120, 45]⟩ (by rw [signs_size]; omega) (by decide) (by decide) _ w.heap.size o n c a3 w.heap.size HC3.out HD3.out (Nat.le_refl _) (by omega) hn).mono ?_
    rintro e w4 ⟨_, a4, ⟨s, rfl, hs⟩, l5, l6, rfl, hC4, hg4⟩
    go_wp2
    go_ret
    exact ⟨s, by omega, rfl, below_of_grown HB3.out hg4 (Nat.le_refl _)⟩

set_option maxRecDepth 100000 in
set_option maxHeartbeats 2000000 in
theorem drawReadOctal_any (w : World) (o : Option Addr) (n c : Nat) (hD : CodeAt w w.heap.size o n) (hn : n ≤ 2000000) :
    Calls Tryd.prog 16 #[.slice o n c] w (DrawStrP w) := by
  have HD := Lib.hid hD
  clear hD
  go_enter Tryd.func16, Tryd.ntmps16
  go_wp2_with fail
  refine (mode_any _ w.heap.size o n c 0 w.heap.size (Cur.made w o n c _) (HD.out.alloc (Nat.le_refl _) _) (Nat.le_refl _) (by omega) hn).mono ?_
  rintro e w1 ⟨_, a1, ⟨x, rfl, hx0, hx1⟩, l1, l2, rfl, hC1, hg1⟩
  have HC1 := Lib.hid hC1
  have HD1 := Lib.hid ((HD.out.alloc (Nat.le_refl _) _).step (Nat.le_refl _) (by simp) hg1)
  have hz1 : w.heap.size + 1 ≤ w1.heap.size := by have := hg1.size; simpa using this
  have HB1 := Lib.hid (below_of_grown ((Below.refl _ w).alloc (Nat.le_refl _) _) hg1 (Nat.le_refl _))
  clear hC1 hg1
  go_wp2_with fail
  refine (l1Octal_any _ _ hx0 hx1).mono ?_
  rintro e w2 ⟨rfl, hbq⟩
  have hz2 := hbq.size
  have HC2 := Lib.hid (HC1.out.below hbq (by omega))
  have HD2 := Lib.hid (HD1.out.belowB hbq (by omega))
  have HB2 := Lib.hid (HB1.out.trans (hbq.mono (by omega)))
  clear hbq
  go_wp2_with fail
  refine (one_any _ _ w.heap.size o n c a1 w.heap.size HC2.out HD2.out (Nat.le_refl _) (by omega) hn (by omega) (by omega)).mono ?_
  rintro e w3 ⟨_, a3, ⟨z, rfl⟩, l3, l4, rfl, hC3, hg3⟩
  have hz3 := hg3.size
  have HC3 := Lib.hid hC3
  have HD3 := Lib.hid (HD2.out.step (Nat.le_refl _) (by omega) hg3)
  have HB3 := Lib.hid (below_of_grown HB2.out hg3 (Nat.le_refl _))
  clear hC3 hg3
  cases z
  · go_wp2
    go_ret
    exact ⟨_, by rw [oct_size]; omega, rfl, HB3.out⟩
  · go_wp2_with fail
    refine (spoilt_any _ ⟨#[48, 55, 56, 57]⟩ (by rw [oct_size]; omega) (by decide) (by decide) _ w.heap.size o n c a3 w.heap.size HC3.out HD3.out (Nat.le_refl _) (by omega) hn).mono ?_
    rintro e w4 ⟨_, a4, ⟨s, rfl, hs⟩, l5, l6, rfl, hC4, hg4⟩
    go_wp2
    go_ret
    exact ⟨s, by omega, rfl, below_of_grown HB3.out hg4 (Nat.le_refl _)⟩

end Go.Proofs.YtkindoihmcojdaaDoor
