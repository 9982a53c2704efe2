/-
  Contracts of the model's cursor on texts: of, spoilt, word, path: texts of bounded length, nothing old turned.
  Conditions: a readable slice of at most 2000000 bytes.
-/
import Derived.Test.YtpdnhaaedibbaaaCurB
import Derived.Test.YtpdnhaaedibbaaaMarkC
namespace Go.Proofs.Ytpdnhaaedibbaaa
open Go.ChangeShapes Go.WideShapes Go.ChangeAt Go.RowKit Go.Joins
set_option linter.unusedVariables false

theorem strOf_size (l : List Int) : (strOf l).size = l.length := by simp [strOf, ByteArray.size]
theorem Cur.below {w w' : World} {b B : Nat} {o : Option Addr} {n c a : Nat} (h : Cur w b o n c a) (hb : Below B w w') (hB : b < B) : Cur w' b o n c a := by
  have hq : w'.heap[b]? = w.heap[b]? := hb.block b hB
  have hc : ∀ k, w'.cell? ⟨b, k, none⟩ = w.cell? ⟨b, k, none⟩ := fun k => World.cell?_of_block (a := ⟨b, k, none⟩) hq
  have hf : ∀ k, w'.frozen? ⟨b, k, none⟩ = w.frozen? ⟨b, k, none⟩ := fun k => World.frozen?_of_block (a := ⟨b, k, none⟩) hq
  obtain ⟨s, hs⟩ := h.seed
  exact ⟨(hc 0).trans h.code, (hc 1).trans h.here, ⟨s, (hc 2).trans hs⟩, (hf 1).trans h.free1, (hf 2).trans h.free2, Nat.lt_of_lt_of_le h.old hb.size⟩
theorem CodeAt.belowB {w w' : World} {B B' : Nat} {o : Option Addr} {n : Nat} (h : CodeAt w B o n) (hb : Below B' w w') (hB : B ≤ B') : CodeAt w' B o n := by
  intro i hi
  obtain ⟨ad, v, e, hlt, hc, h0, h1⟩ := h i hi
  exact ⟨ad, v, e, hlt, (hb.cell (p := ad.add i) (by rw [add_block]; omega)).trans hc, h0, h1⟩

def StrLe (L : Nat) (v : Value) : Prop := ∃ s : ByteArray, v = .string s ∧ s.size ≤ L
/-- The first k cells of a block are texts of at most L bytes. -/
def StrsAt (w : World) (g k L : Nat) : Prop := ∀ i, i < k → ∃ s : ByteArray, w.cell? ⟨g, i, none⟩ = some (.string s) ∧ s.size ≤ L
theorem StrsAt.step {w w' : World} {g k L b : Nat} (h : StrsAt w g k L) (hg : w.grownBy w' (some b)) (hlt : g < w.heap.size) (hne : g ≠ b) : StrsAt w' g k L := by
  intro i hi
  obtain ⟨z, hz, h0⟩ := h i hi
  exact ⟨z, by rw [World.cell?_of_block (hg.block g hlt (fun e => hne (by injection e)))]; exact hz, h0⟩
theorem strs_new (w : World) (l : List ByteArray) (t : TypeId) (L : Nat) (h : ∀ z ∈ l, z.size ≤ L) : StrsAt (w.alloc (.cells (l.map Value.string).toArray t)) w.heap.size l.length L := by
  intro i hi
  refine ⟨l[i], ?_, h _ (List.getElem_mem hi)⟩
  rw [World.cell?_alloc_mark]
  simp [hi]

set_option maxRecDepth 100000 in
set_option maxHeartbeats 1000000 in
theorem of_any (L g k : Nat) (w : World) (b : Nat) (o : Option Addr) (n c a B : Nat) (hC : Cur w b o n c a) (hD : CodeAt w B o n) (hB : B ≤ b) (ha : a ≤ 900000000) (hn : n ≤ 2000000) (hk0 : 1 ≤ k) (hk1 : k ≤ 1000)
    (hI : StrsAt w g k L) (hlt : g < w.heap.size) (hne : g ≠ b) :
    Calls Try.prog 64 #[.pointer (some ⟨b, 0, none⟩), .slice (some ⟨g, 0, none⟩) k k] w (CurP (StrLe L) 2 w b o n c a) := by
  have HC := Lib.hid hC
  have HD := Lib.hid hD
  have HI := Lib.hid hI
  clear hC hD hI
  go_enter Try.func64, Try.ntmps64
  go_wp2_with fail
  refine (pick_any _ _ b o n c a B HC.out HD.out hB ha hn (by omega) (by omega)).mono ?_
  rintro e w1 ⟨_, a', ⟨z, rfl, hz0, hz1⟩, h1, h2, rfl, hC1, hg1⟩
  obtain ⟨i, rfl⟩ : ∃ i : Nat, z = (i : Int) := ⟨z.toNat, by omega⟩
  have hik : i < k := by omega
  obtain ⟨y, hy, hy0⟩ := (HI.out.step hg1 hlt hne) i hik
  go_wp2
  go_ret
  exact ⟨_, a', ⟨_, rfl, hy0⟩, h1, h2, rfl, hC1, hg1⟩

theorem size_ext (s : ByteArray) (x y : Nat) : (s.extract x y).size ≤ y - x := by
  have := ByteArray.size_extract (a := s) (b := x) (e := y)
  omega
theorem add_ok (x y : ByteArray) (h : x.size + y.size ≤ 1000000) (W : World) : (Op.stringOp .add x y).run Try.prog W = .ok (.string (x ++ y)) W := run_string_add_sum W x y (by omega)

set_option maxRecDepth 100000 in
set_option maxHeartbeats 4000000 in
theorem spoilt_any (t u : ByteArray) (ht : t.size ≤ 100) (hu0 : 1 ≤ u.size) (hu1 : u.size ≤ 100) (w : World) (b : Nat) (o : Option Addr) (n c a B : Nat) (hC : Cur w b o n c a) (hD : CodeAt w B o n) (hB : B ≤ b) (ha : a ≤ 800000000) (hn : n ≤ 2000000) :
    Calls Try.prog 90 #[.pointer (some ⟨b, 0, none⟩), .string t, .string u] w (CurP (StrLe 102) 20 w b o n c a) := by
  have hold := hC.old
  have HC := Lib.hid hC
  have HD := Lib.hid hD
  have hs1 := str_new1
  clear hC hD
  go_enter Try.func90, Try.ntmps90
  go_wp2_with fail
  refine (pick_any _ _ b o n c a B HC.out HD.out hB (by omega) hn (by omega) (by omega)).mono ?_
  rintro e w1 ⟨_, a1, ⟨z, rfl, hz0, hz1⟩, l1, l2, rfl, hC1, hg1⟩
  have hzw1 := hg1.size
  have HC1 := Lib.hid hC1
  have HD1 := Lib.hid (HD.out.step hB hold hg1)
  have HG1 := Lib.hid hg1
  clear hC1 hg1
  go_wp2
  go_loopw [1, 7] (fun tv nv wr => ∃ (r : Nat) (s : ByteArray) (aa : Nat), nv = .int .i64 (r : Int) ∧ tv = .string s ∧ r ≤ 2 ∧ s.size + r ≤ 102 ∧ a ≤ aa ∧ aa + 6 * r ≤ a + 14 ∧ Cur wr b o n c aa ∧ CodeAt wr B o n ∧ w.grownBy wr (some b)) (fun _ nv _ => (intOf nv).toNat)
  case atStart => exact ⟨(1 + z).toNat, t, a1, by rw [Int.toNat_of_nonneg (by omega)], rfl, by omega, by omega, by omega, by omega, HC1.out, HD1.out, HG1.out⟩
  case round =>
    obtain ⟨r, s, aa, rfl, rfl, hr, hsz, la, lb, hCr, hDr, hGr⟩ := hrel
    have hzr := hGr.size
    have HCr := Lib.hid hCr
    have HDr := Lib.hid hDr
    have HGr := Lib.hid hGr
    clear hCr hDr hGr
    by_cases hr0 : 0 < r
    · by_cases hs0 : 0 < s.size
      · go_wp2_with fail
        refine (pick_any _ _ b o n c aa B HCr.out HDr.out hB (by omega) hn (by omega) (by omega)).mono ?_
        rintro e w2 ⟨_, a2, ⟨i, rfl, hi0, hi1⟩, l3, l4, rfl, hC2, hg2⟩
        obtain ⟨i, rfl⟩ : ∃ q : Nat, i = (q : Int) := ⟨i.toNat, by omega⟩
        have hz2 := hg2.size
        have HC2 := Lib.hid hC2
        have HD2 := Lib.hid (HDr.out.step hB (by omega) hg2)
        have HG2 := Lib.hid (grown_then HGr.out hg2)
        clear hC2 hg2
        go_wp2_with fail
        refine (pick_any _ _ b o n c a2 B HC2.out HD2.out hB (by omega) hn (by omega) (by omega)).mono ?_
        rintro e w3 ⟨_, a3, ⟨j, rfl, hj0, hj1⟩, l5, l6, rfl, hC3, hg3⟩
        obtain ⟨j, rfl⟩ : ∃ q : Nat, j = (q : Int) := ⟨j.toNat, by omega⟩
        have hju : j < u.size := by omega
        have his : i < s.size := by omega
        obtain ⟨y, hy⟩ : ∃ y : UInt8, u[j]'hju = y := ⟨_, rfl⟩
        have hz3 := hg3.size
        have HC3 := Lib.hid hC3
        have HD3 := Lib.hid (HD2.out.step hB (by omega) hg3)
        have HG3 := Lib.hid (grown_then HG2.out hg3)
        clear hC3 hg3
        go_wp2_with fail
        refine (pick_any _ _ b o n c a3 B (HC3.out.alloc _) (HD3.out.alloc (by omega) _) hB (by omega) hn (by omega) (by omega)).mono ?_
        rintro e w4 ⟨_, a4, ⟨k, rfl, hk0, hk1⟩, l7, l8, rfl, hC4, hg4⟩
        have HC4 := Lib.hid hC4
        have HD4 := Lib.hid ((HD3.out.alloc (by omega) _).step hB (by simp; omega) hg4)
        have HG4 := Lib.hid (grown_then (grown_alloc HG3.out _) hg4)
        clear hC4 hg4
        have e1 := size_ext s 0 i
        have e2 := size_ext s i s.size
        have e3 := size_ext s (i + 1) s.size
        have eY : (strOf [(y.toNat : Int)]).size = 1 := strOf_size _
        have ad1 : ∀ W : World, (Op.stringOp .add (s.extract 0 i) (strOf [(y.toNat : Int)])).run Try.prog W = .ok (.string (s.extract 0 i ++ strOf [(y.toNat : Int)])) W := add_ok _ _ (by omega)
        have ad2 : ∀ W : World, (Op.stringOp .add (s.extract 0 i ++ strOf [(y.toNat : Int)]) (s.extract i s.size)).run Try.prog W = .ok (.string (s.extract 0 i ++ strOf [(y.toNat : Int)] ++ s.extract i s.size)) W := add_ok _ _ (by rw [ByteArray.size_append]; omega)
        have ad3 : ∀ W : World, (Op.stringOp .add (s.extract 0 i ++ strOf [(y.toNat : Int)]) (s.extract (i + 1) s.size)).run Try.prog W = .ok (.string (s.extract 0 i ++ strOf [(y.toNat : Int)] ++ s.extract (i + 1) s.size)) W := add_ok _ _ (by rw [ByteArray.size_append]; omega)
        have ad4 : ∀ W : World, (Op.stringOp .add (s.extract 0 i) (s.extract (i + 1) s.size)).run Try.prog W = .ok (.string (s.extract 0 i ++ s.extract (i + 1) s.size)) W := add_ok _ _ (by omega)
        clear e1 e2 e3 eY
        have i0 : (0 : Int) ≤ (i : Int) := by omega
        have i1 : (i : Int) ≤ (s.size : Int) := by omega
        have i2 : (i : Int) + 1 ≤ (s.size : Int) := by omega
        have i3 : (0 : Int) ≤ (i : Int) + 1 := by omega
        have i4 : IntKind.i64.wrap ((i : Int) + 1) = (i : Int) + 1 := IntWalk.i64_in _ (by omega)
        have i5 : ((i : Int) + 1).toNat = i + 1 := by omega
        rcases (show k = 0 ∨ k = 1 ∨ k = 2 by omega) with rfl | rfl | rfl
        · go_wp2
          go_quiet (fail)
          go_wp2
          go_roundw
          case rel => exact ⟨r - 1, s.extract 0 i ++ strOf [(y.toNat : Int)] ++ s.extract i s.size, a4, by rw [Int.ofNat_sub (by omega)]; rfl, rfl, by omega, by simp only [ByteArray.size_append, strOf_size]; have e1 := size_ext s 0 i; have e2 := size_ext s i s.size; have e3 := size_ext s (i + 1) s.size; simp only [List.length_cons, List.length_nil]; omega, by omega, by omega, cur_drew HC4.out _, HD4.out, grown_draw HG4.out _⟩
          case measure => simp [intOf]; omega
        · go_wp2
          go_quiet (fail)
          go_wp2
          go_roundw
          case rel => exact ⟨r - 1, s.extract 0 i ++ strOf [(y.toNat : Int)] ++ s.extract (i + 1) s.size, a4, by rw [Int.ofNat_sub (by omega)]; rfl, rfl, by omega, by simp only [ByteArray.size_append, strOf_size]; have e1 := size_ext s 0 i; have e2 := size_ext s i s.size; have e3 := size_ext s (i + 1) s.size; simp only [List.length_cons, List.length_nil]; omega, by omega, by omega, cur_drew HC4.out _, HD4.out, grown_draw HG4.out _⟩
          case measure => simp [intOf]; omega
        · go_wp2
          go_quiet (fail)
          go_wp2
          go_roundw
          case rel => exact ⟨r - 1, s.extract 0 i ++ s.extract (i + 1) s.size, a4, by rw [Int.ofNat_sub (by omega)]; rfl, rfl, by omega, by rw [ByteArray.size_append]; have e1 := size_ext s 0 i; have e3 := size_ext s (i + 1) s.size; omega, by omega, by omega, cur_drew HC4.out _, HD4.out, grown_draw HG4.out _⟩
          case measure => simp [intOf]; omega
      · go_wp2
        go_ret
        exact ⟨_, aa, ⟨s, rfl, by omega⟩, by omega, by omega, rfl, HCr.out, HGr.out⟩
    · go_wp2
      go_ret
      exact ⟨_, aa, ⟨s, rfl, by omega⟩, by omega, by omega, rfl, HCr.out, HGr.out⟩


set_option maxRecDepth 100000 in
set_option maxHeartbeats 2000000 in
theorem word_any (w : World) (b : Nat) (o : Option Addr) (n c a B : Nat) (hC : Cur w b o n c a) (hD : CodeAt w B o n) (hB : B ≤ b) (ha : a ≤ 900000000) (hn : n ≤ 2000000) (hBw : B ≤ w.heap.size) :
    Calls Try.prog 62 #[.pointer (some ⟨b, 0, none⟩)] w (CurP (StrLe 8) 2 w b o n c a) := by
  have hold := hC.old
  have HC := Lib.hid hC
  have HD := Lib.hid hD
  clear hC hD
  go_enter Try.func62, Try.ntmps62
  go_wp2_with fail
  refine (of_any 8 _ 6 _ b o n c a B (HC.out.alloc _) (HD.out.alloc hBw _) hB ha hn (by omega) (by omega) (strs_new w [⟨#[97]⟩, ⟨#[98]⟩, ⟨#[99]⟩, ⟨#[100, 49]⟩, ⟨#[120, 46, 121]⟩, ⟨#[108, 111, 110, 103, 45, 111, 110, 101]⟩] _ 8 (by decide)) (by simp) (by omega)).mono ?_
  rintro e w2 ⟨_, a2, ⟨x, rfl, hx⟩, l3, l4, rfl, hC2, hg2⟩
  go_wp2
  go_ret
  exact ⟨_, a2, ⟨_, rfl, hx⟩, by omega, by omega, rfl, hC2, grown_then (grown_alloc (grown_self w _) _) hg2⟩

set_option maxRecDepth 100000 in
set_option maxHeartbeats 4000000 in
theorem path_any (w : World) (b : Nat) (o : Option Addr) (n c a B : Nat) (hC : Cur w b o n c a) (hD : CodeAt w B o n) (hB : B ≤ b) (ha : a ≤ 700000000) (hn : n ≤ 2000000) (hBw : B ≤ w.heap.size) :
    Calls Try.prog 75 #[.pointer (some ⟨b, 0, none⟩)] w (CurP (StrLe 102) 60 w b o n c a) := by
  have hold := hC.old
  have HC := Lib.hid hC
  have HD := Lib.hid hD
  clear hC hD
  go_enter Try.func75, Try.ntmps75
  go_wp2_with fail
  refine (of_any 2 _ 4 _ b o n c a B (HC.out.alloc _) (HD.out.alloc hBw _) hB (by omega) hn (by omega) (by omega) (strs_new w [⟨#[47]⟩, ⟨#[]⟩, ⟨#[47]⟩, ⟨#[47, 47]⟩] _ 2 (by decide)) (by simp) (by omega)).mono ?_
  rintro e w1 ⟨_, a1, ⟨x1, rfl, hx1⟩, l1, l2, rfl, hC1, hg1⟩
  have hz1 : w.heap.size + 1 ≤ w1.heap.size := by have := hg1.size; simpa using this
  have HC1 := Lib.hid hC1
  have HD1 := Lib.hid ((HD.out.alloc hBw _).step hB (by simp; omega) hg1)
  have HG1 := Lib.hid (grown_then (grown_alloc (grown_self w _) _) hg1)
  clear hC1 hg1
  go_wp2_with fail
  refine (pick_any _ _ b o n c a1 B HC1.out HD1.out hB (by omega) hn (by omega) (by omega)).mono ?_
  rintro e w2 ⟨_, a2, ⟨z, rfl, hz0, hz3⟩, l3, l4, rfl, hC2, hg2⟩
  have hz2 := hg2.size
  have HC2 := Lib.hid hC2
  have HD2 := Lib.hid (HD1.out.step hB (by omega) hg2)
  have HG2 := Lib.hid (grown_then HG1.out hg2)
  clear hC2 hg2
  go_wp2
  go_loopw [3, 4] (fun tv nv wr => ∃ (r : Nat) (s : ByteArray) (aa : Nat), nv = .int .i64 (r : Int) ∧ tv = .string s ∧ r ≤ 3 ∧ s.size + 4 * r ≤ 14 ∧ a ≤ aa ∧ aa + 4 * r ≤ a + 16 ∧ Cur wr b o n c aa ∧ CodeAt wr B o n ∧ w.grownBy wr (some b)) (fun _ nv _ => (intOf nv).toNat)
  case atStart => exact ⟨z.toNat, x1, a2, by rw [Int.toNat_of_nonneg (by omega)], rfl, by omega, by omega, by omega, by omega, HC2.out, HD2.out, HG2.out⟩
  case round =>
    obtain ⟨r, s, aa, rfl, rfl, hr, hsz, la, lb, hCr, hDr, hGr⟩ := hrel
    have hzr := hGr.size
    have HCr := Lib.hid hCr
    have HDr := Lib.hid hDr
    have HGr := Lib.hid hGr
    clear hCr hDr hGr
    by_cases hr0 : 0 < r
    · go_wp2_with fail
      refine (of_any 2 _ 6 _ b o n c aa B (HCr.out.alloc _) (HDr.out.alloc (by omega) _) hB (by omega) hn (by omega) (by omega) (strs_new wr [⟨#[97]⟩, ⟨#[98]⟩, ⟨#[99]⟩, ⟨#[46]⟩, ⟨#[46, 46]⟩, ⟨#[100, 49]⟩] _ 2 (by decide)) (by simp) (by omega)).mono ?_
      rintro e w3 ⟨_, a3, ⟨x3, rfl, hx3⟩, l5, l6, rfl, hC3, hg3⟩
      have hz3' : wr.heap.size + 1 ≤ w3.heap.size := by have := hg3.size; simpa using this
      have HC3 := Lib.hid hC3
      have HD3 := Lib.hid ((HDr.out.alloc (by omega) _).step hB (by simp; omega) hg3)
      have HG3 := Lib.hid (grown_then (grown_alloc HGr.out _) hg3)
      clear hC3 hg3
      go_wp2_with fail
      refine (of_any 2 _ 3 _ b o n c a3 B (HC3.out.alloc _) (HD3.out.alloc (by omega) _) hB (by omega) hn (by omega) (by omega) (strs_new w3 [⟨#[47]⟩, ⟨#[47]⟩, ⟨#[47, 47]⟩] _ 2 (by decide)) (by simp) (by omega)).mono ?_
      rintro e w4 ⟨_, a4, ⟨x4, rfl, hx4⟩, l7, l8, rfl, hC4, hg4⟩
      have HC4 := Lib.hid hC4
      have HD4 := Lib.hid ((HD3.out.alloc (by omega) _).step hB (by simp; omega) hg4)
      have HG4 := Lib.hid (grown_then (grown_alloc HG3.out _) hg4)
      have hq : (x3 ++ x4).size ≤ 4 := by rw [ByteArray.size_append]; omega
      clear hC4 hg4
      go_wp2
      go_roundw
      case rel => exact ⟨r - 1, s ++ (x3 ++ x4), a4, by rw [Int.ofNat_sub (by omega)]; rfl, rfl, by omega, by simp only [ByteArray.size_append]; omega, by omega, by omega, HC4.out, HD4.out, HG4.out⟩
      case measure => simp [intOf]; omega
    · go_wp2_with fail
      refine (of_any 2 _ 5 _ b o n c aa B (HCr.out.alloc _) (HDr.out.alloc (by omega) _) hB (by omega) hn (by omega) (by omega) (strs_new wr [⟨#[97]⟩, ⟨#[98]⟩, ⟨#[46]⟩, ⟨#[46, 46]⟩, ⟨#[]⟩] _ 2 (by decide)) (by simp) (by omega)).mono ?_
      rintro e w3 ⟨_, a3, ⟨x3, rfl, hx3⟩, l5, l6, rfl, hC3, hg3⟩
      have hz3' : wr.heap.size + 1 ≤ w3.heap.size := by have := hg3.size; simpa using this
      have HC3 := Lib.hid hC3
      have HD3 := Lib.hid ((HDr.out.alloc (by omega) _).step hB (by simp; omega) hg3)
      have HG3 := Lib.hid (grown_then (grown_alloc HGr.out _) hg3)
      clear hC3 hg3
      go_wp2_with fail
      refine (one_any _ _ b o n c a3 B HC3.out HD3.out hB (by omega) hn (by omega) (by omega)).mono ?_
      rintro e w4 ⟨_, a4, ⟨q, rfl⟩, l7, l8, rfl, hC4, hg4⟩
      have HC4 := Lib.hid hC4
      have HD4 := Lib.hid (HD3.out.step hB (by omega) hg4)
      have HG4 := Lib.hid (grown_then HG3.out hg4)
      have hq : (s ++ x3).size ≤ 16 := by rw [ByteArray.size_append]; omega
      clear hC4 hg4
      cases q
      · go_wp2
        go_ret
        exact ⟨_, a4, ⟨_, rfl, by omega⟩, by omega, by omega, rfl, HC4.out, HG4.out⟩
      · go_wp2_with fail
        refine (spoilt_any _ _ (by omega) (by decide) (by decide) _ b o n c a4 B HC4.out HD4.out hB (by omega) hn).mono ?_
        rintro e w5 ⟨_, a5, ⟨x5, rfl, hx5⟩, l9, l10, rfl, hC5, hg5⟩
        go_wp2
        go_ret
        exact ⟨_, a5, ⟨_, rfl, hx5⟩, by omega, by omega, rfl, hC5, grown_then HG4.out hg5⟩
end Go.Proofs.Ytpdnhaaedibbaaa
