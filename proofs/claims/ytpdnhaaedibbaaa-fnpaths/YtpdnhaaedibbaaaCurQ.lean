/-
  Contracts of the model's draws of chapter 2: some texts of bounded length, nothing old turned.
  Conditions: a readable slice of at most 2000000 bytes.
-/
import Derived.Test.YtpdnhaaedibbaaaCurP
namespace Go.Proofs.Ytpdnhaaedibbaaa
open Go.ChangeShapes Go.WideShapes Go.ChangeAt Go.RowKit Go.Joins
set_option linter.unusedVariables false

def DrawStrP (w : World) (e : Ending) (w' : World) : Prop := ∃ s : ByteArray, s.size ≤ 1000 ∧ e = .returned (.string s) ∧ Below w.heap.size w w'
def DrawTwoP (w : World) (e : Ending) (w' : World) : Prop := ∃ s t : ByteArray, s.size ≤ 1000 ∧ t.size ≤ 1000 ∧ e = .returned (.tuple #[.string s, .string t]) ∧ Below w.heap.size w w'
def DrawListP (w : World) (e : Ending) (w' : World) : Prop := ∃ (v : Value) (ps : List (List UInt8)), ps.length ≤ 30 ∧ (∀ p ∈ ps, p.length ≤ 1000) ∧ e = .returned v ∧ Lst w' w.heap.size v ps ∧ Below w.heap.size w w'

set_option maxRecDepth 100000 in
set_option maxHeartbeats 2000000 in
theorem drawGoodPath_any (w : World) (o : Option Addr) (n c : Nat) (hD : CodeAt w w.heap.size o n) (hn : n ≤ 2000000) :
    Calls Try.prog 49 #[.slice o n c] w (DrawStrP w) := by
  have HD := Lib.hid hD
  clear hD
  go_enter Try.func49, Try.ntmps49
  go_wp2_with fail
  refine (path_any _ w.heap.size o n c 0 w.heap.size (Cur.made w o n c _) (HD.out.alloc (Nat.le_refl _) _) (Nat.le_refl _) (by omega) hn (by simp)).mono ?_
  rintro e w1 ⟨_, a1, ⟨x, rfl, hx⟩, l1, l2, rfl, hC1, hg1⟩
  have HB1 := Lib.hid (below_of_grown ((Below.refl _ w).alloc (Nat.le_refl _) _) hg1 (Nat.le_refl _))
  clear hC1 hg1
  go_wp2
  go_ret
  exact ⟨_, by omega, rfl, HB1.out⟩

set_option maxHeartbeats 400000 in
theorem drawCleanPath_any (w : World) (o : Option Addr) (n c : Nat) (hD : CodeAt w w.heap.size o n) (hn : n ≤ 2000000) :
    Calls Try.prog 16 #[.slice o n c] w (DrawStrP w) := by
  go_enter Try.func16, Try.ntmps16
  go_wp2_with fail
  refine (drawGoodPath_any _ o n c hD hn).mono ?_
  rintro e w1 ⟨s, hs, rfl, hb⟩
  go_wp2
  go_ret
  exact ⟨_, hs, rfl, hb⟩
set_option maxHeartbeats 400000 in
theorem drawPartsOf_any (w : World) (o : Option Addr) (n c : Nat) (hD : CodeAt w w.heap.size o n) (hn : n ≤ 2000000) :
    Calls Try.prog 31 #[.slice o n c] w (DrawStrP w) := by
  go_enter Try.func31, Try.ntmps31
  go_wp2_with fail
  refine (drawGoodPath_any _ o n c hD hn).mono ?_
  rintro e w1 ⟨s, hs, rfl, hb⟩
  go_wp2
  go_ret
  exact ⟨_, hs, rfl, hb⟩
set_option maxHeartbeats 400000 in
theorem drawDirOf_any (w : World) (o : Option Addr) (n c : Nat) (hD : CodeAt w w.heap.size o n) (hn : n ≤ 2000000) :
    Calls Try.prog 43 #[.slice o n c] w (DrawStrP w) := by
  go_enter Try.func43, Try.ntmps43
  go_wp2_with fail
  refine (drawGoodPath_any _ o n c hD hn).mono ?_
  rintro e w1 ⟨s, hs, rfl, hb⟩
  go_wp2
  go_ret
  exact ⟨_, hs, rfl, hb⟩

set_option maxRecDepth 100000 in
set_option maxHeartbeats 2000000 in
theorem drawGoodName_any (w : World) (o : Option Addr) (n c : Nat) (hD : CodeAt w w.heap.size o n) (hn : n ≤ 2000000) :
    Calls Try.prog 33 #[.slice o n c] w (DrawStrP w) := by
  have HD := Lib.hid hD
  clear hD
  have hCm := Cur.made w o n c 55
  have hDm := HD.out.alloc (Nat.le_refl _) (.cells #[.slice o n c, .int .i64 0, .int .u64 0] 55)
  have hBm : Below w.heap.size w (w.alloc (.cells #[.slice o n c, .int .i64 0, .int .u64 0] 55)) := (Below.refl _ w).alloc (Nat.le_refl _) _
  have hsm : (w.alloc (.cells #[.slice o n c, .int .i64 0, .int .u64 0] 55)).heap.size = w.heap.size + 1 := by simp
  go_enter Try.func33, Try.ntmps33
  go_wp2_with fail
  obtain ⟨W1, hW1⟩ : ∃ W1, w.alloc (.cells #[.slice o n c, .int .i64 0, .int .u64 0] 55) = W1 := ⟨_, rfl⟩
  rw [hW1] at hCm hDm hBm hsm ⊢
  clear hW1
  have hS := strs_new W1 [⟨#[]⟩, ⟨#[46]⟩, ⟨#[46, 46]⟩, ⟨#[46, 46, 46]⟩, ⟨#[97]⟩, ⟨#[97, 47, 98]⟩, ⟨#[65]⟩, ⟨#[49, 50, 51, 52, 53, 54, 55, 56]⟩, ⟨#[49, 50, 51, 52, 53, 54, 55, 56, 57]⟩, ⟨#[95, 45, 46]⟩] 9 9 (by decide)
  rw [hsm] at hS
  refine (of_any 9 (w.heap.size + 1) 10 _ w.heap.size o n c 0 w.heap.size (hCm.alloc _) (hDm.alloc (by omega) _) (Nat.le_refl _) (by omega) hn (by omega) (by omega) hS (by simp; omega) (by omega)).mono ?_
  rintro e w1 ⟨_, a1, ⟨x, rfl, hx⟩, l1, l2, rfl, hC1, hg1⟩
  have HB1 := Lib.hid (below_of_grown (hBm.alloc (by omega) _) hg1 (Nat.le_refl _))
  clear hC1 hg1
  go_wp2
  go_ret
  exact ⟨_, by omega, rfl, HB1.out⟩

set_option maxRecDepth 100000 in
set_option maxHeartbeats 2000000 in
theorem drawJoinPath_any (w : World) (o : Option Addr) (n c : Nat) (hD : CodeAt w w.heap.size o n) (hn : n ≤ 2000000) :
    Calls Try.prog 41 #[.slice o n c] w (DrawTwoP w) := by
  have HD := Lib.hid hD
  clear hD
  go_enter Try.func41, Try.ntmps41
  go_wp2_with fail
  refine (path_any _ w.heap.size o n c 0 w.heap.size (Cur.made w o n c _) (HD.out.alloc (Nat.le_refl _) _) (Nat.le_refl _) (by omega) hn (by simp)).mono ?_
  rintro e w1 ⟨_, a1, ⟨x, rfl, hx⟩, l1, l2, rfl, hC1, hg1⟩
  have HC1 := Lib.hid hC1
  have HD1 := Lib.hid ((HD.out.alloc (Nat.le_refl _) _).step (Nat.le_refl _) (by simp) hg1)
  have hz1 : w.heap.size + 1 ≤ w1.heap.size := by have := hg1.size; simpa using this
  have HB1 := Lib.hid (below_of_grown ((Below.refl _ w).alloc (Nat.le_refl _) _) hg1 (Nat.le_refl _))
  clear hC1 hg1
  go_wp2_with fail
  refine (path_any _ w.heap.size o n c a1 w.heap.size HC1.out HD1.out (Nat.le_refl _) (by omega) hn (by omega)).mono ?_
  rintro e w2 ⟨_, a2, ⟨y, rfl, hy⟩, l3, l4, rfl, hC2, hg2⟩
  have HB2 := Lib.hid (below_of_grown HB1.out hg2 (Nat.le_refl _))
  clear hC2 hg2
  go_wp2
  go_ret2
  exact ⟨_, _, by omega, by omega, rfl, HB2.out⟩

set_option maxRecDepth 100000 in
set_option maxHeartbeats 2000000 in
theorem drawIsWithin_any (w : World) (o : Option Addr) (n c : Nat) (hD : CodeAt w w.heap.size o n) (hn : n ≤ 2000000) :
    Calls Try.prog 68 #[.slice o n c] w (DrawTwoP w) := by
  have HD := Lib.hid hD
  have h47 : (ByteArray.mk #[47]).size = 1 := rfl
  have H47 := Lib.hid h47
  clear hD h47
  go_enter Try.func68, Try.ntmps68
  go_wp2_with fail
  refine (path_any _ w.heap.size o n c 0 w.heap.size (Cur.made w o n c _) (HD.out.alloc (Nat.le_refl _) _) (Nat.le_refl _) (by omega) hn (by simp)).mono ?_
  rintro e w1 ⟨_, a1, ⟨x, rfl, hx⟩, l1, l2, rfl, hC1, hg1⟩
  have HC1 := Lib.hid hC1
  have HD1 := Lib.hid ((HD.out.alloc (Nat.le_refl _) _).step (Nat.le_refl _) (by simp) hg1)
  have hz1 : w.heap.size + 1 ≤ w1.heap.size := by have := hg1.size; simpa using this
  have HB1 := Lib.hid (below_of_grown ((Below.refl _ w).alloc (Nat.le_refl _) _) hg1 (Nat.le_refl _))
  clear hC1 hg1
  go_wp2_with fail
  refine (one_any _ _ w.heap.size o n c a1 w.heap.size HC1.out HD1.out (Nat.le_refl _) (by omega) hn (by omega) (by omega)).mono ?_
  rintro e w2 ⟨_, a2, ⟨q, rfl⟩, l3, l4, rfl, hC2, hg2⟩
  have hz2 := hg2.size
  have HC2 := Lib.hid hC2
  have HD2 := Lib.hid (HD1.out.step (Nat.le_refl _) (by omega) hg2)
  have HB2 := Lib.hid (below_of_grown HB1.out hg2 (Nat.le_refl _))
  clear hC2 hg2
  have hq1 : (ByteArray.mk #[47] ++ x).size ≤ 103 := by rw [ByteArray.size_append, H47.out]; omega
  have hq2 : (ByteArray.mk #[47] ++ x ++ ByteArray.mk #[47]).size ≤ 104 := by rw [ByteArray.size_append, H47.out]; omega
  cases q
  · go_wp2_with fail
    refine (path_any _ w.heap.size o n c a2 w.heap.size HC2.out HD2.out (Nat.le_refl _) (by omega) hn (by omega)).mono ?_
    rintro e w3 ⟨_, a3, ⟨y, rfl, hy⟩, l5, l6, rfl, hC3, hg3⟩
    have HB3 := Lib.hid (below_of_grown HB2.out hg3 (Nat.le_refl _))
    clear hC3 hg3
    go_wp2
    go_ret2
    exact ⟨_, _, by omega, by rw [ByteArray.size_append, H47.out]; omega, rfl, HB3.out⟩
  · go_wp2_with fail
    refine (path_any _ w.heap.size o n c a2 w.heap.size HC2.out HD2.out (Nat.le_refl _) (by omega) hn (by omega)).mono ?_
    rintro e w3 ⟨_, a3, ⟨y, rfl, hy⟩, l5, l6, rfl, hC3, hg3⟩
    have HB3 := Lib.hid (below_of_grown HB2.out hg3 (Nat.le_refl _))
    clear hC3 hg3
    go_wp2
    go_ret2
    exact ⟨_, _, by omega, by rw [ByteArray.size_append]; omega, rfl, HB3.out⟩

set_option maxHeartbeats 400000 in
theorem drawFromTo_any (w : World) (o : Option Addr) (n c : Nat) (hD : CodeAt w w.heap.size o n) (hn : n ≤ 2000000) :
    Calls Try.prog 36 #[.slice o n c] w (DrawTwoP w) := by
  go_enter Try.func36, Try.ntmps36
  go_wp2_with fail
  refine (drawIsWithin_any _ o n c hD hn).mono ?_
  rintro e w1 ⟨s, t, hs, ht, rfl, hb⟩
  go_wp2
  go_ret2
  exact ⟨_, _, hs, ht, rfl, hb⟩

/-- A list of the call's own, behind a step on the cursor. -/
theorem lst_step {w w' : World} {R b : Nat} {v : Value} {ps : List (List UInt8)} (h : Lst w R v ps) (hg : w.grownBy w' (some b)) (hb : b < R) : Lst w' R v ps := by
  refine World.ownsRow.kept h hg ?_
  rcases h.2 with ⟨rfl, _⟩ | ⟨g, cap, cur, rfl, hgb, _⟩
  · exact .inl rfl
  · refine .inr ?_; simp [Value.ownBlock]; omega
theorem cur_app {w w1 : World} {b R : Nat} {o : Option Addr} {n c a : Nat} {v : Value} {k : Nat} {xs : List Value} {tmp : Obj} (h : Cur w b o n c a) (hr : w.ownsRow R 9 1 v k xs) (hb : b < R) (hg : (w.alloc tmp).grownBy w1 v.ownBlock) : Cur w1 b o n c a := by
  have hbl : w1.heap[b]? = w.heap[b]? := by
    rw [hg.block b (by have := h.old; simp; omega) ?_, Below.heap_alloc w tmp b h.old]
    rcases hr.2 with ⟨rfl, _⟩ | ⟨g, cap, cur, rfl, hgb, _⟩
    · simp [Value.ownBlock]
    · simp [Value.ownBlock]; omega
  have hc : ∀ k, w1.cell? ⟨b, k, none⟩ = w.cell? ⟨b, k, none⟩ := fun k => World.cell?_of_block (a := ⟨b, k, none⟩) hbl
  have hf : ∀ k, w1.frozen? ⟨b, k, none⟩ = w.frozen? ⟨b, k, none⟩ := fun k => World.frozen?_of_block (a := ⟨b, k, none⟩) hbl
  obtain ⟨s, hs⟩ := h.seed
  exact ⟨(hc 0).trans h.code, (hc 1).trans h.here, ⟨s, (hc 2).trans hs⟩, (hf 1).trans h.free1, (hf 2).trans h.free2, by have := h.old; have := hg.size; simp at this; omega⟩
theorem bs_toL (x : ByteArray) : x = bs x.data.toList := (bs_of x).symm
theorem mem_snoc_len {ps : List (List UInt8)} {x : ByteArray} (h : ∀ p ∈ ps, p.length ≤ 1000) (hx : x.size ≤ 1000) : ∀ p ∈ ps ++ [x.data.toList], p.length ≤ 1000 := by
  intro p hp
  rcases List.mem_append.1 hp with h1 | h1
  · exact h p h1
  · simp at h1; subst h1; rw [len_size]; exact hx

end Go.Proofs.Ytpdnhaaedibbaaa
