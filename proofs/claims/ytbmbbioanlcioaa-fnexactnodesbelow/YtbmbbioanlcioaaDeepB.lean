
/-
  The program's walkPre with DeepOf's closure, and DeepOf.
  Conditions: at most 2^20 values and letters together.
-/
import Derived.Test.YtbmbbioanlcioaaDeepA
import Derived.Test.YtbmbbioanlcioaaAppK
import Derived.Test.YtbmbbioanlcioaaListC
import Derived.Deep.RegionHeld3
namespace Go.Proofs.Ytbmbbioanlcioaa
open Go.ChangeShapes Go.WideShapes Go.ChangeAt Go.RowKit Go.Joins
set_option linter.unusedVariables false
set_option linter.unusedSimpArgs false

/-- Of what was there only block d, and one row, may have turned. -/
structure Eff (w w' : World) (d : Nat) (row : Option Nat) : Prop where
  os : w'.os = w.os
  tape : w'.tape = w.tape
  output : w'.output = w.output
  size : w.heap.size ≤ w'.heap.size
  block : ∀ k, k < w.heap.size → k ≠ d → some k ≠ row → w'.heap[k]? = w.heap[k]?
theorem Eff.refl (w : World) (d : Nat) (row : Option Nat) : Eff w w d row := ⟨rfl, rfl, rfl, Nat.le_refl _, fun _ _ _ _ => rfl⟩
theorem Eff.trans {a b c : World} {d : Nat} {row : Option Nat} (h : Eff a b d row) (k : Eff b c d row) : Eff a c d row :=
  ⟨k.os.trans h.os, k.tape.trans h.tape, k.output.trans h.output, Nat.le_trans h.size k.size, fun i hi h1 h2 => (k.block i (Nat.lt_of_lt_of_le hi h.size) h1 h2).trans (h.block i hi h1 h2)⟩
/-- Behind what has a row of its own made anew. -/
theorem Eff.fresh {a b c : World} {d : Nat} {row row2 : Option Nat} (h : Eff a b d row) (k : Eff b c d row2) (hr : ∀ g, row2 = some g → row = some g ∨ a.heap.size ≤ g) : Eff a c d row :=
  ⟨k.os.trans h.os, k.tape.trans h.tape, k.output.trans h.output, Nat.le_trans h.size k.size, fun i hi h1 h2 => (k.block i (Nat.lt_of_lt_of_le hi h.size) h1 (fun e => by
    rcases hr i e.symm with h3 | h3
    · exact h2 h3.symm
    · omega)).trans (h.block i hi h1 h2)⟩
theorem Eff.of_below {a b : World} (d : Nat) (row : Option Nat) (h : Below a.heap.size a b) : Eff a b d row := ⟨h.os, h.tape, h.output, h.size, fun i hi _ _ => h.block i hi⟩
theorem Eff.of_grown {a b : World} (d : Nat) {row : Option Nat} (h : a.grownBy b row) : Eff a b d row := ⟨h.os, h.tape, h.output, h.size, fun i hi _ h2 => h.block i hi h2⟩
theorem Eff.below {a b : World} {d B : Nat} {row : Option Nat} (h : Eff a b d row) (hd : B ≤ d) (hr : ∀ g, row = some g → B ≤ g) (hB : B ≤ a.heap.size) : Below B a b :=
  ⟨h.os, h.tape, h.output, h.size, fun i hi => h.block i (Nat.lt_of_lt_of_le hi hB) (by omega) (fun e => by have := hr i e.symm; omega)⟩
theorem own_cut {w : World} {B g n cap : Nat} {e : TypeId} {xs : List Value} {x : Value} (h : w.ownsRow B e 1 (.slice (some ⟨g, 0, none⟩) (n + 1) cap) (n + 1) (xs ++ [x])) : w.ownsRow B e 1 (.slice (some ⟨g, 0, none⟩) n cap) n xs := by
  obtain ⟨hl, hd⟩ := h
  rcases hd with ⟨e1, h0⟩ | ⟨g1, cap1, cur, e1, hB, hg, hn, hm, hs, ht⟩
  · cases e1
  · simp only [Value.slice.injEq, Option.some.injEq, Addr.mk.injEq, and_true, true_and] at e1
    obtain ⟨rfl, rfl⟩ := e1
    have hxl : xs.length = n := by simp at hl; omega
    refine ⟨by omega, .inr ⟨g, cap, cur, rfl, hB, hg, by omega, hm, hs, ?_⟩⟩
    have h2 : cur.toList.take (n * 1) = (cur.toList.take ((n + 1) * 1)).take n := by rw [List.take_take]; congr 1; omega
    rw [h2, ht, ← hxl]
    simp
theorem own_eff {w w' : World} {B d n : Nat} {row : Option Nat} {e : TypeId} {v : Value} {xs : List Value} (h : w.ownsRow B e 1 v n xs) (k : Eff w w' d row) (hd : v.ownBlock ≠ some d) (hr : v.ownBlock = none ∨ v.ownBlock ≠ row) : w'.ownsRow B e 1 v n xs := by
  obtain ⟨hl, hh⟩ := h
  rcases hh with h0 | ⟨g, cap, cur, rfl, hB, hg, r⟩
  · exact ⟨hl, .inl h0⟩
  · refine ⟨hl, .inr ⟨g, cap, cur, rfl, hB, (k.block g (Array.getElem?_eq_some_iff.1 hg).1 (fun e => hd (by rw [e]; rfl)) (fun e => ?_)).trans hg, r⟩⟩
    rcases hr with h1 | h1
    · simp [Value.ownBlock] at h1
    · exact h1 e
/-- Rows of texts are no boxes of numbers. -/
theorem row_ne_box {w : World} {B d n : Nat} {v : Value} {xs : List Value} {z : Value} (h : w.ownsRow B 9 1 v n xs) (hb : w.heap[d]? = some (.cells #[z] 3)) : v.ownBlock ≠ some d := by
  rcases h.2 with ⟨rfl, _⟩ | ⟨g, cap, cur, rfl, hB, hg, _⟩
  · simp [Value.ownBlock]
  · intro e
    simp [Value.ownBlock] at e
    subst e
    rw [hg] at hb
    simp at hb

theorem box_set {w : World} {N : Nat} {x : Value} {T : TypeId} (h : w.heap[N]? = some (.cells #[x] T (0, 0))) (a : Value) : (w.setCell ⟨N, 0, none⟩ a).heap[N]? = some (.cells #[a] T (0, 0)) :=
  heap_setCell_same w N 0 _ T a h
theorem eff_set {w w' : World} {d : Nat} {row : Option Nat} (h : Eff w w' d row) (a : Value) : Eff w (w'.setCell ⟨d, 0, none⟩ a) d row :=
  ⟨h.os, h.tape, h.output, by simpa using h.size, fun i hi h1 h2 => (Below.heap_setCell w' ⟨d, 0, none⟩ a i h1).trans (h.block i hi h1 h2)⟩
theorem int_box {a b : Nat} {T : TypeId} (h : a = b) : some (Obj.cells #[Value.int .i64 (a : Int)] T) = some (Obj.cells #[Value.int .i64 (b : Int)] T) := by rw [h]
theorem same_cases {v v' : Value} {n m S : Nat} (h : (∃ g cap, v = .slice (some ⟨g, 0, none⟩) n cap ∧ v' = .slice (some ⟨g, 0, none⟩) (n + m) cap) ∨ v'.ownBlock = some S) : v'.ownBlock = v.ownBlock ∨ v'.ownBlock = some S := by
  rcases h with ⟨g, cap, rfl, rfl⟩ | h
  · exact .inl rfl
  · exact .inr h
set_option maxHeartbeats 1000000 in
theorem deep_visit (bd i L : Nat) (D : Nat) (o : Option Addr) (c : Nat) (w : World) (h : w.heap[bd]? = some (.cells #[.int .i64 (D : Int)] 3)) (hL : L ≤ 1000000) (hD : D ≤ 1000000) : Calls Try.prog 41 #[.int .i64 (i : Int), .slice o L c, .pointer (some ⟨bd, 0, none⟩)] w fun e w' => e = .returned (.tuple #[]) ∧ w' = w.setCell ⟨bd, 0, none⟩ (.int .i64 ((max D L : Nat) : Int)) := by
  have k0 : w.cell? ⟨bd, 0, none⟩ = some (.int .i64 (D : Int)) := cell_blk h 0
  have kf := frozen_blk h
  by_cases hDL : D < L
  · have hm : max D L = L := by omega
    rw [hm]
    clear hm
    go_enter Try.func41, Try.ntmps41
    go_wp2
    go_end0
    first | exact ⟨rfl, rfl⟩ | trivial
  · have hm : max D L = D := by omega
    rw [hm]
    clear hm
    go_enter Try.func41, Try.ntmps41
    go_wp2
    go_end0
    first | exact ⟨rfl, rfl⟩ | trivial

def WalkSays (f : FsD) (nv : Value) (w0 : World) (k : Nat) : Prop := ∀ (i D L : Nat) (nm : Value) (xs : List Value) (B bd : Nat) (w : World), w0.heap.size ≤ B → Below w0.heap.size w0 w → i < f.nodes.length → Down f.nodes k i → k + L ≤ 100000 → D ≤ 100000 → B ≤ bd →
  w.heap[bd]? = some (.cells #[.int .i64 (D : Int)] 3) → w.ownsRow B 9 1 nm L xs →
  Calls Try.prog 30 #[nv, .int .i64 (i : Int), .func (.func 41) #[] #[.pointer (some ⟨bd, 0, none⟩)], nm] w fun e w' => e = .returned (.tuple #[]) ∧ Eff w w' bd nm.ownBlock ∧ w'.heap[bd]? = some (.cells #[.int .i64 ((max D (L + dpF f.nodes k i) : Nat) : Int)] 3) ∧ w'.ownsRow B 9 1 nm L xs
set_option maxRecDepth 100000 in
set_option maxHeartbeats 8000000 in
theorem walkDeep_step (f : FsD) (hs : szF f ≤ 1048576) (nv : Value) (w0 : World) (hN : NodsA w0 nv f.nodes) (k : Nat) (ih : ∀ k2, k2 < k → WalkSays f nv w0 k2) : WalkSays f nv w0 k := by
  intro i D L nm xs B bd w hwB hbw hi hD hkL hDl hBd hbd hown
  have IH := Lib.hid ih
  obtain ⟨i0, hi0, hz0, hz1, hz2⟩ := info_parts strInfo
  obtain ⟨oo, cc, rfl, hoo⟩ := owns_form hown
  have HOO := Lib.hid hoo
  obtain ⟨o, c, rfl, hm, hH⟩ := hN
  unfold maxLen at hm
  have hl : f.nodes.length ≤ 1048576 := (lists_small hs).1
  have hll : (lsAt f.nodes i).length ≤ 1048576 := by rw [lsAt_is hi]; exact ((lists_small hs).2 _ (List.getElem_mem hi)).1
  obtain ⟨g3, f3, lv3, rfl, hg3, hc3, he3, -⟩ := hH i hi
  rw [← lsAt_is hi] at he3
  obtain ⟨o5, c5, rfl, -, hH5⟩ := he3
  have HH5 := Lib.hid hH5
  obtain ⟨es, hes⟩ : ∃ es, es = lsAt f.nodes i := ⟨_, rfl⟩
  have hval : ∃ k2, k ≤ k2 + 1 ∧ k2 ≤ k ∧ dpF f.nodes k i = dpS f.nodes k2 es ∧ ∀ e ∈ es, k = k2 + 1 ∧ (0 ≤ e.node ∧ e.node < f.nodes.length) ∧ Down f.nodes k2 e.node.toNat := by
    rw [hes]
    cases k with
    | zero => exact ⟨0, by omega, by omega, by show 0 = dpS _ _ _; rw [show lsAt f.nodes i = [] from hD]; rfl, fun e he => by rw [show lsAt f.nodes i = [] from hD] at he; cases he⟩
    | succ k => exact ⟨k, by omega, by omega, rfl, fun e he => ⟨rfl, hD e he⟩⟩
  obtain ⟨k2, hk2, hk3, hv2, hk4⟩ := hval
  rw [← hes] at HH5 hll
  have hc6 := hc3.c6
  rw [← hes] at hc6
  have HV := Lib.hid hv2
  have HK4 := Lib.hid hk4
  have HBD := Lib.hid hbd
  have HOWN := Lib.hid hown
  have HBW := Lib.hid hbw
  have hbl := lt_of_heap hbd
  have hBs : B ≤ w.heap.size := by omega
  have hB1 : Below B w (w.setCell ⟨bd, 0, none⟩ (.int .i64 ((max D L : Nat) : Int))) := (Below.refl _ _).setCell (p := ⟨bd, 0, none⟩) hBd _
  have c6 := ((hbw.trans (hB1.mono hwB)).cell (p := ⟨g3, f3 + i * 7 + 6, none⟩) hg3).trans hc6
  have HC6 := Lib.hid hc6
  have HBX := Lib.hid (box_set hbd (.int .i64 ((max D L : Nat) : Int)))
  have HEX := Lib.hid (eff_set (Eff.refl w bd (Value.slice oo L cc).ownBlock) (.int .i64 ((max D L : Nat) : Int)))
  have HNE : Hid ((Value.slice oo L cc).ownBlock ≠ some bd) := Lib.hid (row_ne_box hown hbd)
  have HOX : Hid ((w.setCell ⟨bd, 0, none⟩ (.int .i64 ((max D L : Nat) : Int))).ownsRow B 9 1 (.slice oo L cc) L xs) := Lib.hid (World.ownsRow.kept hown (row := some bd) ⟨rfl, rfl, rfl, by simp, fun j _ hj => Below.heap_setCell w ⟨bd, 0, none⟩ _ j (fun e => hj (by simp [e]))⟩ (.inr HNE.out))
  clear hH hD hv2 hk4 hc3 hH5 hes ih hbd hown hbw hoo hB1 hc6
  go_enter Try.func30, Try.ntmps30
  go_wp2_with fail
  refine (deep_visit bd i L D oo cc _ HBD.out (by omega) (by omega)).mono ?_
  rintro e w1 ⟨rfl, rfl⟩
  obtain ⟨W1, hW1⟩ : ∃ W1, w.setCell ⟨bd, 0, none⟩ (.int .i64 ((max D L : Nat) : Int)) = W1 := ⟨_, rfl⟩
  rw [hW1] at c6 HBX HEX HOX ⊢
  have HOOB : Hid (∀ g, (Value.slice oo L cc).ownBlock = some g → B ≤ g) := Lib.hid (fun g hg => (World.ownsRow.lt HOWN.out g hg).1)
  clear hW1
  go_wp2
  go_loopw [20] (fun i9 wr => ∃ j : Nat, j ≤ es.length ∧ i9 = .int .i64 j ∧ Eff w wr bd (Value.slice oo L cc).ownBlock ∧ wr.heap[bd]? = some (.cells #[.int .i64 ((max (max D L) (L + dpS f.nodes k2 (es.take j)) : Nat) : Int)] 3) ∧ wr.ownsRow B 9 1 (.slice oo L cc) L xs) (fun i9 _ => es.length - (intOf i9).toNat)
  case atStart => exact ⟨0, Nat.zero_le _, rfl, HEX.out, by rw [HBX.out]; show some (Obj.cells #[Value.int IntKind.i64 ((max D L : Nat) : Int)] _) = some (Obj.cells #[Value.int IntKind.i64 ((max (max D L) (L + 0) : Nat) : Int)] _); rw [show max (max D L) (L + 0) = max D L by omega], HOX.out⟩
  case round =>
    obtain ⟨j, hj, rfl, hE, hX, hO⟩ := hrel
    have HE := Lib.hid hE
    have HX := Lib.hid hX
    have HO := Lib.hid hO
    have hsz := hE.size
    have hBw := hE.below hBd HOOB.out hBs
    by_cases hlt : j < es.length
    · obtain ⟨g9, f9, rfl, q9, y1, y2, -⟩ := HH5.out j hlt
      obtain ⟨he1, ⟨he2, he3⟩, he4⟩ := HK4.out _ (List.getElem_mem hlt)
      obtain ⟨c9, hcc⟩ : ∃ c9 : Nat, es[j].node = c9 := ⟨es[j].node.toNat, by omega⟩
      have HT := Lib.hid (dpS_take (ns := f.nodes) (k := k2) hlt)
      rw [hcc] at y2 he4 he3 HT
      rw [show ((c9 : Int)).toNat = c9 by simp] at he4 HT
      have hbwr := HBW.out.trans (hBw.mono hwB)
      have a1 := (hbwr.cell (p := ⟨g9, f9 + j * 2, none⟩) q9).trans y1
      have a2 := (hbwr.cell (p := ⟨g9, f9 + j * 2 + 1, none⟩) q9).trans y2
      obtain ⟨x, hx⟩ : ∃ x, x = bs es[j].name := ⟨_, rfl⟩
      rw [← hx] at a1
      have HD4 := Lib.hid he4
      have hd1 := dpS_le (ns := f.nodes) (k := k2) (es.take j)
      have HLw : Hid (w.heap.size ≤ wr.heap.size) := Lib.hid hsz
      have hbdw : bd < wr.heap.size := by omega
      have hal : Below wr.heap.size wr (wr.alloc (.cells #[.string x, .int .i64 (c9 : Int)] 67)) := (Below.refl _ _).alloc (Nat.le_refl _) _
      obtain ⟨W2, hW2⟩ : ∃ W2, wr.alloc (.cells #[.string x, .int .i64 (c9 : Int)] 67) = W2 := ⟨_, rfl⟩
      have hEN : W2.heap[wr.heap.size]? = some (.cells #[.string x, .int .i64 (c9 : Int)] 67) := by rw [← hW2]; exact heap_alloc_new wr _
      rw [hW2] at hal
      have hs2 := lt_of_heap hEN
      have h23 : Below W2.heap.size W2 (W2.alloc (.cells #[.string x] 9)).drew := ((Below.refl _ W2).alloc (Nat.le_refl _) _).drew
      have HEF3 : Hid (Eff w (W2.alloc (.cells #[.string x] 9)).drew bd (Value.slice oo L cc).ownBlock) := Lib.hid ((HE.out.trans (Eff.of_below _ _ hal)).trans (Eff.of_below _ _ h23))
      have HXB : Hid (((W2.alloc (.cells #[.string x] 9)).drew).heap[bd]? = _) := Lib.hid ((h23.block bd (by omega)).trans ((hal.block bd hbdw).trans HX.out))
      have HEB : Hid (((W2.alloc (.cells #[.string x] 9)).drew).heap[wr.heap.size]? = some (.cells #[.string x, .int .i64 (c9 : Int)] 67)) := Lib.hid ((h23.block _ hs2).trans hEN)
      have HOW2 : W2.ownsRow B 9 1 (.slice oo L cc) L xs := by rw [← hW2]; exact World.ownsRow.alloc HO.out _
      have HOX3 : Hid (((W2.alloc (.cells #[.string x] 9)).drew).ownsRow B 9 1 (.slice oo L cc) L xs) := Lib.hid (World.ownsRow.alloc HOW2 (.cells #[.string x] 9))
      have HNW : Hid (∀ j u, [Value.string x][j]? = some u → ((W2.alloc (.cells #[.string x] 9)).drew).cell? ((⟨W2.heap.size, 0, none⟩ : Addr).add j) = some u) := Lib.hid (cell_one_new W2 (.string x) 9)
      have HBX3 : Hid (B ≤ ((W2.alloc (.cells #[.string x] 9)).drew).heap.size) := Lib.hid (Nat.le_trans (by omega) h23.size)
      have HL3 : Hid (bd < ((W2.alloc (.cells #[.string x] 9)).drew).heap.size) := Lib.hid (lt_of_heap HXB.out)
      have HL4 : Hid (wr.heap.size < ((W2.alloc (.cells #[.string x] 9)).drew).heap.size) := Lib.hid (lt_of_heap HEB.out)
      have HRW : Hid (some wr.heap.size ≠ (Value.slice oo L cc).ownBlock) := Lib.hid (fun e => by
        have h9 := (World.ownsRow.lt HOWN.out wr.heap.size e.symm).2
        omega)
      have e20 : W2.cell? ⟨wr.heap.size, 0, none⟩ = some (.string x) := cell_blk hEN 0
      have e21 : W2.cell? ⟨wr.heap.size, 1, none⟩ = some (.int .i64 (c9 : Int)) := cell_blk hEN 1
      have d20 : W2.drew.cell? ⟨wr.heap.size, 0, none⟩ = some (.string x) := e20
      have d21 : W2.drew.cell? ⟨wr.heap.size, 1, none⟩ = some (.int .i64 (c9 : Int)) := e21
      have d30 : ((W2.alloc (.cells #[.string x] 9)).drew).cell? ⟨wr.heap.size, 0, none⟩ = some (.string x) := cell_blk HEB.out 0
      have d31 : ((W2.alloc (.cells #[.string x] 9)).drew).cell? ⟨wr.heap.size, 1, none⟩ = some (.int .i64 (c9 : Int)) := cell_blk HEB.out 1
      have HW2 := Lib.hid hW2
      clear hE hX hO y1 y2 hx hcc he4 hbwr hBw hal hEN h23 HOW2 hW2
      go_wp2
      rw [HW2.out]
      go_region_held3 (fun w' => w'.cell? ⟨wr.heap.size, 0, none⟩ = some (.string x) ∧ w'.cell? ⟨wr.heap.size, 1, none⟩ = some (.int .i64 (c9 : Int))) (first | (with_reducible exact ⟨d20, d21⟩) | (with_reducible exact ⟨d30, d31⟩) | (with_reducible exact ⟨e60, e61⟩) | (with_reducible exact ⟨e70, e71⟩))
        (first
          | (refine step_append_keep _ rfl (.tmp 28) (.tmp 31) 26 rfl B 9 i0 (.string ⟨#[]⟩) 1 16 Try.underlying26 hi0 hz0 hz1 hz2 rfl (by decide) (.slice oo L cc) L xs (by simp [Act.eval, Act.put]) HOX3.out ⟨W2.heap.size, 0, none⟩ 1 1 [.string x] (by decide) (by simp [Act.eval, Act.put]) rfl HNW.out (by simp [Value.oneCell']) (by unfold maxLen; omega) (by omega) HBX3.out ?_; intro v6 w6 hown6 hgrow6 hkeep6 hsame6; have HO6 := Lib.hid hown6; have HK6 := Lib.hid hkeep6; have HS6 := Lib.hid (same_cases hsame6); have HQ6 := Lib.hid hsame6; obtain ⟨oo6, cc6, rfl, -⟩ := owns_form hown6; have HE6 := Lib.hid (HEF3.out.trans (Eff.of_grown bd hgrow6)); have HX6 := Lib.hid ((hgrow6.block _ HL3.out (fun e => HNE.out e.symm)).trans HXB.out); have HE61 := Lib.hid ((hgrow6.block _ HL4.out HRW.out).trans HEB.out); have HG6 := Lib.hid hgrow6.size; have e60 : w6.cell? ⟨wr.heap.size, 0, none⟩ = some (.string x) := cell_blk HE61.out 0; have e61 : w6.cell? ⟨wr.heap.size, 1, none⟩ = some (.int .i64 (c9 : Int)) := cell_blk HE61.out 1; have HBW6 : Hid (Below w0.heap.size w0 w6) := Lib.hid (HBW.out.trans ((HE6.out.below hBd HOOB.out hBs).mono hwB)); have HN7 : Hid (some wr.heap.size ≠ (Value.slice oo6 (L + 1) cc6).ownBlock) := Lib.hid (fun e => by rcases HS6.out with h8 | h8 <;> rw [h8] at e <;> first | exact HRW.out e | (have h9 := HL4.out; simp only [Option.some.injEq] at e; omega)); clear hown6 hgrow6 hkeep6 hsame6)
          | (go_at_call 30; refine (IH.out k2 (by omega) c9 (max (max D L) (L + dpS f.nodes k2 (es.take j))) (L + 1) (.slice oo6 (L + 1) cc6) (xs ++ [.string x]) B bd w6 hwB HBW6.out (by omega) HD4.out (by omega) (by omega) hBd HX6.out HO6.out).mono ?_; rintro e w7 ⟨rfl, hE7, hX7, hO7⟩; have HE7 := Lib.hid hE7; have HX7 := Lib.hid hX7; have HO7 := Lib.hid hO7; have h71 := (hE7.block _ (lt_of_heap HE61.out) (by omega) HN7.out).trans HE61.out; have e70 : w7.cell? ⟨wr.heap.size, 0, none⟩ = some (.string x) := cell_blk h71 0; have e71 : w7.cell? ⟨wr.heap.size, 1, none⟩ = some (.int .i64 (c9 : Int)) := cell_blk h71 1; clear hE7 hX7 hO7 h71))
      all_goals
        go_wp2
        go_roundw
        case rel =>
          refine ⟨j + 1, hlt, by go_num, HE6.out.fresh HE7.out (fun g hg => ?_), ?_, ?_⟩
          · rcases HS6.out with h8 | h8
            · exact .inl (h8.symm.trans hg)
            · rw [h8] at hg
              have h9 := HL4.out
              have h10 := HLw.out
              simp only [Option.some.injEq] at hg
              exact .inr (by omega)
          · rw [HX7.out, HT.out]
            exact int_box (by omega)
          · rcases HQ6.out with ⟨g8, cap8, e8, e9⟩ | h8
            · simp only [Value.slice.injEq, true_and] at e8 e9
              obtain ⟨rfl, rfl⟩ := e8
              obtain ⟨rfl, rfl⟩ := e9
              exact own_cut HO7.out
            · refine own_eff HK6.out HE7.out HNE.out ?_
              rw [h8]
              refine .inr (fun e => ?_)
              have h9 := (World.ownsRow.lt HOWN.out _ e).2
              have h10 := HL4.out
              have h11 := HLw.out
              omega
        case measure => simp [intOf]; omega
    · have HT : Hid (es.take j = es) := Lib.hid (List.take_of_length_le (by omega))
      rw [HT.out] at hX
      have HX := Lib.hid hX
      have HE := Lib.hid hE
      have HO := Lib.hid hO
      clear hX hE hO
      go_wp2
      go_end0
      exact ⟨rfl, HE.out, by rw [HX.out, HV.out]; exact int_box (by omega), HO.out⟩
theorem walkDeep_any (f : FsD) (hs : szF f ≤ 1048576) (nv : Value) (w0 : World) (hN : NodsA w0 nv f.nodes) (k : Nat) : WalkSays f nv w0 k := by
  induction k using Nat.strongRecOn with
  | ind k ih => exact walkDeep_step f hs nv w0 hN k ih
end Go.Proofs.Ytbmbbioanlcioaa
