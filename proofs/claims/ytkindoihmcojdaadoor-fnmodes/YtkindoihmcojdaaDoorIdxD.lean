/-
  The contract of strings.IndexAny of any text among the three signs: the place of the first of them, or -1.
  Conditions: the text has fewer than 4294967281 bytes.
-/
import Derived.Test.YtkindoihmcojdaaDoorIdxC
import Derived.Lib.OthersKept
import Derived.Lib.RuneCount
namespace Go.Proofs.YtkindoihmcojdaaDoor
open Go.ChangeShapes Go.WideShapes Go.ChangeAt Go.RowKit Go.Joins
set_option linter.unusedVariables false

def sgnL : List UInt8 := [43, 45, 61]
theorem sgn3_list : sgn3.data.toList = sgnL := rfl

theorem iterPos_at {w : World} {k : Nat} {s : ByteArray} {p : Nat} (h : w.heap[k]? = some (.stringIter s p)) : w.iterPos k = p := by simp [World.iterPos, h]

theorem high_out (b : UInt8) (h : 128 ≤ b.toNat) : sgnL.contains b = false := by
  have h1 : ¬ b = 43 := fun e => by subst e; simp at h
  have h2 : ¬ b = 45 := fun e => by subst e; simp at h
  have h3 : ¬ b = 61 := fun e => by subst e; simp at h
  simp [sgnL, h1, h2, h3]

theorem get_of (s : ByteArray) (j : Nat) (b : UInt8) (h : s.data.toList[j]? = some b) : s.get! j = b := by
  have hj : j < s.data.size := by
    have := (List.getElem?_eq_some_iff.1 h).1
    simpa using this
  have e : s.data[j]? = some b := by simpa using h
  show s.data[j]! = b
  rw [getElem!_pos s.data j hj]
  have := Array.getElem?_eq_getElem hj
  rw [this] at e
  exact Option.some.inj e

/-- A rune that does not begin with an ASCII byte has none. -/
theorem high_skip (s : ByteArray) (pos : Nat) (h : pos < s.size) (ha : 128 ≤ (s.get! pos).toNat) (j : Nat) (b : UInt8) (h0 : pos ≤ j) (h1 : j < pos + (Utf8.decode s pos).2) (hb : s.data.toList[j]? = some b) : 128 ≤ b.toNat := by
  rw [Lib.decode_at] at h1
  obtain ⟨c1, c2, c3, c4⟩ := Lib.decodeN_conts (s.size - pos) (s.get! pos).toNat (s.get! (pos + 1)).toNat (s.get! (pos + 2)).toNat (s.get! (pos + 3)).toNat
  have e := get_of s j b hb
  rcases (show j = pos ∨ j = pos + 1 ∨ j = pos + 2 ∨ j = pos + 3 by omega) with rfl | rfl | rfl | rfl
  · rw [← e]; exact ha
  · have := (c1 (by omega)).1; rw [e] at this; omega
  · have := (c2 (by omega)).1; rw [e] at this; omega
  · have := (c3 (by omega)).1; rw [e] at this; omega

theorem noAny_jump {s : ByteArray} {pos : Nat} (hn : Lib.NoAny s.data.toList sgnL pos) (h : pos < s.size) (ha : 128 ≤ (s.get! pos).toNat) : Lib.NoAny s.data.toList sgnL (pos + (Utf8.decode s pos).2) := by
  intro j b hj hb
  rcases Nat.lt_or_ge j pos with hlt | hge
  · exact hn j b hlt hb
  · exact high_out b (high_skip s pos h ha j b hge hj hb)
theorem noAny_all {s : ByteArray} {pos : Nat} (hn : Lib.NoAny s.data.toList sgnL pos) (h : ¬ pos < s.size) : Lib.indexAny s.data.toList sgnL = -1 :=
  Lib.indexAny_none fun j b hj hb => hn j b (by have := Lib.size_eq s; omega) hb

set_option maxRecDepth 100000 in
set_option maxHeartbeats 2000000 in
theorem indexAny_short (s : ByteArray) (w : World) (h8 : s.size ≤ 8) :
    Calls Tryd.prog 32 #[.string s, .string sgn3] w fun e w' => e = .returned (.int .i64 (Lib.indexAny s.data.toList sgnL)) ∧ Below w.heap.size w w' := by
  have hemp : sgn3.toList.isEmpty = false := by rw [Lib.toList_data]; rfl
  have hs3 : sgn3.size = 3 := rfl
  have h8z : decide ((8 : Int) < (s.size : Int)) = false := decide_eq_false (by omega)
  go_enter Tryd.func32, Tryd.ntmps32
  go_wp2_with (go_at_call 43; refine (Tryd.strings_shouldUseASCIISet _ _).mono ?_; rintro e w' ⟨rfl, hw⟩; rw [hw, h8z])
  go_loopw [9, 10] (fun _ _ wr => ∃ pos : Nat, wr.heap[w.heap.size]? = some (.stringIter s pos) ∧ Below w.heap.size w wr ∧ Hid (Lib.NoAny s.data.toList sgnL pos)) (fun _ _ wr => s.size - wr.iterPos w.heap.size)
  case atStart => exact ⟨0, World.iter_heap w s 0, below_iter _ _ _, Lib.NoAny.zero _ _⟩
  case round =>
    obtain ⟨pos, hit, hbw, HN⟩ := hrel
    have hpos0 := iterPos_at hit
    by_cases hp : pos < s.size
    · obtain ⟨x, hx⟩ : ∃ x : UInt8, s[pos]'hp = x := ⟨_, rfl⟩
      have hxl : s.data.toList[pos]? = some x := by rw [← hx]; exact Lib.data_getElem? s pos hp
      by_cases ha : x.toNat < 128
      · have hnx : ∀ ty, (Instr.next (.pointer (some ⟨w.heap.size, 0, none⟩)) true ty).run Tryd.prog wr = _ := fun ty => Lib.run_next_ascii_at wr w.heap.size s pos ty hit hp (by rw [hx]; exact ha)
        rw [hx] at hnx
        have hit2 := Lib.iterAt_heap wr w.heap.size s pos (pos + 1) hit
        have hbw2 := Lib.below_iterAt hbw (k := w.heap.size) (Nat.le_refl _) s (pos + 1)
        obtain ⟨W1, hW1⟩ : ∃ W1, W1 = wr.iterAt w.heap.size s (pos + 1) := ⟨_, rfl⟩
        rw [← hW1] at hnx hit2 hbw2
        clear hW1 hit hbw
        have HI := Lib.hid hit2
        have HX := Lib.hid hxl
        have HP := Lib.hid hpos0
        clear hit2 hxl hx hpos0
        have hcon := Lib.contains_iff_indexByte sgnL x
        have hback : ((x.toNat : Int)).toNat.toUInt8 = x := by simp
        cases hin : sgnL.contains x
        · rw [hin] at hcon
          have hlt : ¬ ((0 : Int) ≤ Lib.indexByte sgnL x) := of_decide_eq_false hcon.symm
          have HC := Lib.hid hin
          clear hcon hin
          go_wp2_with (go_at_call 42; refine (Tryd.strings_IndexRune_ascii _ _ _ (by omega) (by omega)).mono ?_; rintro e w' ⟨rfl, hw⟩; rw [hw, hback, sgn3_list])
          go_roundw
          case rel => exact ⟨pos + 1, HI.out, hbw2, HN.out.succ HX.out HC.out⟩
          case measure => rw [iterPos_at HI.out, HP.out]; omega
        · rw [hin] at hcon
          have hge : (0 : Int) ≤ Lib.indexByte sgnL x := of_decide_eq_true hcon.symm
          have HC := Lib.hid hin
          clear hcon hin
          go_wp2_with (go_at_call 42; refine (Tryd.strings_IndexRune_ascii _ _ _ (by omega) (by omega)).mono ?_; rintro e w' ⟨rfl, hw⟩; rw [hw, hback, sgn3_list])
          go_ret
          exact ⟨by rw [Lib.indexAny_hit HN.out HX.out HC.out]; rfl, hbw2⟩
      · have hg : s.get! pos = x := get_of s pos x hxl
        have hdh := decode_high s pos hp (by rw [hx]; omega)
        have hwd := Lib.decode_width_pos s pos hp
        have hnx : ∀ ty, (Instr.next (.pointer (some ⟨w.heap.size, 0, none⟩)) true ty).run Tryd.prog wr = _ := fun ty => Lib.run_next_any_at wr w.heap.size s pos ty hit hp
        have hit2 := Lib.iterAt_heap wr w.heap.size s pos (pos + (Utf8.decode s pos).2) hit
        have hbw2 := Lib.below_iterAt hbw (k := w.heap.size) (Nat.le_refl _) s (pos + (Utf8.decode s pos).2)
        have hj := noAny_jump HN.out hp (by rw [hg]; omega)
        obtain ⟨wd, hwdd⟩ : ∃ n : Nat, n = (Utf8.decode s pos).2 := ⟨_, rfl⟩
        obtain ⟨rn, hrn⟩ : ∃ n : Nat, n = (Utf8.decode s pos).1 := ⟨_, rfl⟩
        rw [← hwdd] at hnx hit2 hbw2 hj hwd hdh
        rw [← hrn] at hnx hdh
        obtain ⟨W1, hW1⟩ : ∃ W1, W1 = wr.iterAt w.heap.size s (pos + wd) := ⟨_, rfl⟩
        rw [← hW1] at hnx hit2 hbw2
        have hr : 128 ≤ (rn : Int) := by omega
        have HI := Lib.hid hit2
        have HP := Lib.hid hpos0
        have HJ := Lib.hid hj
        have hlt1 : w.heap.size < W1.heap.size := (Array.getElem?_eq_some_iff.1 hit2).1
        clear hW1 hit hbw hit2 hxl hx hpos0 hj hwdd hrn hg ha
        go_wp2_with fail
        refine (indexRune_high _ _ hr).mono ?_
        rintro e w2 ⟨rfl, hb2⟩
        go_wp2
        have hit3 : w2.heap[w.heap.size]? = some (.stringIter s (pos + wd)) := (hb2.block w.heap.size hlt1).trans HI.out
        go_roundw
        case rel => exact ⟨pos + wd, hit3, hbw2.trans (hb2.mono (by omega)), HJ.out⟩
        case measure => rw [iterPos_at hit3, HP.out]; omega
    · have hnx : ∀ ty, (Instr.next (.pointer (some ⟨w.heap.size, 0, none⟩)) true ty).run Tryd.prog wr = _ := fun ty => Lib.run_next_end_at wr w.heap.size s pos ty hit hp
      clear hit hpos0
      go_wp2
      go_ret
      exact ⟨by rw [noAny_all HN.out hp]; rfl, hbw⟩
end Go.Proofs.YtkindoihmcojdaaDoor
