
/-
  Contracts of the laws' own helpers markText, markStringS, heldStringS.
  Conditions: marks from 1 to 1000000.
-/
import Derived.Test.YtdjpngdgbijedaaHelpC
import Derived.Laws.BytesString
import Derived.Laws.IdiomStrings
import Derived.Lib.QuietBelow
namespace Go.Proofs.Ytdjpngdgbijedaa
open Go.ChangeShapes Go.WideShapes Go.ChangeAt Go.RowKit Go.Joins
set_option linter.unusedVariables false

/-- The text whose bytes are these numbers. -/
def strOf (l : List Int) : ByteArray := ⟨(l.map fun n => UInt8.ofNat n.toNat).toArray⟩
theorem strOf_fold : ∀ (l : List Int) (r : ByteArray), l.foldl (fun r n => r.push (UInt8.ofNat n.toNat)) r = r ++ strOf l
  | [], r => by apply ByteArray.ext; simp [strOf]
  | n :: l, r => by
    rw [List.foldl_cons, strOf_fold l]
    apply ByteArray.ext
    simp [strOf, ByteArray.push]
theorem load_new {P : Program} (w : World) (l : List Int) (t : TypeId) :
    (loadCells ⟨w.heap.size, 0, none⟩ l.length).run P (w.alloc (.cells (l.map (Value.int .u8)).toArray t)) = .ok (l.map (Value.int .u8)).toArray (w.alloc (.cells (l.map (Value.int .u8)).toArray t)) := by
  have h := run_loadCells_list (P := P) (w.alloc (.cells (l.map (Value.int .u8)).toArray t)) ⟨w.heap.size, 0, none⟩ (l.map (Value.int .u8)) (fun j v hj => by
    have e : (⟨w.heap.size, 0, none⟩ : Addr).add j = ⟨w.heap.size, j, none⟩ := by
      unfold Addr.add
      split <;> simp_all
    rw [e, World.cell?_alloc_mark]
    simpa using hj)
  simpa using h
/-- string(b) of a new slice of bytes. -/
theorem str_new (w : World) (l : List Int) (cap : Nat) :
    (convert 91 9 (.slice (some ⟨w.heap.size, 0, none⟩) l.length cap)).run Try.prog (w.alloc (.cells (l.map (Value.int .u8)).toArray 5)) = .ok (.string (strOf l)) (w.alloc (.cells (l.map (Value.int .u8)).toArray 5)) := by
  rw [run_convert_bytes_string _ 91 9 5 _ _ _ Try.underlying91 Try.underlying5 Try.underlying9, run_bytesToString _ _ _ _ l (load_new w l 5), strOf_fold]
  congr 2
theorem str_new1 (w : World) (a : Int) : (convert 91 9 (.slice (some ⟨w.heap.size, 0, none⟩) 1 1)).run Try.prog (w.alloc (.cells #[.int .u8 a] 5)) = .ok (.string (strOf [a])) (w.alloc (.cells #[.int .u8 a] 5)) := str_new w [a] 1

/-- The digits of a number ahead of a text, at most so many. -/
def digsF : Nat → Nat → List UInt8 → List UInt8
  | 0, _, acc => acc
  | f + 1, k, acc => if k = 0 then acc else digsF f (k / 10) (UInt8.ofNat (48 + k % 10) :: acc)
def digs (k : Nat) (acc : List UInt8) : List UInt8 := digsF k k acc
theorem digsF_zero (f : Nat) (acc : List UInt8) : digsF f 0 acc = acc := by cases f <;> simp [digsF]
theorem digsF_step {f k : Nat} (h : k ≠ 0) (acc : List UInt8) : digsF (f + 1) k acc = digsF f (k / 10) (UInt8.ofNat (48 + k % 10) :: acc) := by simp [digsF, h]
def mt (k : Nat) : ByteArray := bs (109 :: digs k [])
theorem str_dig (k : Nat) : strOf [48 + (k : Int) % 10] = bs [UInt8.ofNat (48 + k % 10)] := by
  unfold strOf bs
  have : (48 + (k : Int) % 10).toNat = 48 + k % 10 := by omega
  simp only [List.map_cons, List.map_nil, this]

set_option maxHeartbeats 1000000 in
theorem markText_any (k : Nat) (w : World) (h0 : 1 ≤ k) (h1 : k ≤ 1000000) : Calls Try.prog 59 #[.int .i64 k] w fun e w' => e = .returned (.string (mt k)) ∧ Below w.heap.size w w' := by
  have hs := str_new1
  have hk0 : ¬ (k : Int) ≤ 0 := by omega
  go_enter Try.func59, Try.ntmps59
  go_wp2
  go_loopw [0, 3] (fun j t wr => ∃ (i : Nat) (acc : List UInt8), i ≤ 1000000 ∧ j = .int .i64 i ∧ t = .string (bs acc) ∧ acc.length + i ≤ 2000000 ∧ (∃ f, i ≤ f ∧ digsF f i acc = digs k []) ∧ Below w.heap.size w wr) (fun j _ _ => (intOf j).toNat)
  case atStart => exact ⟨k, [], h1, rfl, rfl, by simp; omega, ⟨k, Nat.le_refl _, rfl⟩, Below.refl _ _⟩
  case round =>
    obtain ⟨i, acc, hi, rfl, rfl, hal, ⟨f, hf, hd⟩, hB⟩ := hrel
    have HD := Lib.hid hd
    clear hd
    by_cases hp : 0 < i
    · obtain ⟨f, rfl⟩ : ∃ g, f = g + 1 := ⟨f - 1, by omega⟩
      have hz : (bs acc).size ≤ 2000000 := by rw [bs_size]; omega
      have HX : Hid (strOf [48 + (i : Int) % 10] ++ bs acc = bs (UInt8.ofNat (48 + i % 10) :: acc)) := Lib.hid (by rw [str_dig, bs_app]; rfl)
      have hz1 : (strOf [48 + (i : Int) % 10]).size = 1 := rfl
      have hp' : 0 < (i : Int) := by omega
      have hr1 : (i : Int) % 10 ≤ 9 := by omega
      have hr0 : 0 ≤ (i : Int) % 10 := by omega
      have hzz : ¬ 9223372036854775807 < (strOf [48 + (i : Int) % 10]).size + (bs acc).size := by omega
      clear hz1
      go_wp2
      go_roundw
      case rel => exact ⟨i / 10, UInt8.ofNat (48 + i % 10) :: acc, by omega, by go_num, by rw [HX.out], by simp; omega, ⟨f, by omega, by rw [← HD.out, digsF_step (k := i) (by omega)]⟩, hB.alloc hB.size _⟩
      case measure => simp [intOf]; omega
    · obtain rfl : i = 0 := by omega
      have HE : Hid (acc = digs k []) := Lib.hid (by rw [← HD.out, digsF_zero])
      have hz : (bs acc).size ≤ 2000000 := by rw [bs_size]; omega
      go_wp2
      go_ret
      refine ⟨ret_str ?_, hB⟩
      unfold mt
      rw [← HE.out]
      exact bs_app [109] acc

theorem mark_set {ps : List (List UInt8)} {k m : Nat} (h : k < ps.length) : ((List.range k).map (fun j => Value.string (mt (m + j))) ++ strs (ps.drop k)).set k (.string (mt (m + k))) = (List.range (k + 1)).map (fun j => Value.string (mt (m + j))) ++ strs (ps.drop (k + 1)) := by
  have hl : ((List.range k).map (fun j => Value.string (mt (m + j)))).length = k := by simp
  rw [List.set_append_right _ _ (Nat.le_of_eq hl), hl, Nat.sub_self, List.drop_eq_getElem_cons h, List.range_succ]
  simp only [strs, List.map_cons, List.set_cons_zero, List.map_append, List.map_nil, List.append_assoc, List.cons_append, List.nil_append]
theorem mark_old {ps : List (List UInt8)} {k m : Nat} (h : k < ps.length) : ((List.range k).map (fun j => Value.string (mt (m + j))) ++ strs (ps.drop k))[k]? = some (.string (bs ps[k])) := by
  have hl : ((List.range k).map (fun j => Value.string (mt (m + j)))).length = k := by simp
  rw [List.getElem?_append_right (Nat.le_of_eq hl), hl, Nat.sub_self, List.drop_eq_getElem_cons h]
  rfl

/-- A row of marks, from m on. -/
def marks (m n : Nat) : List (List UInt8) := (List.range n).map fun j => 109 :: digs (m + j) []
theorem strs_marks (m n : Nat) : strs (marks m n) = (List.range n).map (fun j => Value.string (mt (m + j))) := by
  unfold strs marks mt; rw [List.map_map]; rfl
theorem marks_len (m n : Nat) : (marks m n).length = n := by simp [marks]
theorem marks_at (m n k : Nat) (h : k < (marks m n).length) : (marks m n)[k] = 109 :: digs (m + k) [] := by simp [marks]

theorem below_drewN {w w1 : World} {B : Nat} (h : Below B w w1) (n : Nat) : Below B w (w1.drewN n) := ⟨h.os, h.tape, h.output, h.size, h.block⟩

theorem lst_below {w w' : World} {B : Nat} {v : Value} {ps : List (List UInt8)} (h : Lst w B v ps) (hb : Below w.heap.size w w') : Lst w' B v ps := by
  refine World.ownsRow.kept h (row := none) ⟨hb.os, hb.tape, hb.output, hb.size, fun i hi _ => hb.block i hi⟩ ?_
  rcases h.2 with ⟨rfl, _⟩ | ⟨g, cap, cur, rfl, _⟩
  · exact .inl rfl
  · exact .inr (by simp [Value.ownBlock])
end Go.Proofs.Ytdjpngdgbijedaa
