
/-
  Contracts of the laws' own helpers markText, markStringS, heldStringS.
  Conditions: marks from 1 to 100000000.
-/
import Derived.Test.YtbmbbioanlcioaaHelpC
import Derived.Laws.BytesString
import Derived.Laws.IdiomStrings
import Derived.Lib.QuietBelow
namespace Go.Proofs.Ytbmbbioanlcioaa
open Go.ChangeShapes Go.WideShapes Go.ChangeAt Go.RowKit Go.Joins
set_option linter.unusedVariables false

/-- The text whose bytes are these numbers. -/
def strOf (l : List Int) : ByteArray := ⟨(l.map fun n => UInt8.ofNat n.toNat).toArray⟩
theorem strOf_fold : ∀ (l : List Int) (r : ByteArray), l.foldl (fun r n => r.push (UInt8.ofNat n.toNat)) r = r ++ strOf l
  | [], r => by apply ByteArray.ext; simp [strOf]
  | n :: l, r => by
    rw [List.foldl_cons, strOf_fold l]
    apply ByteArray.ext
    simp [strOf, ByteArray.push]
theorem load_new {P : Program} (w : World) (l : List Int) (t : TypeId) :
    (loadCells ⟨w.heap.size, 0, none⟩ l.length).run P (w.alloc (.cells (l.map (Value.int .u8)).toArray t)) = .ok (l.map (Value.int .u8)).toArray (w.alloc (.cells (l.map (Value.int .u8)).toArray t)) := by
  have h := run_loadCells_list (P := P) (w.alloc (.cells (l.map (Value.int .u8)).toArray t)) ⟨w.heap.size, 0, none⟩ (l.map (Value.int .u8)) (fun j v hj => by
    have e : (⟨w.heap.size, 0, none⟩ : Addr).add j = ⟨w.heap.size, j, none⟩ := by
      unfold Addr.add
      split <;> simp_all
    rw [e, World.cell?_alloc_mark]
    simpa using hj)
  simpa using h
/-- string(b) of a new slice of bytes. -/
theorem str_new (w : World) (l : List Int) (cap : Nat) :
    (convert 73 9 (.slice (some ⟨w.heap.size, 0, none⟩) l.length cap)).run Try.prog (w.alloc (.cells (l.map (Value.int .u8)).toArray 5)) = .ok (.string (strOf l)) (w.alloc (.cells (l.map (Value.int .u8)).toArray 5)) := by
  rw [run_convert_bytes_string _ 73 9 5 _ _ _ Try.underlying73 Try.underlying5 Try.underlying9, run_bytesToString _ _ _ _ l (load_new w l 5), strOf_fold]
  congr 2
theorem str_new1 (w : World) (a : Int) : (convert 73 9 (.slice (some ⟨w.heap.size, 0, none⟩) 1 1)).run Try.prog (w.alloc (.cells #[.int .u8 a] 5)) = .ok (.string (strOf [a])) (w.alloc (.cells #[.int .u8 a] 5)) := str_new w [a] 1

/-- The digits of a number ahead of a text, at most so many. -/
def digsF : Nat → Nat → List UInt8 → List UInt8
  | 0, _, acc => acc
  | f + 1, k, acc => if k = 0 then acc else digsF f (k / 10) (UInt8.ofNat (48 + k % 10) :: acc)
def digs (k : Nat) (acc : List UInt8) : List UInt8 := digsF k k acc
theorem digsF_zero (f : Nat) (acc : List UInt8) : digsF f 0 acc = acc := by cases f <;> simp [digsF]
theorem digsF_step {f k : Nat} (h : k ≠ 0) (acc : List UInt8) : digsF (f + 1) k acc = digsF f (k / 10) (UInt8.ofNat (48 + k % 10) :: acc) := by simp [digsF, h]
def mt (k : Nat) : ByteArray := bs (109 :: digs k [])
theorem str_dig (k : Nat) : strOf [48 + (k : Int) % 10] = bs [UInt8.ofNat (48 + k % 10)] := by
  unfold strOf bs
  have : (48 + (k : Int) % 10).toNat = 48 + k % 10 := by omega
  simp only [List.map_cons, List.map_nil, this]

set_option maxHeartbeats 1000000 in
theorem markText_any (k : Nat) (w : World) (h0 : 1 ≤ k) (h1 : k ≤ 100000000) : Calls Try.prog 33 #[.int .i64 k] w fun e w' => e = .returned (.string (mt k)) ∧ Below w.heap.size w w' := by
  have hs := str_new1
  have hk0 : ¬ (k : Int) ≤ 0 := by omega
  go_enter Try.func33, Try.ntmps33
  go_wp2
  go_loopw [0, 3] (fun j t wr => ∃ (i : Nat) (acc : List UInt8), i ≤ 100000000 ∧ j = .int .i64 i ∧ t = .string (bs acc) ∧ acc.length + i ≤ 200000000 ∧ (∃ f, i ≤ f ∧ digsF f i acc = digs k []) ∧ Below w.heap.size w wr) (fun j _ _ => (intOf j).toNat)
  case atStart => exact ⟨k, [], h1, rfl, rfl, by simp; omega, ⟨k, Nat.le_refl _, rfl⟩, Below.refl _ _⟩
  case round =>
    obtain ⟨i, acc, hi, rfl, rfl, hal, ⟨f, hf, hd⟩, hB⟩ := hrel
    have HD := Lib.hid hd
    clear hd
    by_cases hp : 0 < i
    · obtain ⟨f, rfl⟩ : ∃ g, f = g + 1 := ⟨f - 1, by omega⟩
      have hz : (bs acc).size ≤ 200000000 := by rw [bs_size]; omega
      have HX : Hid (strOf [48 + (i : Int) % 10] ++ bs acc = bs (UInt8.ofNat (48 + i % 10) :: acc)) := Lib.hid (by rw [str_dig, bs_app]; rfl)
      have hz1 : (strOf [48 + (i : Int) % 10]).size = 1 := rfl
      have hp' : 0 < (i : Int) := by omega
      have hr1 : (i : Int) % 10 ≤ 9 := by omega
      have hr0 : 0 ≤ (i : Int) % 10 := by omega
      have hzz : ¬ 9223372036854775807 < (strOf [48 + (i : Int) % 10]).size + (bs acc).size := by omega
      clear hz1
      go_wp2
      go_roundw
      case rel => exact ⟨i / 10, UInt8.ofNat (48 + i % 10) :: acc, by omega, by go_num, by rw [HX.out], by simp; omega, ⟨f, by omega, by rw [← HD.out, digsF_step (k := i) (by omega)]⟩, hB.alloc hB.size _⟩
      case measure => simp [intOf]; omega
    · obtain rfl : i = 0 := by omega
      have HE : Hid (acc = digs k []) := Lib.hid (by rw [← HD.out, digsF_zero])
      have hz : (bs acc).size ≤ 200000000 := by rw [bs_size]; omega
      go_wp2
      go_ret
      refine ⟨ret_str ?_, hB⟩
      unfold mt
      rw [← HE.out]
      exact bs_app [109] acc

theorem mark_set {ps : List (List UInt8)} {k m : Nat} (h : k < ps.length) : ((List.range k).map (fun j => Value.string (mt (m + j))) ++ strs (ps.drop k)).set k (.string (mt (m + k))) = (List.range (k + 1)).map (fun j => Value.string (mt (m + j))) ++ strs (ps.drop (k + 1)) := by
  have hl : ((List.range k).map (fun j => Value.string (mt (m + j)))).length = k := by simp
  rw [List.set_append_right _ _ (Nat.le_of_eq hl), hl, Nat.sub_self, List.drop_eq_getElem_cons h, List.range_succ]
  simp only [strs, List.map_cons, List.set_cons_zero, List.map_append, List.map_nil, List.append_assoc, List.cons_append, List.nil_append]
theorem mark_old {ps : List (List UInt8)} {k m : Nat} (h : k < ps.length) : ((List.range k).map (fun j => Value.string (mt (m + j))) ++ strs (ps.drop k))[k]? = some (.string (bs ps[k])) := by
  have hl : ((List.range k).map (fun j => Value.string (mt (m + j)))).length = k := by simp
  rw [List.getElem?_append_right (Nat.le_of_eq hl), hl, Nat.sub_self, List.drop_eq_getElem_cons h]
  rfl

/-- A row of marks, from m on. -/
def marks (m n : Nat) : List (List UInt8) := (List.range n).map fun j => 109 :: digs (m + j) []
theorem strs_marks (m n : Nat) : strs (marks m n) = (List.range n).map (fun j => Value.string (mt (m + j))) := by
  unfold strs marks mt; rw [List.map_map]; rfl
theorem marks_len (m n : Nat) : (marks m n).length = n := by simp [marks]
theorem marks_at (m n k : Nat) (h : k < (marks m n).length) : (marks m n)[k] = 109 :: digs (m + k) [] := by simp [marks]

/-- markStringS writes marks into a row of the call's own. -/
theorem markStringS_some (ps : List (List UInt8)) (g cap B m : Nat) (w : World) (hL : w.ownsRow B 9 1 (.slice (some ⟨g, 0, none⟩) ps.length cap) ps.length (strs ps)) (hm : 1 ≤ m) (hB0 : B ≤ w.heap.size) (hl : m + ps.length ≤ 90000000) :
    Calls Try.prog 14 #[.slice (some ⟨g, 0, none⟩) ps.length cap, .int .i64 m] w fun e w' => e = .returned (.int .i64 (m + ps.length)) ∧ Lst w' B (.slice (some ⟨g, 0, none⟩) ps.length cap) (marks m ps.length) ∧ Below B w w' := by
  have hgB : B ≤ g ∧ g < w.heap.size := hL.lt g rfl
  have hcap : ps.length ≤ cap := by
    rcases hL.2 with ⟨e, _⟩ | ⟨g', cap', cur, e, _, _, hn, _⟩
    · cases e
    · simp only [Value.slice.injEq, Option.some.injEq, Addr.mk.injEq, and_true, true_and] at e
      omega
  go_enter Try.func14, Try.ntmps14
  go_wp2
  go_loopw [1, 5] (fun t i wr => ∃ k : Nat, k ≤ ps.length ∧ i = .int .i64 k ∧ t = .int .i64 ((m + k : Nat) : Int) ∧ wr.ownsRow B 9 1 (.slice (some ⟨g, 0, none⟩) ps.length cap) ps.length ((List.range k).map (fun j => Value.string (mt (m + j))) ++ strs (ps.drop k)) ∧ Below B w wr) (fun _ i _ => ps.length - (intOf i).toNat)
  case atStart => exact ⟨0, Nat.zero_le _, rfl, rfl, by simpa using hL, Below.refl _ _⟩
  case round =>
    obtain ⟨k, hk, rfl, rfl, hown, hB⟩ := hrel
    by_cases hlt : k < ps.length
    · go_wp2_with fail
      refine (markText_any (m + k) _ (by omega) (by omega)).mono ?_
      rintro e w1 ⟨rfl, hb1⟩
      have hown1 : w1.ownsRow B 9 1 (.slice (some ⟨g, 0, none⟩) ps.length cap) ps.length ((List.range k).map (fun j => Value.string (mt (m + j))) ++ strs (ps.drop k)) := by
        refine hown.kept (row := none) ⟨hb1.os, hb1.tape, hb1.output, hb1.size, fun i hi _ => hb1.block i hi⟩ (.inr (by simp [Value.ownBlock]))
      have hold := (hown1.cellAt k (by omega)).trans (mark_old hlt)
      have hfz := hown1.frozenAt k
      obtain ⟨hs1, hs2⟩ := hown1.stored k (.string (mt (m + k)))
      rw [mark_set hlt] at hs1
      have hb2 : Below B w (w1.setCell ⟨g, k, none⟩ (.string (mt (m + k)))) := (hB.trans (hb1.mono (Nat.le_trans hB0 hB.size))).setCell (p := ⟨g, k, none⟩) hgB.1 _
      have HS1 := Lib.hid hs1
      have HB2 := Lib.hid hb2
      clear hs1 hs2 hb2 hown1 hown hb1
      go_wp2
      go_roundw
      case rel => exact ⟨k + 1, hlt, by go_num, by go_num, HS1.out, HB2.out⟩
      case measure => simp [intOf]; omega
    · obtain rfl : k = ps.length := by omega
      have HL : Hid (Lst wr B (.slice (some ⟨g, 0, none⟩) ps.length cap) (marks m ps.length)) := Lib.hid (by
        unfold Lst
        rw [strs_marks, marks_len]
        simpa [strs] using hown)
      clear hown
      go_wp2
      go_ret
      exact ⟨ret_int (by simp), HL.out, hB⟩

theorem below_drewN {w w1 : World} {B : Nat} (h : Below B w w1) (n : Nat) : Below B w (w1.drewN n) := ⟨h.os, h.tape, h.output, h.size, h.block⟩

/-- heldStringS finds the marks. -/
theorem heldStringS_some (n m : Nat) (v : Value) (w : World) (hR : Rd w v (marks m n)) (hm : 1 ≤ m) (hl : m + n ≤ 90000000) :
    Calls Try.prog 15 #[v, .int .i64 m] w fun e w' => e = .returned (.int .i64 (m + n)) ∧ Below w.heap.size w w' := by
  obtain ⟨o, c, rfl, hlc, hcm, hH⟩ := hR
  have hH' := fun i (hi : i < n) => hH i (by rw [marks_len]; exact hi)
  rw [marks_len] at hlc ⊢
  have HH : Hid (∀ i, i < n → ∃ g off, o = some ⟨g, off, none⟩ ∧ g < w.heap.size ∧ w.cell? ⟨g, off + i, none⟩ = some (.string (mt (m + i)))) := Lib.hid (fun i hi => by
    obtain ⟨g, off, e, hg, hc⟩ := hH' i hi
    refine ⟨g, off, e, hg, ?_⟩
    rw [hc, marks_at]; rfl)
  clear hH hH'
  unfold maxLen at hcm
  go_enter Try.func15, Try.ntmps15
  go_wp2
  go_loopw [1, 5] (fun t i wr => ∃ k : Nat, k ≤ n ∧ i = .int .i64 k ∧ t = .int .i64 ((m + k : Nat) : Int) ∧ Below w.heap.size w wr) (fun _ i _ => n - (intOf i).toNat)
  case atStart => exact ⟨0, Nat.zero_le _, rfl, rfl, Below.refl _ _⟩
  case round =>
    obtain ⟨k, hk, rfl, rfl, hB⟩ := hrel
    by_cases hlt : k < n
    · obtain ⟨g, off, rfl, hg, hc⟩ := HH.out k hlt
      have hcell : wr.cell? ⟨g, off + k, none⟩ = some (.string (mt (m + k))) := (hB.cell (p := ⟨g, off + k, none⟩) hg).trans hc
      clear hc
      have hin : Below wr.heap.size wr wr := Below.refl _ _
      go_wp2
      have z0 := fun d os => cell_regrown (w := wr) hcell d os
      refine wp_region_quiet_below (by kernel_rfl) (by kernel_rfl) ?_
      repeat (first | go_big_quiet_step ((go_at_call 33; exact Calls.regrown_of (markText_any (m + k) _ (by omega) (by omega)))) | quiet_step ((go_at_call 33; exact Calls.regrown_of (markText_any (m + k) _ (by omega) (by omega)))))
      refine wpQuiet_nil ?_
      intro w5 hwq
      have hb5 : Below wr.heap.size wr w5 := by
        obtain ⟨pp, rfl⟩ := hwq
        exact below_regrown _ _ _
      clear hwq z0
      go_wp2
      go_roundw
      case rel => exact ⟨k + 1, hlt, by go_num, by go_num, hB.trans (hb5.mono hB.size)⟩
      case measure => simp [intOf]; omega
    · obtain rfl : k = n := by omega
      go_wp2
      go_ret
      exact ⟨ret_int (by simp), hB⟩

set_option maxHeartbeats 400000 in
theorem markStringS_any (ps : List (List UInt8)) (v : Value) (B m : Nat) (w : World) (hL : Lst w B v ps) (hm : 1 ≤ m) (hB0 : B ≤ w.heap.size) (hl : m + ps.length ≤ 90000000) :
    Calls Try.prog 14 #[v, .int .i64 m] w fun e w' => e = .returned (.int .i64 (m + ps.length)) ∧ Lst w' B v (marks m ps.length) ∧ Below B w w' := by
  rcases hL.2 with ⟨rfl, h0⟩ | ⟨g, cap, cur, rfl, rest⟩
  · obtain rfl : ps = [] := List.eq_nil_of_length_eq_zero h0
    clear hL h0
    go_enter Try.func14, Try.ntmps14
    go_wp2
    go_rounds 1
    go_ret
    exact ⟨ret_int (by simp), Lst.nil _ _, Below.refl _ _⟩
  · exact markStringS_some ps g cap B m w hL hm hB0 hl
theorem lst_below {w w' : World} {B : Nat} {v : Value} {ps : List (List UInt8)} (h : Lst w B v ps) (hb : Below w.heap.size w w') : Lst w' B v ps := by
  refine World.ownsRow.kept h (row := none) ⟨hb.os, hb.tape, hb.output, hb.size, fun i hi _ => hb.block i hi⟩ ?_
  rcases h.2 with ⟨rfl, _⟩ | ⟨g, cap, cur, rfl, _⟩
  · exact .inl rfl
  · exact .inr (by simp [Value.ownBlock])
end Go.Proofs.Ytbmbbioanlcioaa
