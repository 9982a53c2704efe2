
/-
  The model's l8Way (a path of any length) and l1Num (a number's digits).
  Conditions: a text of at most 2^30 bytes; a number up to a million.
-/
import Derived.Test.YthobfdcomcknoaaDoorListD
import Derived.Test.YthobfdcomcknoaaDoorGoodC
import Derived.Laws.BytesString
import Derived.Laws.IdiomStrings
import Derived.Lib.ItoaNum
import Derived.Deep.RegionWith
namespace Go.Proofs.YthobfdcomcknoaaDoor
open Go.ChangeShapes Go.WideShapes Go.ChangeAt Go.RowKit Go.Joins
set_option linter.unusedVariables false

set_option maxHeartbeats 1000000 in
theorem l8Way_any (s : ByteArray) (w : World) (hs : s.size ≤ 1073741824) : Calls Tryd.prog 11 #[.string s] w fun e w' => e = .returned (.bool (formB s.data.toList)) ∧ Below w.heap.size w w' := by
  have hpl := parts_le s.data.toList
  rw [len_size] at hpl
  have HP : Hid (∀ p ∈ parts s.data.toList, p.length ≤ s.size) := Lib.hid (fun p hp => by have := part_le hp; rwa [len_size] at this)
  have HG : Hid (formB s.data.toList = (!(s.data.toList == []) && (parts s.data.toList).all partB)) := Lib.hid rfl
  go_enter Tryd.func11, Tryd.ntmps11
  go_wp2_with fail
  refine (l2Parts_any s _ hs).mono ?_
  rintro e w1 ⟨v, rfl, hL, hb1⟩
  obtain ⟨ps, hps⟩ : ∃ ps, ps = parts s.data.toList := ⟨_, rfl⟩
  rw [← hps] at hL hpl
  have HP2 : Hid (∀ p ∈ ps, p.length ≤ s.size) := Lib.hid (by rw [hps]; exact HP.out)
  have HG2 : Hid (formB s.data.toList = (!(s.data.toList == []) && ps.all partB)) := Lib.hid (by rw [hps]; exact HG.out)
  clear hps HP HG
  obtain ⟨o, c, rfl, hlc, hcm, hH⟩ := hL.read
  have HH := Lib.hid hH
  clear hH hL
  unfold maxLen at hcm
  go_wp2
  go_loop [8] (fun i => ∃ k : Nat, k ≤ ps.length ∧ i = .int .i64 k ∧ (ps.take k).all partB = true) (fun i => ps.length - (intOf i).toNat)
  case atStart => exact ⟨0, Nat.zero_le _, rfl, rfl⟩
  case round =>
    obtain ⟨k, hk, rfl, hA⟩ := hrel
    have HA := Lib.hid hA
    clear hA
    by_cases hlt : k < ps.length
    · obtain ⟨g, off, rfl, hg, hcell⟩ := HH.out k hlt
      have hsz : (bs ps[k]).size ≤ maxLen := by
        rw [bs_size]; have := HP2.out _ (List.getElem_mem hlt); unfold maxLen; omega
      have HT : Hid ((ps.take (k + 1)).all partB = partB ps[k]) := Lib.hid (by rw [List.take_succ_eq_append_getElem hlt, List.all_append, HA.out]; simp)
      have HBad : partB ps[k] = false → ps.all partB = false := fun h => by
        rw [List.all_eq_false]; exact ⟨_, List.getElem_mem hlt, by simp [h]⟩
      have HBd := Lib.hid HBad
      clear HBad
      by_cases hn : nameB ps[k] = true
      · have HN : Hid (nameB (bs ps[k]).data.toList = true) := Lib.hid (by rw [bs_list]; exact hn)
        have HPt := Lib.hid (name_part hn)
        clear hn
        go_wp2_with (go_at_call 18; refine (l2Name_any _ _ hsz).mono ?_; rintro e w' ⟨rfl, rfl⟩; rw [HN.out])
        go_round
        case rel => exact ⟨k + 1, hlt, by go_num, by rw [HT.out, HPt.out]⟩
        case measure => simp [intOf]; omega
      · have hn' : nameB ps[k] = false := by simpa using hn
        by_cases h1 : ps[k] = [46]
        · have HPt : Hid (partB ps[k] = true) := Lib.hid (by rw [h1]; decide)
          rw [h1] at hcell
          have hcell' : w1.cell? ⟨g, off + k, none⟩ = some (.string ⟨#[46]⟩) := hcell
          have HN : Hid (nameB (ByteArray.mk #[46]).data.toList = false) := Lib.hid (by decide)
          clear hcell hn hn' h1 hsz
          go_wp2_with (go_at_call 18; refine (l2Name_any _ _ (by decide)).mono ?_; rintro e w' ⟨rfl, rfl⟩; rw [HN.out])
          go_round
          case rel => exact ⟨k + 1, hlt, by go_num, by rw [HT.out, HPt.out]⟩
          case measure => simp [intOf]; omega
        · by_cases h2 : ps[k] = [46, 46]
          · have HPt : Hid (partB ps[k] = true) := Lib.hid (by rw [h2]; decide)
            rw [h2] at hcell
            have hcell' : w1.cell? ⟨g, off + k, none⟩ = some (.string ⟨#[46, 46]⟩) := hcell
            have HN : Hid (nameB (ByteArray.mk #[46, 46]).data.toList = false) := Lib.hid (by decide)
            clear hcell hn hn' h1 h2 hsz
            go_wp2_with (go_at_call 18; refine (l2Name_any _ _ (by decide)).mono ?_; rintro e w' ⟨rfl, rfl⟩; rw [HN.out])
            go_round
            case rel => exact ⟨k + 1, hlt, by go_num, by rw [HT.out, HPt.out]⟩
            case measure => simp [intOf]; omega
          · have HPt := Lib.hid (part_else hn' h1 h2)
            have HN : Hid (nameB (bs ps[k]).data.toList = false) := Lib.hid (by rw [bs_list]; exact hn')
            have t1 := text_neq h1
            have t2 := text_neq h2
            obtain ⟨x, hx⟩ : ∃ x, x = bs ps[k] := ⟨_, rfl⟩
            rw [← hx] at hcell hsz t1 t2 HN
            clear hn hn' h1 h2 hx
            go_wp2_with (go_at_call 18; refine (l2Name_any _ _ hsz).mono ?_; rintro e w' ⟨rfl, rfl⟩; rw [HN.out])
            go_ret
            exact ⟨ret_bool (by rw [HG2.out, HBd.out HPt.out, Bool.and_false]), hb1⟩
    · have HR : Hid (formB s.data.toList = !(s.data.toList == [])) := Lib.hid (by
        have := HA.out
        rw [List.take_of_length_le (by omega)] at this
        rw [HG2.out, this, Bool.and_true])
      by_cases h0 : s.data.toList = []
      · have h1 : s = ⟨#[]⟩ := by rw [← bs_of s, h0]; rfl
        subst h1
        go_wp2
        go_ret
        exact ⟨ret_bool (by rw [HR.out]; rfl), hb1⟩
      · obtain ⟨hp1, hp2, hp3⟩ := text_ne h0
        rw [bs_of] at hp1 hp2 hp3
        have HR2 : Hid (formB s.data.toList = true) := Lib.hid (by rw [HR.out]; simpa using h0)
        clear h0
        go_wp2
        go_ret
        exact ⟨ret_bool HR2.out.symm, hb1⟩
/-- The text whose bytes are these numbers. -/
def strOfD (l : List Int) : ByteArray := ⟨(l.map fun n => UInt8.ofNat n.toNat).toArray⟩
theorem strOfD_add (a b : List Int) : strOfD a ++ strOfD b = strOfD (a ++ b) := by
  apply ByteArray.ext
  simp [strOfD]
theorem strOfD_fold : ∀ (l : List Int) (r : ByteArray), l.foldl (fun r n => r.push (UInt8.ofNat n.toNat)) r = r ++ strOfD l
  | [], r => by apply ByteArray.ext; simp [strOfD]
  | n :: l, r => by
    rw [List.foldl_cons, strOfD_fold l]
    apply ByteArray.ext
    simp [strOfD, ByteArray.push]

theorem load_newD {P : Program} (w : World) (l : List Int) (t : TypeId) :
    (loadCells ⟨w.heap.size, 0, none⟩ l.length).run P (w.alloc (.cells (l.map (Value.int .u8)).toArray t)) = .ok (l.map (Value.int .u8)).toArray (w.alloc (.cells (l.map (Value.int .u8)).toArray t)) := by
  have h := run_loadCells_list (P := P) (w.alloc (.cells (l.map (Value.int .u8)).toArray t)) ⟨w.heap.size, 0, none⟩ (l.map (Value.int .u8)) (fun j v hj => by
    have e : (⟨w.heap.size, 0, none⟩ : Addr).add j = ⟨w.heap.size, j, none⟩ := by
      unfold Addr.add
      split <;> simp_all
    rw [e, World.cell?_alloc_mark]
    simpa using hj)
  simpa using h

/-- string(b) of a new slice of bytes. -/
theorem str_newD (w : World) (l : List Int) (cap : Nat) :
    (convert 44 9 (.slice (some ⟨w.heap.size, 0, none⟩) l.length cap)).run Tryd.prog (w.alloc (.cells (l.map (Value.int .u8)).toArray 5)) = .ok (.string (strOfD l)) (w.alloc (.cells (l.map (Value.int .u8)).toArray 5)) := by
  rw [run_convert_bytes_string _ 44 9 5 _ _ _ Tryd.underlying44 Tryd.underlying5 Tryd.underlying9, run_bytesToString _ _ _ _ l (load_newD w l 5), strOfD_fold]
  congr 2
/-- string(b) of one byte that lies anywhere. -/
theorem str_atD (w : World) (G : Nat) (a : Int) (h : w.cell? ⟨G, 0, none⟩ = some (.int .u8 a)) :
    (convert 44 9 (.slice (some ⟨G, 0, none⟩) 1 1)).run Tryd.prog w = .ok (.string (strOfD [a])) w := by
  have hl : (loadCells ⟨G, 0, none⟩ 1).run Tryd.prog w = .ok #[.int .u8 a] w := by
    have h9 := run_loadCells_list (P := Tryd.prog) w ⟨G, 0, none⟩ [.int .u8 a] (fun j v hj => by
      cases j with
      | zero => simp at hj; subst hj; simpa [Addr.add] using h
      | succ j => simp at hj)
    simpa using h9
  rw [run_convert_bytes_string _ 44 9 5 _ _ _ Tryd.underlying44 Tryd.underlying5 Tryd.underlying9, run_bytesToString _ _ _ _ [a] hl, strOfD_fold]
  congr 2
theorem digit_one {n : Nat} (h : n < 10) : strOfD [48 + (n : Int)] = bs (Lib.decDigits n) := by
  rw [Lib.decDigits, dif_pos h]
  unfold strOfD bs
  congr 2
theorem digit_more {n : Nat} (h : ¬ n < 10) : bs (Lib.decDigits (n / 10)) ++ strOfD [48 + (n : Int) % 10] = bs (Lib.decDigits n) := by
  conv => rhs; rw [Lib.decDigits, dif_neg h]
  rw [← bs_app]
  congr 1
theorem dd_len (n : Nat) : (Lib.decDigits n).length ≤ n + 1 := by
  induction n using Nat.strongRecOn with
  | ind n ih =>
    rw [Lib.decDigits]
    split
    · simp
    · have := ih (n / 10) (by omega)
      simp; omega
end Go.Proofs.YthobfdcomcknoaaDoor
