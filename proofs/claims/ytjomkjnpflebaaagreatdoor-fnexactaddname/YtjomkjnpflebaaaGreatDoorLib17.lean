/-
  Joined: PlaceD PlaceE HelpC MarkC.
  Conditions: as each states.
-/
import Derived.Laws.OwnMore
import Derived.Deep.QuietTactic
import Derived.BigQuiet
import Derived.Laws.BytesString
import Derived.Laws.IdiomStrings
import Derived.Lib.QuietBelow
import Derived.Test.YtjomkjnpflebaaaGreatDoorLib4
import Derived.Test.YtjomkjnpflebaaaGreatDoorLib15
import Derived.Test.YtjomkjnpflebaaaGreatDoorLib16

/-
  The model's l4Ahead, l4Place, FindPlace.
  Conditions: at most 2^20 values and letters together; a text of at most 2^20 bytes; the variable errors.errorType as the program's text lays it.
-/
namespace Go.Proofs.YtjomkjnpflebaaaGreatDoor
open Go.ChangeShapes Go.WideShapes Go.ChangeAt Go.RowKit Go.Joins
set_option linter.unusedVariables false
set_option linter.unusedSimpArgs false

theorem byte_47 {s : ByteArray} {m : Nat} (hm : m < s.size) : (s[m]'hm).toNat = 47 ↔ s.data.toList[m]'(by rw [len_size]; exact hm) = 47 := by
  constructor
  · intro h; exact UInt8.toNat_inj.1 (by rw [show (s.data.toList[m]'(by rw [len_size]; exact hm)) = s[m]'hm from rfl, h]; rfl)
  · intro h; rw [show s[m]'hm = (s.data.toList[m]'(by rw [len_size]; exact hm)) from rfl, h]; rfl
/-- What is left where slashes at the end are struck. -/
def Struck (l A : List UInt8) : Prop := A ≠ [] ∧ ∃ j, l = A ++ List.replicate j 47
/-- Slashes struck at the front, but for the last sign. -/
def stripR : List UInt8 → List UInt8
  | a :: c :: r => if a = 47 then stripR (c :: r) else a :: c :: r
  | l => l
def aheadS (l : List UInt8) : List UInt8 := (stripR l.reverse).reverse
theorem stripR_is : ∀ r : List UInt8, r ≠ [] → stripR r ≠ [] ∧ ∃ j, r = List.replicate j 47 ++ stripR r
  | [], h => absurd rfl h
  | [a], _ => ⟨by simp [stripR], 0, by simp [stripR]⟩
  | a :: c :: r, _ => by
    obtain ⟨h1, j, e⟩ := stripR_is (c :: r) (by simp)
    by_cases ha : a = 47
    · have hs : stripR (a :: c :: r) = stripR (c :: r) := by rw [stripR, if_pos ha]
      refine ⟨by rw [hs]; exact h1, j + 1, ?_⟩
      rw [hs, List.replicate_succ, List.cons_append, ← e, ha]
    · have hs : stripR (a :: c :: r) = a :: c :: r := by rw [stripR, if_neg ha]
      exact ⟨by rw [hs]; simp, 0, by rw [hs]; rfl⟩
theorem struck_aheadS {l : List UInt8} (h : l ≠ []) : Struck l (aheadS l) := by
  obtain ⟨h1, j, e⟩ := stripR_is l.reverse (by simpa using h)
  refine ⟨by unfold aheadS; simpa using h1, j, ?_⟩
  have := congrArg List.reverse e
  rw [List.reverse_reverse, List.reverse_append, List.reverse_replicate] at this
  exact this
theorem aheadS_less {A : List UInt8} {c : UInt8} (hc : c = 47) (hA : A ≠ []) : aheadS (A ++ [c]) = aheadS A := by
  unfold aheadS
  rw [List.reverse_append]
  cases hr : A.reverse with
  | nil => exact absurd (List.reverse_eq_nil_iff.1 hr) hA
  | cons d r =>
    show (stripR (c :: d :: r)).reverse = _
    rw [stripR, if_pos hc]
theorem aheadS_stay {A : List UInt8} {c : UInt8} (hc : c ≠ 47) : aheadS (A ++ [c]) = A ++ [c] := by
  unfold aheadS
  rw [List.reverse_append]
  cases hr : A.reverse with
  | nil =>
    have := List.reverse_eq_nil_iff.1 hr
    subst this; rfl
  | cons d r =>
    show (stripR (c :: d :: r)).reverse = _
    rw [stripR, if_neg hc, ← hr]; simp
theorem aheadS_one (c : UInt8) : aheadS [c] = [c] := rfl
set_option maxHeartbeats 1000000 in
theorem l4Ahead_any (D p : List UInt8) (s : ByteArray) (w : World) (hs : s.data.toList = D ++ 47 :: p) (hp : 47 ∉ p) (hz : s.size ≤ 1073741824) :
    Calls Tryz.prog 92 #[.string s] w fun e w' => e = .returned (.string (bs (aheadS (D ++ [47])))) ∧ Below w.heap.size w w' := by
  have HA := Lib.hid (byte_at hs hp)
  have hsz : s.size = D.length + 1 + p.length := by rw [← len_size, hs]; simp; omega
  have HT : Hid (s.data.toList.take (D.length + 1) = D ++ [47]) := Lib.hid (by rw [hs, show D ++ 47 :: p = (D ++ [47]) ++ p by simp, List.take_left' (by simp)])
  clear hs hp
  go_enter Tryz.func92, Tryz.ntmps92
  go_wp2
  go_loop [3] (fun i => ∃ m : Nat, D.length ≤ m ∧ m < s.size ∧ i = .int .i64 ((m + 1 : Nat) : Int)) (fun i => (intOf i).toNat)
  case atStart => exact ⟨s.size - 1, by omega, by omega, by congr 1; omega⟩
  case round =>
    obtain ⟨m, hm0, hm1, rfl⟩ := hrel
    obtain ⟨h1, h2⟩ := HA.out m hm1
    have hi : ((m + 1 : Nat) : Int) - 1 = (m : Int) := by omega
    by_cases hmD : m = D.length
    · have h47 := h2 hmD
      have h47b : (((s[m]'hm1).toNat : Int) != 47) = false := by rw [h47]; rfl
      subst hmD
      clear h1 h2
      go_wp2
      go_loop [3] (fun i => ∃ m : Nat, m ≤ D.length ∧ aheadS (s.data.toList.take (m + 1)) = aheadS (D ++ [47]) ∧ i = .int .i64 ((m + 1 : Nat) : Int)) (fun i => (intOf i).toNat)
      case atStart => exact ⟨D.length, Nat.le_refl _, by rw [HT.out], rfl⟩
      case round =>
        obtain ⟨k, hk, hS, rfl⟩ := hrel
        have HST := Lib.hid hS
        clear hS
        have hks : k < s.size := by omega
        have hcut := Lib.hid (bs_ext s 0 (k + 1))
        by_cases hk1 : 1 ≤ k
        · have hi2 : ((k + 1 : Nat) : Int) - 1 = (k : Int) := by omega
          by_cases hb : (s[k]'hks) = 47
          · have HLESS : Hid (aheadS (s.data.toList.take k) = aheadS (D ++ [47])) := Lib.hid (by
              have h9 := HST.out
              rw [take_snoc' s k hks, aheadS_less hb] at h9
              · exact h9
              · intro h0
                have := congrArg List.length h0
                simp only [List.length_take, len_size, List.length_nil] at this
                omega)
            have hb1 : (((s[k]'hks).toNat : Int) == 47) = true := by rw [hb]; rfl
            go_wp2
            go_round
            case rel => exact ⟨k - 1, by omega, by rw [show k - 1 + 1 = k by omega]; exact HLESS.out, by congr 1; omega⟩
            case measure => (simp [intOf]) <;> omega
          · have hb2 : (((s[k]'hks).toNat : Int) == 47) = false := by
              rw [beq_eq_false_iff_ne]
              intro h
              exact hb (UInt8.toNat_inj.1 (by rw [show (47 : UInt8).toNat = 47 from rfl]; omega))
            have HE : Hid (s.data.toList.take (k + 1) = aheadS (D ++ [47])) := Lib.hid (by
              have h9 := HST.out
              rw [take_snoc' s k hks, aheadS_stay hb] at h9
              rw [take_snoc' s k hks]; exact h9)
            go_wp2
            go_ret
            exact ⟨by rw [← HE.out, hcut.out]; simp, Below.refl _ _⟩
        · obtain rfl : k = 0 := by omega
          have HE : Hid (s.data.toList.take (0 + 1) = aheadS (D ++ [47])) := Lib.hid (by
            have h9 := HST.out
            rw [take_snoc' s 0 hks] at h9 ⊢
            exact h9)
          go_wp2
          go_ret
          exact ⟨by rw [← HE.out, hcut.out]; simp, Below.refl _ _⟩
    · have hgt : D.length < m := by omega
      have hne := h1 hgt
      have hne2 : (((s[m]'hm1).toNat : Int) != 47) = true := by rw [bne_iff_ne]; omega
      clear h1 h2
      go_wp2
      go_round
      case rel => exact ⟨m - 1, by omega, by omega, by congr 1; omega⟩
      case measure => (simp [intOf]) <;> omega

theorem struck_dirW {ns : List Nod} {u g : Int} {D A : List UInt8} {want : Int} (hl : D.length + 1 ≤ 60) (h : Struck (D ++ [47]) A) : dirW ns u g A want = dirW ns u g (aheadL D) want := by
  obtain ⟨h1, j, e⟩ := h
  have hlen := congrArg List.length e
  simp at hlen
  rw [← dirW_slashes j A (by omega) h1, ← e]
  unfold aheadL
  by_cases hD : D = []
  · rw [if_pos hD, hD]; rfl
  · rw [if_neg hD, dirW_slash (by omega) hD]
theorem l2Name_is4 {s : ByteArray} {b : Bool} {w : World} (h : nameB s.data.toList = b) (hs : s.size ≤ maxLen) : Calls Tryz.prog 70 #[.string s] w fun e w' => e = .returned (.bool b) ∧ w = w' := by
  rw [← h]; exact l2Name_any s w hs
theorem last_byte {s : ByteArray} (h : 0 < s.size) : (((s[s.size - 1]'(by omega)).toNat : Int) == 47) = slashB s.data.toList := by
  rw [slash_at h, Bool.eq_iff_iff]
  simp only [beq_iff_eq, decide_eq_true_eq]
  constructor
  · intro h; exact UInt8.toNat_inj.1 (by rw [show (47 : UInt8).toNat = 47 from rfl]; omega)
  · intro h; rw [h]; rfl
theorem baseL_cut {D p : List UInt8} (hp : 47 ∉ p) (hn : nameB p = true) : baseL (D ++ 47 :: p) = p := by
  obtain ⟨h1, h2, h3, h4⟩ := name_is4 hn
  rw [baseL_snoc (qs := clean (wholeB (D ++ 47 :: p)) (parts D)) (p := p) (base_cut hp hn), if_neg h3]

set_option maxHeartbeats 4000000 in
theorem l4Place_no (f : FsD) (v : Value) (u g : Int) (s : ByteArray) (w : World) (hR : FsA w v f) (hs : szF f ≤ 1048576) (hss : s.size ≤ 1048576) (hw : wgB s.data.toList = false) :
    Calls Tryz.prog 55 #[v, .agg #[.int .i64 u, .int .i64 g], .string s] w fun e w' => e = .returned (.tuple #[.int .i64 0, .string ⟨#[]⟩, .int .i64 1]) ∧ Below w.heap.size w w' := by
  have HR := Lib.hid hR
  obtain ⟨nv, rfl, hN⟩ := hR
  have HN := Lib.hid hN
  obtain ⟨o, c, rfl, hm, hH⟩ := hN
  unfold maxLen at hm
  have HS := Lib.hid hs
  have hl : f.nodes.length ≤ 1048576 := (lists_small hs).1
  have HB0 : Hid (Below w.heap.size w ((w.alloc (.cells #[.slice o f.nodes.length c, .int .i64 f.room] 30)).alloc (.cells #[.int .i64 u, .int .i64 g] 34))) := Lib.hid (((Below.refl _ _).alloc (Nat.le_refl _) _).alloc (by simp) _)
  have KA0 := Lib.hid (alloc3_fst' w (.cells #[.slice o f.nodes.length c, .int .i64 f.room] 30) (.cells #[.int .i64 u, .int .i64 g] 34))
  have KB0 := Lib.hid (alloc3_snd' w (.cells #[.slice o f.nodes.length c, .int .i64 f.room] 30) (.cells #[.int .i64 u, .int .i64 g] 34))
  clear hH
  have HW := Lib.hid hw
  clear hs hw
  go_enter Tryz.func55, Tryz.ntmps55
  go_wp2_with fail
  refine (l2Whole_is HW.out _ (by omega)).mono ?_
  rintro e w1 ⟨rfl, hb1⟩
  have HB1 := Lib.hid (HB0.out.trans (hb1.mono HB0.out.size))
  have KA1 := Lib.hid ((hb1.block w.heap.size (lt_of_heap KA0.out)).trans KA0.out)
  have KB1 := Lib.hid ((hb1.block (w.heap.size + 1) (lt_of_heap KB0.out)).trans KB0.out)
  have x1a : w1.cell? ⟨w.heap.size, 0, none⟩ = some (.slice o f.nodes.length c) := cell_blk KA1.out 0
  have x1b : w1.cell? ⟨w.heap.size, 1, none⟩ = some (.int .i64 f.room) := cell_blk KA1.out 1
  have y1a : w1.cell? ⟨w.heap.size + 1, 0, none⟩ = some (.int .i64 u) := cell_blk KB1.out 0
  have y1b : w1.cell? ⟨w.heap.size + 1, 1, none⟩ = some (.int .i64 g) := cell_blk KB1.out 1
  clear hb1
  go_wp2
  go_ret3
  exact ⟨rfl, HB1.out⟩
set_option maxHeartbeats 4000000 in
theorem l4Place_bad (f : FsD) (v : Value) (u g : Int) (s : ByteArray) (D p : List UInt8) (w : World) (hR : FsA w v f) (hs : szF f ≤ 1048576) (hss : s.size ≤ 1048576) (hw : wgB s.data.toList = true) (hDp : s.data.toList = D ++ 47 :: p) (hp : 47 ∉ p) (hn : nameB p = false) :
    Calls Tryz.prog 55 #[v, .agg #[.int .i64 u, .int .i64 g], .string s] w fun e w' => e = .returned (.tuple #[.int .i64 0, .string ⟨#[]⟩, .int .i64 1]) ∧ Below w.heap.size w w' := by
  have HR := Lib.hid hR
  obtain ⟨nv, rfl, hN⟩ := hR
  have HN := Lib.hid hN
  obtain ⟨o, c, rfl, hm, hH⟩ := hN
  unfold maxLen at hm
  have HS := Lib.hid hs
  have hl : f.nodes.length ≤ 1048576 := (lists_small hs).1
  have HB0 : Hid (Below w.heap.size w ((w.alloc (.cells #[.slice o f.nodes.length c, .int .i64 f.room] 30)).alloc (.cells #[.int .i64 u, .int .i64 g] 34))) := Lib.hid (((Below.refl _ _).alloc (Nat.le_refl _) _).alloc (by simp) _)
  have KA0 := Lib.hid (alloc3_fst' w (.cells #[.slice o f.nodes.length c, .int .i64 f.room] 30) (.cells #[.int .i64 u, .int .i64 g] 34))
  have KB0 := Lib.hid (alloc3_snd' w (.cells #[.slice o f.nodes.length c, .int .i64 f.room] 30) (.cells #[.int .i64 u, .int .i64 g] 34))
  clear hH
  have HW := Lib.hid hw
  have hsz : D.length + 1 ≤ s.size := by rw [← len_size, hDp]; simp
  have hlb := last_byte (s := s) (by omega)
  rw [hDp, slash_cut D p hp] at hlb
  by_cases hpe : p = []
  · subst hpe
    have hlb2 : (((s[s.size - 1]'(by omega)).toNat : Int) == 47) = true := hlb
    clear hlb hs hw hn hDp hp
    go_enter Tryz.func55, Tryz.ntmps55
    go_wp2_with fail
    refine (l2Whole_is HW.out _ (by omega)).mono ?_
    rintro e w1 ⟨rfl, hb1⟩
    have HB1 := Lib.hid (HB0.out.trans (hb1.mono HB0.out.size))
    have KA1 := Lib.hid ((hb1.block w.heap.size (lt_of_heap KA0.out)).trans KA0.out)
    have KB1 := Lib.hid ((hb1.block (w.heap.size + 1) (lt_of_heap KB0.out)).trans KB0.out)
    have x1a : w1.cell? ⟨w.heap.size, 0, none⟩ = some (.slice o f.nodes.length c) := cell_blk KA1.out 0
    have x1b : w1.cell? ⟨w.heap.size, 1, none⟩ = some (.int .i64 f.room) := cell_blk KA1.out 1
    have y1a : w1.cell? ⟨w.heap.size + 1, 0, none⟩ = some (.int .i64 u) := cell_blk KB1.out 0
    have y1b : w1.cell? ⟨w.heap.size + 1, 1, none⟩ = some (.int .i64 g) := cell_blk KB1.out 1
    clear hb1
    go_wp2
    go_ret3
    exact ⟨rfl, HB1.out⟩
  · have hlb2 : (((s[s.size - 1]'(by omega)).toNat : Int) == 47) = false := by
      rw [hlb]; cases p with | nil => exact absurd rfl hpe | cons => rfl
    have HPT : Hid (parts s.data.toList = parts D ++ [p]) := Lib.hid (by rw [hDp, parts_cut D p hp, full_one hpe])
    have HNM : Hid (nameB (bs p).data.toList = false) := Lib.hid (by rw [bs_list]; exact hn)
    have hpz : (bs p).size ≤ maxLen := by have h8 := congrArg List.length hDp; rw [len_size] at h8; simp at h8; rw [bs_size]; unfold maxLen; omega
    clear hlb hs hw hn hDp hp hpe
    go_enter Tryz.func55, Tryz.ntmps55
    go_wp2_with fail
    refine (l2Whole_is HW.out _ (by omega)).mono ?_
    rintro e w1 ⟨rfl, hb1⟩
    have HB1 := Lib.hid (HB0.out.trans (hb1.mono HB0.out.size))
    have KA1 := Lib.hid ((hb1.block w.heap.size (lt_of_heap KA0.out)).trans KA0.out)
    have KB1 := Lib.hid ((hb1.block (w.heap.size + 1) (lt_of_heap KB0.out)).trans KB0.out)
    have x1a : w1.cell? ⟨w.heap.size, 0, none⟩ = some (.slice o f.nodes.length c) := cell_blk KA1.out 0
    have x1b : w1.cell? ⟨w.heap.size, 1, none⟩ = some (.int .i64 f.room) := cell_blk KA1.out 1
    have y1a : w1.cell? ⟨w.heap.size + 1, 0, none⟩ = some (.int .i64 u) := cell_blk KB1.out 0
    have y1b : w1.cell? ⟨w.heap.size + 1, 1, none⟩ = some (.int .i64 g) := cell_blk KB1.out 1
    clear hb1
    go_wp2_with fail
    refine (l2Parts_any s _ (by omega)).mono ?_
    rintro e w2 ⟨pv, rfl, hL, hb2⟩
    rw [HPT.out] at hL
    obtain ⟨gg, cap, rfl, hlc, hcm, hlast⟩ := lst_last hL
    unfold maxLen at hcm
    have HB2 := Lib.hid (HB1.out.trans (hb2.mono HB1.out.size))
    obtain ⟨x, hx⟩ : ∃ x, x = bs p := ⟨_, rfl⟩
    rw [← hx] at hlast HNM hpz
    clear hb2 hL hx
    go_wp2_with fail
    refine (l2Name_is4 HNM.out hpz).mono ?_
    rintro e w3 ⟨rfl, rfl⟩
    go_wp2
    go_ret3
    exact ⟨rfl, HB2.out⟩
def nmIf (c : Int) (p : List UInt8) : List UInt8 := if c = 0 then p else []
theorem nmIf_not {c : Int} (h : c ≠ 0) (p : List UInt8) : nmIf c p = [] := if_neg h
theorem l4Ahead_is {D p : List UInt8} {s a : ByteArray} {w : World} (hs : s.data.toList = D ++ 47 :: p) (hp : 47 ∉ p) (hz : s.size ≤ 1073741824) (ha : a = bs (aheadS (D ++ [47]))) :
    Calls Tryz.prog 92 #[.string s] w fun e w' => e = .returned (.string a) ∧ Below w.heap.size w w' := by
  rw [ha]; exact l4Ahead_any D p s w hs hp hz
theorem l4Find_is {f : FsD} {v : Value} {u g : Int} {s : ByteArray} {fol : Bool} {w : World} {cd : Int} {nd : Nat} (h : lkFind f.nodes u g s.data.toList fol = (cd, nd)) (hR : FsA w v f) (hF : LookFs f) (hLL : LinkLen f.nodes) (hs : s.size ≤ 1073741824) :
    Calls Tryz.prog 71 #[v, .agg #[.int .i64 u, .int .i64 g], .string s, .bool fol] w fun e w' => e = .returned (.tuple #[.int .i64 (nd : Int), .int .i64 cd]) ∧ Below w.heap.size w w' := by
  have := l4Find_any f v u g s fol w hR hF hLL hs
  rw [h] at this
  exact this
set_option maxHeartbeats 8000000 in
theorem l4Place_good (f : FsD) (v : Value) (u g : Int) (s : ByteArray) (D p : List UInt8) (w : World) (hR : FsA w v f) (hs : szF f ≤ 1048576) (hk : askB4 f u g = true) (hss : s.size ≤ 1048576) (hw : wgB s.data.toList = true) (hDp : s.data.toList = D ++ 47 :: p) (hp : 47 ∉ p) (hn : nameB p = true) :
    Calls Tryz.prog 55 #[v, .agg #[.int .i64 u, .int .i64 g], .string s] w fun e w' => e = .returned (.tuple #[.int .i64 ((dirW f.nodes u g (aheadS (D ++ [47])) 1).2 : Nat), .string (bs (nmIf (dirW f.nodes u g (aheadS (D ++ [47])) 1).1 p)), .int .i64 (dirW f.nodes u g (aheadS (D ++ [47])) 1).1]) ∧ Below w.heap.size w w' := by
  have HR := Lib.hid hR
  obtain ⟨nv, rfl, hN⟩ := hR
  have HN := Lib.hid hN
  obtain ⟨o, c, rfl, hm, hH⟩ := hN
  have HH := Lib.hid hH
  unfold maxLen at hm
  have HS := Lib.hid hs
  have hl : f.nodes.length ≤ 1048576 := (lists_small hs).1
  have HB0 : Hid (Below w.heap.size w ((w.alloc (.cells #[.slice o f.nodes.length c, .int .i64 f.room] 30)).alloc (.cells #[.int .i64 u, .int .i64 g] 34))) := Lib.hid (((Below.refl _ _).alloc (Nat.le_refl _) _).alloc (by simp) _)
  have KA0 := Lib.hid (alloc3_fst' w (.cells #[.slice o f.nodes.length c, .int .i64 f.room] 30) (.cells #[.int .i64 u, .int .i64 g] 34))
  have KB0 := Lib.hid (alloc3_snd' w (.cells #[.slice o f.nodes.length c, .int .i64 f.room] 30) (.cells #[.int .i64 u, .int .i64 g] 34))
  clear hH
  have HK := Lib.hid hk
  have HL := Lib.hid (look_of (ask_good hk) HS.out)
  have HW := Lib.hid hw
  have hsz : D.length + 1 ≤ s.size := by rw [← len_size, hDp]; simp
  have hpe := (name_is4 hn).2.2.2
  have hlb := last_byte (s := s) (by omega)
  rw [hDp, slash_cut D p hp] at hlb
  have hlb2 : (((s[s.size - 1]'(by omega)).toNat : Int) == 47) = false := by
    rw [hlb]; cases p with | nil => exact absurd rfl hpe | cons => rfl
  have HPT : Hid (parts s.data.toList = parts D ++ [p]) := Lib.hid (by rw [hDp, parts_cut D p hp, full_one hpe])
  have HNM : Hid (nameB (bs p).data.toList = true) := Lib.hid (by rw [bs_list]; exact hn)
  have HBL : Hid (bs (baseL s.data.toList) = bs p) := Lib.hid (by rw [hDp, baseL_cut hp hn])
  have hpz : (bs p).size ≤ maxLen := by have h8 := congrArg List.length hDp; rw [len_size] at h8; simp at h8; rw [bs_size]; unfold maxLen; omega
  obtain ⟨t1, t2, t3⟩ := text_ne hpe
  have HDP := Lib.hid hDp
  have HP := Lib.hid hp
  obtain ⟨A, hA⟩ : ∃ A, A = aheadS (D ++ [47]) := ⟨_, rfl⟩
  obtain ⟨a, ha⟩ : ∃ a, a = bs A := ⟨_, rfl⟩
  have HAS : Hid (a = bs (aheadS (D ++ [47]))) := Lib.hid (by rw [ha, hA])
  have hsa : a.size ≤ 1073741824 := by
    obtain ⟨-, j, e⟩ := struck_aheadS (l := D ++ [47]) (by simp)
    rw [← hA] at e
    have := congrArg List.length e
    simp at this
    rw [ha, bs_size]; omega
  rw [← hA]
  obtain ⟨⟨cd, nd⟩, hfd⟩ : ∃ q, lkFind f.nodes u g A true = q := ⟨_, rfl⟩
  have hlt : nd < f.nodes.length := by have h7 := lkFind_lt HL.out.1 u g A true; rw [hfd] at h7; exact h7
  have HFD : Hid (lkFind f.nodes u g a.data.toList true = (cd, nd)) := Lib.hid (by rw [ha, bs_list]; exact hfd)
  obtain ⟨x, hx⟩ : ∃ x, x = bs p := ⟨_, rfl⟩
  have HX := Lib.hid hx
  rw [← hx] at HNM HBL hpz t1 t2 t3
  clear hlb hs hw hn hDp hp hpe hk hA ha
  by_cases hc : cd = 0
  · subst hc
    by_cases hk2 : (nodeAt f.nodes nd).kind = 2
    · have HMO : Hid (inB 0 511 (nodeAt f.nodes nd).mode = true) := Lib.hid (HL.out.1.mode nd hlt (by rw [hk2]; decide))
      obtain ⟨mb, hmb⟩ : ∃ mb, mayB u g (nodeAt f.nodes nd).mode (nodeAt f.nodes nd).uid (nodeAt f.nodes nd).gid 1 = mb := ⟨_, rfl⟩
      have HMB := Lib.hid hmb
      cases mb with
      | true =>
        have HV : Hid (dirW f.nodes u g A 1 = (0, nd)) := Lib.hid (by unfold dirW dirC; rw [hfd]; simp [hk2, hmb])
        clear hfd hmb
        go_enter Tryz.func55, Tryz.ntmps55
        go_wp2_with fail
        refine (l2Whole_is HW.out _ (by omega)).mono ?_
        rintro e w1 ⟨rfl, hb1⟩
        have HB1 := Lib.hid (HB0.out.trans (hb1.mono HB0.out.size))
        have KA1 := Lib.hid ((hb1.block w.heap.size (lt_of_heap KA0.out)).trans KA0.out)
        have KB1 := Lib.hid ((hb1.block (w.heap.size + 1) (lt_of_heap KB0.out)).trans KB0.out)
        have x1a : w1.cell? ⟨w.heap.size, 0, none⟩ = some (.slice o f.nodes.length c) := cell_blk KA1.out 0
        have x1b : w1.cell? ⟨w.heap.size, 1, none⟩ = some (.int .i64 f.room) := cell_blk KA1.out 1
        have y1a : w1.cell? ⟨w.heap.size + 1, 0, none⟩ = some (.int .i64 u) := cell_blk KB1.out 0
        have y1b : w1.cell? ⟨w.heap.size + 1, 1, none⟩ = some (.int .i64 g) := cell_blk KB1.out 1
        clear hb1
        go_wp2_with fail
        refine (l2Parts_any s _ (by omega)).mono ?_
        rintro e w2 ⟨pv, rfl, hL, hb2⟩
        rw [HPT.out] at hL
        obtain ⟨gg, cap, rfl, hlc, hcm, hlast⟩ := lst_last hL
        unfold maxLen at hcm
        have HB2 := Lib.hid (HB1.out.trans (hb2.mono HB1.out.size))
        have KA2 := Lib.hid ((hb2.block w.heap.size (lt_of_heap KA1.out)).trans KA1.out)
        have KB2 := Lib.hid ((hb2.block (w.heap.size + 1) (lt_of_heap KB1.out)).trans KB1.out)
        have x2a : w2.cell? ⟨w.heap.size, 0, none⟩ = some (.slice o f.nodes.length c) := cell_blk KA2.out 0
        have x2b : w2.cell? ⟨w.heap.size, 1, none⟩ = some (.int .i64 f.room) := cell_blk KA2.out 1
        have y2a : w2.cell? ⟨w.heap.size + 1, 0, none⟩ = some (.int .i64 u) := cell_blk KB2.out 0
        have y2b : w2.cell? ⟨w.heap.size + 1, 1, none⟩ = some (.int .i64 g) := cell_blk KB2.out 1
        rw [← hx] at hlast
        clear hb2 hL hx
        go_wp2_with fail
        refine (l2Name_is4 HNM.out hpz).mono ?_
        rintro e w3 ⟨rfl, rfl⟩
        go_wp2_with fail
        refine (l2Last_any s _ (by omega) (by omega)).mono ?_
        rintro e w3 ⟨rfl, hb3⟩
        rw [HBL.out]
        have HB3 := Lib.hid (HB2.out.trans (hb3.mono HB2.out.size))
        have KA3 := Lib.hid ((hb3.block w.heap.size (lt_of_heap KA2.out)).trans KA2.out)
        have KB3 := Lib.hid ((hb3.block (w.heap.size + 1) (lt_of_heap KB2.out)).trans KB2.out)
        have x3a : w3.cell? ⟨w.heap.size, 0, none⟩ = some (.slice o f.nodes.length c) := cell_blk KA3.out 0
        have x3b : w3.cell? ⟨w.heap.size, 1, none⟩ = some (.int .i64 f.room) := cell_blk KA3.out 1
        have y3a : w3.cell? ⟨w.heap.size + 1, 0, none⟩ = some (.int .i64 u) := cell_blk KB3.out 0
        have y3b : w3.cell? ⟨w.heap.size + 1, 1, none⟩ = some (.int .i64 g) := cell_blk KB3.out 1
        clear hb3
        have z0 := fun d os => cell_regrown (w := w3) x3a d os
        have z1 := fun d os => cell_regrown (w := w3) x3b d os
        have z2 := fun d os => cell_regrown (w := w3) y3a d os
        have z3 := fun d os => cell_regrown (w := w3) y3b d os
        have HR3 := Lib.hid (HR.out.below HB3.out)
        go_wp2
        refine wp_region_quiet_below (by kernel_rfl) (by kernel_rfl) ?_
        repeat (first | go_big_quiet_step (first | (go_at_call 92; exact Calls.regrown_of (l4Ahead_is HDP.out HP.out (by omega) HAS.out)) | (go_at_call 71; exact Calls.regrown_of (l4Find_is HFD.out (HR3.out.below (below_regrown _ _ _)) HL.out.1 HL.out.2 hsa))) | quiet_step (first | (go_at_call 92; exact Calls.regrown_of (l4Ahead_is HDP.out HP.out (by omega) HAS.out)) | (go_at_call 71; exact Calls.regrown_of (l4Find_is HFD.out (HR3.out.below (below_regrown _ _ _)) HL.out.1 HL.out.2 hsa))))
        refine wpQuiet_nil ?_
        intro w5 hwq
        have hb5 : Below w3.heap.size w3 w5 := by
          obtain ⟨pp, rfl⟩ := hwq
          exact below_regrown _ _ _
        clear hwq z0 z1 z2 z3
        have HB5 := Lib.hid (HB3.out.trans (hb5.mono HB3.out.size))
        have KA5 := Lib.hid ((hb5.block w.heap.size (lt_of_heap KA3.out)).trans KA3.out)
        have KB5 := Lib.hid ((hb5.block (w.heap.size + 1) (lt_of_heap KB3.out)).trans KB3.out)
        have x5a : w5.cell? ⟨w.heap.size, 0, none⟩ = some (.slice o f.nodes.length c) := cell_blk KA5.out 0
        have x5b : w5.cell? ⟨w.heap.size, 1, none⟩ = some (.int .i64 f.room) := cell_blk KA5.out 1
        have y5a : w5.cell? ⟨w.heap.size + 1, 0, none⟩ = some (.int .i64 u) := cell_blk KB5.out 0
        have y5b : w5.cell? ⟨w.heap.size + 1, 1, none⟩ = some (.int .i64 g) := cell_blk KB5.out 1
        clear hb5
        obtain ⟨g3, f3, lv3, e3, hcc, hee⟩ := nod_cells (c := c) HH.out hlt HB5.out
        obtain ⟨d0, d1, d2, d3, d4, d5, d6⟩ := hcc
        subst e3
        clear hee
        rw [hk2] at d0
        go_wp2_with fail
        refine (l4May_any f _ u g nd 1 _ (HR.out.below HB5.out) hlt HMO.out hl).mono ?_
        rintro e w6 ⟨rfl, hb6⟩
        rw [HMB.out]
        have HB6 := Lib.hid (HB5.out.trans (hb6.mono HB5.out.size))
        clear hb6
        go_wp2
        go_ret3
        exact ⟨by rw [HV.out, HX.out]; rfl, HB6.out⟩
      | false =>
        have HV : Hid (dirW f.nodes u g A 1 = (4, 0)) := Lib.hid (by unfold dirW dirC; rw [hfd]; simp [hk2, hmb])
        clear hfd hmb
        go_enter Tryz.func55, Tryz.ntmps55
        go_wp2_with fail
        refine (l2Whole_is HW.out _ (by omega)).mono ?_
        rintro e w1 ⟨rfl, hb1⟩
        have HB1 := Lib.hid (HB0.out.trans (hb1.mono HB0.out.size))
        have KA1 := Lib.hid ((hb1.block w.heap.size (lt_of_heap KA0.out)).trans KA0.out)
        have KB1 := Lib.hid ((hb1.block (w.heap.size + 1) (lt_of_heap KB0.out)).trans KB0.out)
        have x1a : w1.cell? ⟨w.heap.size, 0, none⟩ = some (.slice o f.nodes.length c) := cell_blk KA1.out 0
        have x1b : w1.cell? ⟨w.heap.size, 1, none⟩ = some (.int .i64 f.room) := cell_blk KA1.out 1
        have y1a : w1.cell? ⟨w.heap.size + 1, 0, none⟩ = some (.int .i64 u) := cell_blk KB1.out 0
        have y1b : w1.cell? ⟨w.heap.size + 1, 1, none⟩ = some (.int .i64 g) := cell_blk KB1.out 1
        clear hb1
        go_wp2_with fail
        refine (l2Parts_any s _ (by omega)).mono ?_
        rintro e w2 ⟨pv, rfl, hL, hb2⟩
        rw [HPT.out] at hL
        obtain ⟨gg, cap, rfl, hlc, hcm, hlast⟩ := lst_last hL
        unfold maxLen at hcm
        have HB2 := Lib.hid (HB1.out.trans (hb2.mono HB1.out.size))
        have KA2 := Lib.hid ((hb2.block w.heap.size (lt_of_heap KA1.out)).trans KA1.out)
        have KB2 := Lib.hid ((hb2.block (w.heap.size + 1) (lt_of_heap KB1.out)).trans KB1.out)
        have x2a : w2.cell? ⟨w.heap.size, 0, none⟩ = some (.slice o f.nodes.length c) := cell_blk KA2.out 0
        have x2b : w2.cell? ⟨w.heap.size, 1, none⟩ = some (.int .i64 f.room) := cell_blk KA2.out 1
        have y2a : w2.cell? ⟨w.heap.size + 1, 0, none⟩ = some (.int .i64 u) := cell_blk KB2.out 0
        have y2b : w2.cell? ⟨w.heap.size + 1, 1, none⟩ = some (.int .i64 g) := cell_blk KB2.out 1
        rw [← hx] at hlast
        clear hb2 hL hx
        go_wp2_with fail
        refine (l2Name_is4 HNM.out hpz).mono ?_
        rintro e w3 ⟨rfl, rfl⟩
        go_wp2_with fail
        refine (l2Last_any s _ (by omega) (by omega)).mono ?_
        rintro e w3 ⟨rfl, hb3⟩
        rw [HBL.out]
        have HB3 := Lib.hid (HB2.out.trans (hb3.mono HB2.out.size))
        have KA3 := Lib.hid ((hb3.block w.heap.size (lt_of_heap KA2.out)).trans KA2.out)
        have KB3 := Lib.hid ((hb3.block (w.heap.size + 1) (lt_of_heap KB2.out)).trans KB2.out)
        have x3a : w3.cell? ⟨w.heap.size, 0, none⟩ = some (.slice o f.nodes.length c) := cell_blk KA3.out 0
        have x3b : w3.cell? ⟨w.heap.size, 1, none⟩ = some (.int .i64 f.room) := cell_blk KA3.out 1
        have y3a : w3.cell? ⟨w.heap.size + 1, 0, none⟩ = some (.int .i64 u) := cell_blk KB3.out 0
        have y3b : w3.cell? ⟨w.heap.size + 1, 1, none⟩ = some (.int .i64 g) := cell_blk KB3.out 1
        clear hb3
        have z0 := fun d os => cell_regrown (w := w3) x3a d os
        have z1 := fun d os => cell_regrown (w := w3) x3b d os
        have z2 := fun d os => cell_regrown (w := w3) y3a d os
        have z3 := fun d os => cell_regrown (w := w3) y3b d os
        have HR3 := Lib.hid (HR.out.below HB3.out)
        go_wp2
        refine wp_region_quiet_below (by kernel_rfl) (by kernel_rfl) ?_
        repeat (first | go_big_quiet_step (first | (go_at_call 92; exact Calls.regrown_of (l4Ahead_is HDP.out HP.out (by omega) HAS.out)) | (go_at_call 71; exact Calls.regrown_of (l4Find_is HFD.out (HR3.out.below (below_regrown _ _ _)) HL.out.1 HL.out.2 hsa))) | quiet_step (first | (go_at_call 92; exact Calls.regrown_of (l4Ahead_is HDP.out HP.out (by omega) HAS.out)) | (go_at_call 71; exact Calls.regrown_of (l4Find_is HFD.out (HR3.out.below (below_regrown _ _ _)) HL.out.1 HL.out.2 hsa))))
        refine wpQuiet_nil ?_
        intro w5 hwq
        have hb5 : Below w3.heap.size w3 w5 := by
          obtain ⟨pp, rfl⟩ := hwq
          exact below_regrown _ _ _
        clear hwq z0 z1 z2 z3
        have HB5 := Lib.hid (HB3.out.trans (hb5.mono HB3.out.size))
        have KA5 := Lib.hid ((hb5.block w.heap.size (lt_of_heap KA3.out)).trans KA3.out)
        have KB5 := Lib.hid ((hb5.block (w.heap.size + 1) (lt_of_heap KB3.out)).trans KB3.out)
        have x5a : w5.cell? ⟨w.heap.size, 0, none⟩ = some (.slice o f.nodes.length c) := cell_blk KA5.out 0
        have x5b : w5.cell? ⟨w.heap.size, 1, none⟩ = some (.int .i64 f.room) := cell_blk KA5.out 1
        have y5a : w5.cell? ⟨w.heap.size + 1, 0, none⟩ = some (.int .i64 u) := cell_blk KB5.out 0
        have y5b : w5.cell? ⟨w.heap.size + 1, 1, none⟩ = some (.int .i64 g) := cell_blk KB5.out 1
        clear hb5
        obtain ⟨g3, f3, lv3, e3, hcc, hee⟩ := nod_cells (c := c) HH.out hlt HB5.out
        obtain ⟨d0, d1, d2, d3, d4, d5, d6⟩ := hcc
        subst e3
        clear hee
        rw [hk2] at d0
        go_wp2_with fail
        refine (l4May_any f _ u g nd 1 _ (HR.out.below HB5.out) hlt HMO.out hl).mono ?_
        rintro e w6 ⟨rfl, hb6⟩
        rw [HMB.out]
        have HB6 := Lib.hid (HB5.out.trans (hb6.mono HB5.out.size))
        clear hb6
        go_wp2
        go_ret3
        exact ⟨by rw [HV.out]; rfl, HB6.out⟩
    · have HV : Hid (dirW f.nodes u g A 1 = (3, 0)) := Lib.hid (by unfold dirW dirC; rw [hfd]; simp [hk2])
      have kb : ((nodeAt f.nodes nd).kind == 2) = false := beq_eq_false_iff_ne.2 hk2
      have kc : ((nodeAt f.nodes nd).kind != 2) = true := by rw [bne_iff_ne]; exact hk2
      clear hfd
      go_enter Tryz.func55, Tryz.ntmps55
      go_wp2_with fail
      refine (l2Whole_is HW.out _ (by omega)).mono ?_
      rintro e w1 ⟨rfl, hb1⟩
      have HB1 := Lib.hid (HB0.out.trans (hb1.mono HB0.out.size))
      have KA1 := Lib.hid ((hb1.block w.heap.size (lt_of_heap KA0.out)).trans KA0.out)
      have KB1 := Lib.hid ((hb1.block (w.heap.size + 1) (lt_of_heap KB0.out)).trans KB0.out)
      have x1a : w1.cell? ⟨w.heap.size, 0, none⟩ = some (.slice o f.nodes.length c) := cell_blk KA1.out 0
      have x1b : w1.cell? ⟨w.heap.size, 1, none⟩ = some (.int .i64 f.room) := cell_blk KA1.out 1
      have y1a : w1.cell? ⟨w.heap.size + 1, 0, none⟩ = some (.int .i64 u) := cell_blk KB1.out 0
      have y1b : w1.cell? ⟨w.heap.size + 1, 1, none⟩ = some (.int .i64 g) := cell_blk KB1.out 1
      clear hb1
      go_wp2_with fail
      refine (l2Parts_any s _ (by omega)).mono ?_
      rintro e w2 ⟨pv, rfl, hL, hb2⟩
      rw [HPT.out] at hL
      obtain ⟨gg, cap, rfl, hlc, hcm, hlast⟩ := lst_last hL
      unfold maxLen at hcm
      have HB2 := Lib.hid (HB1.out.trans (hb2.mono HB1.out.size))
      have KA2 := Lib.hid ((hb2.block w.heap.size (lt_of_heap KA1.out)).trans KA1.out)
      have KB2 := Lib.hid ((hb2.block (w.heap.size + 1) (lt_of_heap KB1.out)).trans KB1.out)
      have x2a : w2.cell? ⟨w.heap.size, 0, none⟩ = some (.slice o f.nodes.length c) := cell_blk KA2.out 0
      have x2b : w2.cell? ⟨w.heap.size, 1, none⟩ = some (.int .i64 f.room) := cell_blk KA2.out 1
      have y2a : w2.cell? ⟨w.heap.size + 1, 0, none⟩ = some (.int .i64 u) := cell_blk KB2.out 0
      have y2b : w2.cell? ⟨w.heap.size + 1, 1, none⟩ = some (.int .i64 g) := cell_blk KB2.out 1
      rw [← hx] at hlast
      clear hb2 hL hx
      go_wp2_with fail
      refine (l2Name_is4 HNM.out hpz).mono ?_
      rintro e w3 ⟨rfl, rfl⟩
      go_wp2_with fail
      refine (l2Last_any s _ (by omega) (by omega)).mono ?_
      rintro e w3 ⟨rfl, hb3⟩
      rw [HBL.out]
      have HB3 := Lib.hid (HB2.out.trans (hb3.mono HB2.out.size))
      have KA3 := Lib.hid ((hb3.block w.heap.size (lt_of_heap KA2.out)).trans KA2.out)
      have KB3 := Lib.hid ((hb3.block (w.heap.size + 1) (lt_of_heap KB2.out)).trans KB2.out)
      have x3a : w3.cell? ⟨w.heap.size, 0, none⟩ = some (.slice o f.nodes.length c) := cell_blk KA3.out 0
      have x3b : w3.cell? ⟨w.heap.size, 1, none⟩ = some (.int .i64 f.room) := cell_blk KA3.out 1
      have y3a : w3.cell? ⟨w.heap.size + 1, 0, none⟩ = some (.int .i64 u) := cell_blk KB3.out 0
      have y3b : w3.cell? ⟨w.heap.size + 1, 1, none⟩ = some (.int .i64 g) := cell_blk KB3.out 1
      clear hb3
      have z0 := fun d os => cell_regrown (w := w3) x3a d os
      have z1 := fun d os => cell_regrown (w := w3) x3b d os
      have z2 := fun d os => cell_regrown (w := w3) y3a d os
      have z3 := fun d os => cell_regrown (w := w3) y3b d os
      have HR3 := Lib.hid (HR.out.below HB3.out)
      go_wp2
      refine wp_region_quiet_below (by kernel_rfl) (by kernel_rfl) ?_
      repeat (first | go_big_quiet_step (first | (go_at_call 92; exact Calls.regrown_of (l4Ahead_is HDP.out HP.out (by omega) HAS.out)) | (go_at_call 71; exact Calls.regrown_of (l4Find_is HFD.out (HR3.out.below (below_regrown _ _ _)) HL.out.1 HL.out.2 hsa))) | quiet_step (first | (go_at_call 92; exact Calls.regrown_of (l4Ahead_is HDP.out HP.out (by omega) HAS.out)) | (go_at_call 71; exact Calls.regrown_of (l4Find_is HFD.out (HR3.out.below (below_regrown _ _ _)) HL.out.1 HL.out.2 hsa))))
      refine wpQuiet_nil ?_
      intro w5 hwq
      have hb5 : Below w3.heap.size w3 w5 := by
        obtain ⟨pp, rfl⟩ := hwq
        exact below_regrown _ _ _
      clear hwq z0 z1 z2 z3
      have HB5 := Lib.hid (HB3.out.trans (hb5.mono HB3.out.size))
      have KA5 := Lib.hid ((hb5.block w.heap.size (lt_of_heap KA3.out)).trans KA3.out)
      have KB5 := Lib.hid ((hb5.block (w.heap.size + 1) (lt_of_heap KB3.out)).trans KB3.out)
      have x5a : w5.cell? ⟨w.heap.size, 0, none⟩ = some (.slice o f.nodes.length c) := cell_blk KA5.out 0
      have x5b : w5.cell? ⟨w.heap.size, 1, none⟩ = some (.int .i64 f.room) := cell_blk KA5.out 1
      have y5a : w5.cell? ⟨w.heap.size + 1, 0, none⟩ = some (.int .i64 u) := cell_blk KB5.out 0
      have y5b : w5.cell? ⟨w.heap.size + 1, 1, none⟩ = some (.int .i64 g) := cell_blk KB5.out 1
      clear hb5
      obtain ⟨g3, f3, lv3, e3, hcc, hee⟩ := nod_cells (c := c) HH.out hlt HB5.out
      obtain ⟨d0, d1, d2, d3, d4, d5, d6⟩ := hcc
      subst e3
      clear hee
      go_wp2
      go_ret3
      exact ⟨by rw [HV.out]; rfl, HB5.out⟩
  · have HV : Hid (dirW f.nodes u g A 1 = (cd, 0)) := Lib.hid (by unfold dirW; rw [hfd]; simp [hc])
    have cb : (cd == 0) = false := beq_eq_false_iff_ne.2 hc
    have cc : (cd != 0) = true := by rw [bne_iff_ne]; exact hc
    have HNC := Lib.hid hc
    clear hfd hc
    go_enter Tryz.func55, Tryz.ntmps55
    go_wp2_with fail
    refine (l2Whole_is HW.out _ (by omega)).mono ?_
    rintro e w1 ⟨rfl, hb1⟩
    have HB1 := Lib.hid (HB0.out.trans (hb1.mono HB0.out.size))
    have KA1 := Lib.hid ((hb1.block w.heap.size (lt_of_heap KA0.out)).trans KA0.out)
    have KB1 := Lib.hid ((hb1.block (w.heap.size + 1) (lt_of_heap KB0.out)).trans KB0.out)
    have x1a : w1.cell? ⟨w.heap.size, 0, none⟩ = some (.slice o f.nodes.length c) := cell_blk KA1.out 0
    have x1b : w1.cell? ⟨w.heap.size, 1, none⟩ = some (.int .i64 f.room) := cell_blk KA1.out 1
    have y1a : w1.cell? ⟨w.heap.size + 1, 0, none⟩ = some (.int .i64 u) := cell_blk KB1.out 0
    have y1b : w1.cell? ⟨w.heap.size + 1, 1, none⟩ = some (.int .i64 g) := cell_blk KB1.out 1
    clear hb1
    go_wp2_with fail
    refine (l2Parts_any s _ (by omega)).mono ?_
    rintro e w2 ⟨pv, rfl, hL, hb2⟩
    rw [HPT.out] at hL
    obtain ⟨gg, cap, rfl, hlc, hcm, hlast⟩ := lst_last hL
    unfold maxLen at hcm
    have HB2 := Lib.hid (HB1.out.trans (hb2.mono HB1.out.size))
    have KA2 := Lib.hid ((hb2.block w.heap.size (lt_of_heap KA1.out)).trans KA1.out)
    have KB2 := Lib.hid ((hb2.block (w.heap.size + 1) (lt_of_heap KB1.out)).trans KB1.out)
    have x2a : w2.cell? ⟨w.heap.size, 0, none⟩ = some (.slice o f.nodes.length c) := cell_blk KA2.out 0
    have x2b : w2.cell? ⟨w.heap.size, 1, none⟩ = some (.int .i64 f.room) := cell_blk KA2.out 1
    have y2a : w2.cell? ⟨w.heap.size + 1, 0, none⟩ = some (.int .i64 u) := cell_blk KB2.out 0
    have y2b : w2.cell? ⟨w.heap.size + 1, 1, none⟩ = some (.int .i64 g) := cell_blk KB2.out 1
    rw [← hx] at hlast
    clear hb2 hL hx
    go_wp2_with fail
    refine (l2Name_is4 HNM.out hpz).mono ?_
    rintro e w3 ⟨rfl, rfl⟩
    go_wp2_with fail
    refine (l2Last_any s _ (by omega) (by omega)).mono ?_
    rintro e w3 ⟨rfl, hb3⟩
    rw [HBL.out]
    have HB3 := Lib.hid (HB2.out.trans (hb3.mono HB2.out.size))
    have KA3 := Lib.hid ((hb3.block w.heap.size (lt_of_heap KA2.out)).trans KA2.out)
    have KB3 := Lib.hid ((hb3.block (w.heap.size + 1) (lt_of_heap KB2.out)).trans KB2.out)
    have x3a : w3.cell? ⟨w.heap.size, 0, none⟩ = some (.slice o f.nodes.length c) := cell_blk KA3.out 0
    have x3b : w3.cell? ⟨w.heap.size, 1, none⟩ = some (.int .i64 f.room) := cell_blk KA3.out 1
    have y3a : w3.cell? ⟨w.heap.size + 1, 0, none⟩ = some (.int .i64 u) := cell_blk KB3.out 0
    have y3b : w3.cell? ⟨w.heap.size + 1, 1, none⟩ = some (.int .i64 g) := cell_blk KB3.out 1
    clear hb3
    have z0 := fun d os => cell_regrown (w := w3) x3a d os
    have z1 := fun d os => cell_regrown (w := w3) x3b d os
    have z2 := fun d os => cell_regrown (w := w3) y3a d os
    have z3 := fun d os => cell_regrown (w := w3) y3b d os
    have HR3 := Lib.hid (HR.out.below HB3.out)
    go_wp2
    refine wp_region_quiet_below (by kernel_rfl) (by kernel_rfl) ?_
    repeat (first | go_big_quiet_step (first | (go_at_call 92; exact Calls.regrown_of (l4Ahead_is HDP.out HP.out (by omega) HAS.out)) | (go_at_call 71; exact Calls.regrown_of (l4Find_is HFD.out (HR3.out.below (below_regrown _ _ _)) HL.out.1 HL.out.2 hsa))) | quiet_step (first | (go_at_call 92; exact Calls.regrown_of (l4Ahead_is HDP.out HP.out (by omega) HAS.out)) | (go_at_call 71; exact Calls.regrown_of (l4Find_is HFD.out (HR3.out.below (below_regrown _ _ _)) HL.out.1 HL.out.2 hsa))))
    refine wpQuiet_nil ?_
    intro w5 hwq
    have hb5 : Below w3.heap.size w3 w5 := by
      obtain ⟨pp, rfl⟩ := hwq
      exact below_regrown _ _ _
    clear hwq z0 z1 z2 z3
    have HB5 := Lib.hid (HB3.out.trans (hb5.mono HB3.out.size))
    have KA5 := Lib.hid ((hb5.block w.heap.size (lt_of_heap KA3.out)).trans KA3.out)
    have KB5 := Lib.hid ((hb5.block (w.heap.size + 1) (lt_of_heap KB3.out)).trans KB3.out)
    have x5a : w5.cell? ⟨w.heap.size, 0, none⟩ = some (.slice o f.nodes.length c) := cell_blk KA5.out 0
    have x5b : w5.cell? ⟨w.heap.size, 1, none⟩ = some (.int .i64 f.room) := cell_blk KA5.out 1
    have y5a : w5.cell? ⟨w.heap.size + 1, 0, none⟩ = some (.int .i64 u) := cell_blk KB5.out 0
    have y5b : w5.cell? ⟨w.heap.size + 1, 1, none⟩ = some (.int .i64 g) := cell_blk KB5.out 1
    clear hb5
    go_wp2
    go_ret3
    exact ⟨by rw [HV.out]; show _ = Ending.returned (.tuple #[.int .i64 ((0 : Nat) : Int), .string (bs (nmIf cd p)), .int .i64 cd]); rw [nmIf_not HNC.out]; rfl, HB5.out⟩
end Go.Proofs.YtjomkjnpflebaaaGreatDoor


/-
  FindPlace of the program and of the model.
  Conditions: at most 2^20 values and letters together; a text of at most 2^20 bytes; the variable errors.errorType as the program's text lays it.
-/
namespace Go.Proofs.YtjomkjnpflebaaaGreatDoor
open Go.ChangeShapes Go.WideShapes Go.ChangeAt Go.RowKit Go.Joins
set_option linter.unusedVariables false
set_option linter.unusedSimpArgs false

def cutP (l : List UInt8) : List UInt8 := (sp l).2
def cutD (l : List UInt8) : List UInt8 := l.take (l.length - (cutP l).length - 1)
theorem cut_is (D p : List UInt8) (hp : 47 ∉ p) : cutP (D ++ 47 :: p) = p ∧ cutD (D ++ 47 :: p) = D := by
  have h1 : cutP (D ++ 47 :: p) = p := by
    unfold cutP
    rw [show D ++ 47 :: p = (D ++ [47]) ++ p by simp, sp_app _ _ (fun c hc h => hp (h ▸ hc)), sp_snoc, spStep, if_pos rfl]
    simp
  refine ⟨h1, ?_⟩
  unfold cutD
  rw [h1]
  have : (D ++ 47 :: p).length - p.length - 1 = D.length := by simp; omega
  rw [this]; simp
theorem whole_mem {l : List UInt8} (h : wholeB l = true) : 47 ∈ l := by
  cases l with
  | nil => simp [wholeB] at h
  | cons c l => simp [wholeB] at h; simp [h]
/-- What FindPlace finds in a file system: a code, a node, a name. -/
def fp0 (ns : List Nod) (u g : Int) (l : List UInt8) : Int × Nat × List UInt8 := if wgB l = true then plF4 ns u g (cutD l) (cutP l) else (1, 0, [])
noncomputable def fpC (f : FsD) (u g : Int) (l : List UInt8) : Int := if askB4 f u g = true then (fp0 f.nodes u g l).1 else 0
noncomputable def fpN (f : FsD) (u g : Int) (l : List UInt8) : Nat := if askB4 f u g = true then (fp0 f.nodes u g l).2.1 else 0
noncomputable def fpS (f : FsD) (u g : Int) (l : List UInt8) : List UInt8 := if askB4 f u g = true then (fp0 f.nodes u g l).2.2 else []
theorem fp0_no {ns : List Nod} {u g : Int} {l : List UInt8} (h : wgB l = false) : fp0 ns u g l = (1, 0, []) := by unfold fp0; rw [if_neg (by rw [h]; decide)]
theorem fp0_cut {ns : List Nod} {u g : Int} {D p : List UInt8} (hp : 47 ∉ p) (h : wgB (D ++ 47 :: p) = true) : fp0 ns u g (D ++ 47 :: p) = if nameB p = true then ((dirW ns u g (aheadL D) 1).1, (dirW ns u g (aheadL D) 1).2, if (dirW ns u g (aheadL D) 1).1 = 0 then p else []) else (1, 0, []) := by
  have hh := h
  unfold wgB at h
  simp only [Bool.and_eq_true] at h
  unfold fp0
  rw [if_pos hh, (cut_is D p hp).1, (cut_is D p hp).2]
  unfold plF4
  by_cases hn : nameB p = true
  · rw [if_pos ⟨⟨h.2, h.1⟩, hn⟩, if_pos hn]
  · rw [if_neg (fun x => hn x.2), if_neg hn]
theorem results_tmp4 {fn : Func} {t u v x : Tmp} (h : fn.results = #[.tmp t, .tmp u, .tmp v, .tmp x]) (tmps : Array Value) (P : Program) (w : World) :
    (results fn tmps).run P w = .ok (.tuple #[tmps.getD t undef, tmps.getD u undef, tmps.getD v undef, tmps.getD x undef]) w := by
  simp [results, h]
theorem nil_bs : (⟨#[]⟩ : ByteArray) = bs [] := rfl
theorem placeAt_any (f : FsD) (v : Value) (u g : Int) (s : ByteArray) (w : World) (hR : FsA w v f) (hs : szF f ≤ 1048576) (hk : askB4 f u g = true) (hss : s.size ≤ 1048576) :
    Calls Tryz.prog 116 #[v, .agg #[.int .i64 u, .int .i64 g], .string s] w fun e w' => ∃ q, e = .returned (.tuple #[.int .i64 ((fp0 f.nodes u g s.data.toList).2.1 : Nat), .string (bs (fp0 f.nodes u g s.data.toList).2.2), errV q (fp0 f.nodes u g s.data.toList).1]) ∧ Below w.heap.size w w' := by
  by_cases hw : wgB s.data.toList = true
  · have hw2 := hw
    unfold wgB at hw2
    simp only [Bool.and_eq_true] at hw2
    obtain ⟨D, p, hDp, hp⟩ := cut_slash _ (whole_mem hw2.1)
    have hwl : wgB (D ++ 47 :: p) = true := by rw [← hDp]; exact hw
    have hfp := fp0_cut (ns := f.nodes) (u := u) (g := g) hp hwl
    rw [hDp, hfp]
    by_cases hn : nameB p = true
    · rw [if_pos hn]
      by_cases hD : D = []
      · subst hD
        refine (placeAt_E f v u g s p w hR hs hk hss hw hDp hp hn).mono ?_
        rintro e w' ⟨rfl, hb⟩
        exact ⟨bs [47], rfl, hb⟩
      · refine (placeAt_D f v u g s D p w hR hs hk hss hw hDp hp hn hD).mono ?_
        rintro e w' ⟨rfl, hb⟩
        have ha : aheadL D = D := if_neg hD
        rw [ha]
        exact ⟨bs D, rfl, hb⟩
    · rw [if_neg hn]
      refine (placeAt_bad f v u g s D p w hR hs hss hw hDp hp (by simpa using hn)).mono ?_
      rintro e w' ⟨rfl, hb⟩
      exact ⟨s, rfl, hb⟩
  · have hw' : wgB s.data.toList = false := by simpa using hw
    rw [fp0_no hw']
    refine (placeAt_no f v u g s w hR hs hss hw').mono ?_
    rintro e w' ⟨rfl, hb⟩
    exact ⟨s, rfl, hb⟩
theorem l4Place_any (f : FsD) (v : Value) (u g : Int) (s : ByteArray) (w : World) (hR : FsA w v f) (hs : szF f ≤ 1048576) (hk : askB4 f u g = true) (hss : s.size ≤ 1048576) :
    Calls Tryz.prog 55 #[v, .agg #[.int .i64 u, .int .i64 g], .string s] w fun e w' => e = .returned (.tuple #[.int .i64 ((fp0 f.nodes u g s.data.toList).2.1 : Nat), .string (bs (fp0 f.nodes u g s.data.toList).2.2), .int .i64 (fp0 f.nodes u g s.data.toList).1]) ∧ Below w.heap.size w w' := by
  by_cases hw : wgB s.data.toList = true
  · have hw2 := hw
    unfold wgB at hw2
    simp only [Bool.and_eq_true] at hw2
    obtain ⟨D, p, hDp, hp⟩ := cut_slash _ (whole_mem hw2.1)
    have hwl : wgB (D ++ 47 :: p) = true := by rw [← hDp]; exact hw
    have hlen : D.length + 1 ≤ 60 := by
      have h1 := hw2.2
      rw [hDp] at h1
      simp [goodB] at h1
      omega
    have hfp := fp0_cut (ns := f.nodes) (u := u) (g := g) hp hwl
    rw [hDp, hfp]
    by_cases hn : nameB p = true
    · rw [if_pos hn]
      refine (l4Place_good f v u g s D p w hR hs hk hss hw hDp hp hn).mono ?_
      rintro e w' ⟨rfl, hb⟩
      rw [struck_dirW hlen (struck_aheadS (by simp))]
      exact ⟨rfl, hb⟩
    · rw [if_neg hn]
      refine (l4Place_bad f v u g s D p w hR hs hss hw hDp hp (by simpa using hn)).mono ?_
      rintro e w' ⟨rfl, hb⟩
      exact ⟨rfl, hb⟩
  · have hw' : wgB s.data.toList = false := by simpa using hw
    rw [fp0_no hw']
    refine (l4Place_no f v u g s w hR hs hss hw').mono ?_
    rintro e w' ⟨rfl, hb⟩
    exact ⟨rfl, hb⟩
theorem placeAt_is {f : FsD} {v : Value} {u g : Int} {s : ByteArray} {w : World} {cd : Int} {nd : Nat} {nm : List UInt8} (h : fp0 f.nodes u g s.data.toList = (cd, nd, nm)) (hR : FsA w v f) (hs : szF f ≤ 1048576) (hk : askB4 f u g = true) (hss : s.size ≤ 1048576) :
    Calls Tryz.prog 116 #[v, .agg #[.int .i64 u, .int .i64 g], .string s] w fun e w' => ∃ q, e = .returned (.tuple #[.int .i64 (nd : Int), .string (bs nm), errV q cd]) ∧ Below w.heap.size w w' := by
  have := placeAt_any f v u g s w hR hs hk hss
  rw [h] at this
  exact this
theorem l4Place_is {f : FsD} {v : Value} {u g : Int} {s : ByteArray} {w : World} {cd : Int} {nd : Nat} {nm : List UInt8} (h : fp0 f.nodes u g s.data.toList = (cd, nd, nm)) (hR : FsA w v f) (hs : szF f ≤ 1048576) (hk : askB4 f u g = true) (hss : s.size ≤ 1048576) :
    Calls Tryz.prog 55 #[v, .agg #[.int .i64 u, .int .i64 g], .string s] w fun e w' => e = .returned (.tuple #[.int .i64 (nd : Int), .string (bs nm), .int .i64 cd]) ∧ Below w.heap.size w w' := by
  have := l4Place_any f v u g s w hR hs hk hss
  rw [h] at this
  exact this

theorem l4Asked_is {f : FsD} {v : Value} {u g : Int} {w : World} {b : Bool} (h : askB4 f u g = b) (hR : FsA w v f) (hs : szF f ≤ 1048576) : Calls Tryz.prog 53 #[v, .agg #[.int .i64 u, .int .i64 g]] w fun e w' => e = .returned (.bool b) ∧ Below w.heap.size w w' := by
  rw [← h]; exact l4Asked_any f v u g w hR hs
end Go.Proofs.YtjomkjnpflebaaaGreatDoor


/-
  Contracts of the laws' own helpers on lists of texts: szStringS, toStringS, eqStringS.
  Conditions: lists of at most 2^20 texts for toStringS; lengths are lengths.
-/
namespace Go.Proofs.YtjomkjnpflebaaaGreatDoor
open Go.ChangeShapes Go.WideShapes Go.ChangeAt Go.RowKit Go.Joins
set_option linter.unusedVariables false

/-- The value reads as a list of texts, wherever it lies. -/
def RdA (w : World) (v : Value) (ps : List (List UInt8)) : Prop :=
  ∃ o c, v = .slice o ps.length c ∧ ps.length ≤ maxLen ∧ ∀ i (h : i < ps.length), ∃ ad : Addr, o = some ad ∧ ad.block < w.heap.size ∧ w.cell? (ad.add i) = some (.string (bs ps[i])) ∧ ps[i].length ≤ maxLen
theorem block_add (a : Addr) (i : Nat) : (a.add i).block = a.block := by unfold Addr.add; split <;> rfl
theorem RdA.below {w w' : World} {v : Value} {ps : List (List UInt8)} (h : RdA w v ps) (hb : Below w.heap.size w w') : RdA w' v ps := by
  obtain ⟨o, c, rfl, hm, hH⟩ := h
  refine ⟨o, c, rfl, hm, fun i hi => ?_⟩
  obtain ⟨ad, e, hg, hc, hl⟩ := hH i hi
  exact ⟨ad, e, Nat.lt_of_lt_of_le hg hb.size, (hb.cell (p := ad.add i) (by rw [block_add]; exact hg)).trans hc, hl⟩

def lens (ps : List (List UInt8)) : Nat := (ps.map List.length).sum
theorem lens_take {ps : List (List UInt8)} {k : Nat} (h : k < ps.length) : lens (ps.take (k + 1)) = lens (ps.take k) + ps[k].length := by
  unfold lens; rw [List.take_succ_eq_append_getElem h]; simp only [List.map_append, List.sum_append, List.map_cons, List.map_nil, List.sum_cons, List.sum_nil, Nat.add_zero]
theorem lens_pre (ps : List (List UInt8)) (k : Nat) : lens (ps.take k) ≤ lens ps := by
  conv => rhs; rw [← List.take_append_drop k ps]
  unfold lens; rw [List.map_append, List.sum_append]; omega

/-- What szStringS gives. -/
def szR (ps : List (List UInt8)) (left : Int) : Int := if (ps.length : Int) + lens ps ≤ left then left - ps.length - lens ps else -1

def zs (n : Nat) : List Value := List.replicate n (.string ⟨#[]⟩)
theorem set_step {ps : List (List UInt8)} {k : Nat} (h : k < ps.length) : (strs (ps.take k) ++ zs (ps.length - k)).set k (.string (bs ps[k])) = strs (ps.take (k + 1)) ++ zs (ps.length - (k + 1)) := by
  have hl : (strs (ps.take k)).length = k := by simp [strs]; omega
  rw [List.set_append_right _ _ (by omega), hl, Nat.sub_self, List.take_succ_eq_append_getElem h]
  obtain ⟨m, hm⟩ : ∃ m, ps.length - k = m + 1 := ⟨ps.length - k - 1, by omega⟩
  have hm2 : ps.length - (k + 1) = m := by omega
  rw [hm, hm2]
  simp only [strs, zs, List.replicate_succ, List.set_cons_zero, List.map_append, List.map_cons, List.map_nil, List.append_assoc, List.cons_append, List.nil_append]
theorem old_at {ps : List (List UInt8)} {k : Nat} (h : k < ps.length) : (strs (ps.take k) ++ zs (ps.length - k))[k]? = some (.string ⟨#[]⟩) := by
  have hl : (strs (ps.take k)).length = k := by simp [strs]; omega
  obtain ⟨m, hm⟩ : ∃ m, ps.length - k = m + 1 := ⟨ps.length - k - 1, by omega⟩
  rw [List.getElem?_append_right (Nat.le_of_eq hl), hl, Nat.sub_self, hm]
  rfl

def eqB (a b : List (List UInt8)) : Bool := decide (a = b)

end Go.Proofs.YtjomkjnpflebaaaGreatDoor


/-
  Contracts of the laws' own helpers markText, markStringS, heldStringS.
  Conditions: marks from 1 to 100000000.
-/
namespace Go.Proofs.YtjomkjnpflebaaaGreatDoor
open Go.ChangeShapes Go.WideShapes Go.ChangeAt Go.RowKit Go.Joins
set_option linter.unusedVariables false

/-- The text whose bytes are these numbers. -/
def strOf (l : List Int) : ByteArray := ⟨(l.map fun n => UInt8.ofNat n.toNat).toArray⟩
theorem strOf_fold : ∀ (l : List Int) (r : ByteArray), l.foldl (fun r n => r.push (UInt8.ofNat n.toNat)) r = r ++ strOf l
  | [], r => by apply ByteArray.ext; simp [strOf]
  | n :: l, r => by
    rw [List.foldl_cons, strOf_fold l]
    apply ByteArray.ext
    simp [strOf, ByteArray.push]
theorem load_new {P : Program} (w : World) (l : List Int) (t : TypeId) :
    (loadCells ⟨w.heap.size, 0, none⟩ l.length).run P (w.alloc (.cells (l.map (Value.int .u8)).toArray t)) = .ok (l.map (Value.int .u8)).toArray (w.alloc (.cells (l.map (Value.int .u8)).toArray t)) := by
  have h := run_loadCells_list (P := P) (w.alloc (.cells (l.map (Value.int .u8)).toArray t)) ⟨w.heap.size, 0, none⟩ (l.map (Value.int .u8)) (fun j v hj => by
    have e : (⟨w.heap.size, 0, none⟩ : Addr).add j = ⟨w.heap.size, j, none⟩ := by
      unfold Addr.add
      split <;> simp_all
    rw [e, World.cell?_alloc_mark]
    simpa using hj)
  simpa using h
/-- string(b) of a new slice of bytes. -/
theorem str_new (w : World) (l : List Int) (cap : Nat) :
    (convert 122 9 (.slice (some ⟨w.heap.size, 0, none⟩) l.length cap)).run Tryz.prog (w.alloc (.cells (l.map (Value.int .u8)).toArray 5)) = .ok (.string (strOf l)) (w.alloc (.cells (l.map (Value.int .u8)).toArray 5)) := by
  rw [run_convert_bytes_string _ 122 9 5 _ _ _ Tryz.underlying122 Tryz.underlying5 Tryz.underlying9, run_bytesToString _ _ _ _ l (load_new w l 5), strOf_fold]
  congr 2
theorem str_new1 (w : World) (a : Int) : (convert 122 9 (.slice (some ⟨w.heap.size, 0, none⟩) 1 1)).run Tryz.prog (w.alloc (.cells #[.int .u8 a] 5)) = .ok (.string (strOf [a])) (w.alloc (.cells #[.int .u8 a] 5)) := str_new w [a] 1

/-- The digits of a number ahead of a text, at most so many. -/
def digsF : Nat → Nat → List UInt8 → List UInt8
  | 0, _, acc => acc
  | f + 1, k, acc => if k = 0 then acc else digsF f (k / 10) (UInt8.ofNat (48 + k % 10) :: acc)
def digs (k : Nat) (acc : List UInt8) : List UInt8 := digsF k k acc
theorem digsF_zero (f : Nat) (acc : List UInt8) : digsF f 0 acc = acc := by cases f <;> simp [digsF]
theorem digsF_step {f k : Nat} (h : k ≠ 0) (acc : List UInt8) : digsF (f + 1) k acc = digsF f (k / 10) (UInt8.ofNat (48 + k % 10) :: acc) := by simp [digsF, h]
def mt (k : Nat) : ByteArray := bs (109 :: digs k [])
theorem str_dig (k : Nat) : strOf [48 + (k : Int) % 10] = bs [UInt8.ofNat (48 + k % 10)] := by
  unfold strOf bs
  have : (48 + (k : Int) % 10).toNat = 48 + k % 10 := by omega
  simp only [List.map_cons, List.map_nil, this]

set_option maxHeartbeats 1000000 in
theorem markText_any (k : Nat) (w : World) (h0 : 1 ≤ k) (h1 : k ≤ 100000000) : Calls Tryz.prog 66 #[.int .i64 k] w fun e w' => e = .returned (.string (mt k)) ∧ Below w.heap.size w w' := by
  have hs := str_new1
  have hk0 : ¬ (k : Int) ≤ 0 := by omega
  go_enter Tryz.func66, Tryz.ntmps66
  go_wp2
  go_loopw [0, 3] (fun j t wr => ∃ (i : Nat) (acc : List UInt8), i ≤ 100000000 ∧ j = .int .i64 i ∧ t = .string (bs acc) ∧ acc.length + i ≤ 200000000 ∧ (∃ f, i ≤ f ∧ digsF f i acc = digs k []) ∧ Below w.heap.size w wr) (fun j _ _ => (intOf j).toNat)
  case atStart => exact ⟨k, [], h1, rfl, rfl, by simp; omega, ⟨k, Nat.le_refl _, rfl⟩, Below.refl _ _⟩
  case round =>
    obtain ⟨i, acc, hi, rfl, rfl, hal, ⟨f, hf, hd⟩, hB⟩ := hrel
    have HD := Lib.hid hd
    clear hd
    by_cases hp : 0 < i
    · obtain ⟨f, rfl⟩ : ∃ g, f = g + 1 := ⟨f - 1, by omega⟩
      have hz : (bs acc).size ≤ 200000000 := by rw [bs_size]; omega
      have HX : Hid (strOf [48 + (i : Int) % 10] ++ bs acc = bs (UInt8.ofNat (48 + i % 10) :: acc)) := Lib.hid (by rw [str_dig, bs_app]; rfl)
      have hz1 : (strOf [48 + (i : Int) % 10]).size = 1 := rfl
      have hp' : 0 < (i : Int) := by omega
      have hr1 : (i : Int) % 10 ≤ 9 := by omega
      have hr0 : 0 ≤ (i : Int) % 10 := by omega
      have hzz : ¬ 9223372036854775807 < (strOf [48 + (i : Int) % 10]).size + (bs acc).size := by omega
      clear hz1
      go_wp2
      go_roundw
      case rel => exact ⟨i / 10, UInt8.ofNat (48 + i % 10) :: acc, by omega, by go_num, by rw [HX.out], by simp; omega, ⟨f, by omega, by rw [← HD.out, digsF_step (k := i) (by omega)]⟩, hB.alloc hB.size _⟩
      case measure => simp [intOf]; omega
    · obtain rfl : i = 0 := by omega
      have HE : Hid (acc = digs k []) := Lib.hid (by rw [← HD.out, digsF_zero])
      have hz : (bs acc).size ≤ 200000000 := by rw [bs_size]; omega
      go_wp2
      go_ret
      refine ⟨ret_str ?_, hB⟩
      unfold mt
      rw [← HE.out]
      exact bs_app [109] acc

theorem mark_set {ps : List (List UInt8)} {k m : Nat} (h : k < ps.length) : ((List.range k).map (fun j => Value.string (mt (m + j))) ++ strs (ps.drop k)).set k (.string (mt (m + k))) = (List.range (k + 1)).map (fun j => Value.string (mt (m + j))) ++ strs (ps.drop (k + 1)) := by
  have hl : ((List.range k).map (fun j => Value.string (mt (m + j)))).length = k := by simp
  rw [List.set_append_right _ _ (Nat.le_of_eq hl), hl, Nat.sub_self, List.drop_eq_getElem_cons h, List.range_succ]
  simp only [strs, List.map_cons, List.set_cons_zero, List.map_append, List.map_nil, List.append_assoc, List.cons_append, List.nil_append]
theorem mark_old {ps : List (List UInt8)} {k m : Nat} (h : k < ps.length) : ((List.range k).map (fun j => Value.string (mt (m + j))) ++ strs (ps.drop k))[k]? = some (.string (bs ps[k])) := by
  have hl : ((List.range k).map (fun j => Value.string (mt (m + j)))).length = k := by simp
  rw [List.getElem?_append_right (Nat.le_of_eq hl), hl, Nat.sub_self, List.drop_eq_getElem_cons h]
  rfl

/-- A row of marks, from m on. -/
def marks (m n : Nat) : List (List UInt8) := (List.range n).map fun j => 109 :: digs (m + j) []
theorem strs_marks (m n : Nat) : strs (marks m n) = (List.range n).map (fun j => Value.string (mt (m + j))) := by
  unfold strs marks mt; rw [List.map_map]; rfl
theorem marks_len (m n : Nat) : (marks m n).length = n := by simp [marks]
theorem marks_at (m n k : Nat) (h : k < (marks m n).length) : (marks m n)[k] = 109 :: digs (m + k) [] := by simp [marks]

theorem below_drewN {w w1 : World} {B : Nat} (h : Below B w w1) (n : Nat) : Below B w (w1.drewN n) := ⟨h.os, h.tape, h.output, h.size, h.block⟩

theorem lst_below {w w' : World} {B : Nat} {v : Value} {ps : List (List UInt8)} (h : Lst w B v ps) (hb : Below w.heap.size w w') : Lst w' B v ps := by
  refine World.ownsRow.kept h (row := none) ⟨hb.os, hb.tape, hb.output, hb.size, fun i hi _ => hb.block i hi⟩ ?_
  rcases h.2 with ⟨rfl, _⟩ | ⟨g, cap, cur, rfl, _⟩
  · exact .inl rfl
  · exact .inr (by simp [Value.ownBlock])
end Go.Proofs.YtjomkjnpflebaaaGreatDoor
