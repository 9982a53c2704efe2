/-
  Joined: PlaceD PlaceE HelpC MarkC MarkF.
  Conditions: as each states.
-/
import Derived.Laws.OwnMore
import Derived.Deep.QuietTactic
import Derived.BigQuiet
import Derived.Laws.BytesString
import Derived.Laws.IdiomStrings
import Derived.Lib.QuietBelow
import Derived.Test.YtknhacblialboaaGreatDoorLib1
import Derived.Test.YtknhacblialboaaGreatDoorLib4
import Derived.Test.YtknhacblialboaaGreatDoorLib15
import Derived.Test.YtknhacblialboaaGreatDoorLib16
namespace Go.Proofs.YtknhacblialboaaGreatDoor
open Go.ChangeShapes Go.WideShapes Go.ChangeAt Go.RowKit Go.Joins
set_option linter.unusedVariables false
set_option linter.unusedSimpArgs false
set_option maxHeartbeats 16000000
def Struck (l A : List UInt8) : Prop := A ≠ [] ∧ ∃ j, l = A ++ List.replicate j 47
def stripR : List UInt8 → List UInt8
 | a :: c :: r => if a = 47 then stripR (c :: r) else a :: c :: r
 | l => l
def aheadS (l : List UInt8) : List UInt8 := (stripR l.reverse).reverse
theorem stripR_is : ∀ r : List UInt8, r ≠ [] → stripR r ≠ [] ∧ ∃ j, r = List.replicate j 47 ++ stripR r
 | [], h => absurd rfl h
 | [a], _ => ⟨by simp [stripR], 0, by simp [stripR]⟩
 | a :: c :: r, _ => by
   obtain ⟨h1, j, e⟩ := stripR_is (c :: r) (by simp)
   by_cases ha : a = 47
   · have hs : stripR (a :: c :: r) = stripR (c :: r) := by rw [stripR, if_pos ha]
     refine ⟨by rw [hs]; exact h1, j + 1, ?_⟩
     rw [hs, List.replicate_succ, List.cons_append, ← e, ha]
   · have hs : stripR (a :: c :: r) = a :: c :: r := by rw [stripR, if_neg ha]
     exact ⟨by rw [hs]; simp, 0, by rw [hs]; rfl⟩
theorem struck_aheadS {l : List UInt8} (h : l ≠ []) : Struck l (aheadS l) := by
 obtain ⟨h1, j, e⟩ := stripR_is l.reverse (by simpa using h)
 refine ⟨by unfold aheadS; simpa using h1, j, ?_⟩
 have := congrArg List.reverse e
 rw [List.reverse_reverse, List.reverse_append, List.reverse_replicate] at this
 exact this
theorem aheadS_less {A : List UInt8} {c : UInt8} (hc : c = 47) (hA : A ≠ []) : aheadS (A ++ [c]) = aheadS A := by
 unfold aheadS
 rw [List.reverse_append]
 cases hr : A.reverse with
 | nil => exact absurd (List.reverse_eq_nil_iff.1 hr) hA
 | cons d r =>
   show (stripR (c :: d :: r)).reverse = _
   rw [stripR, if_pos hc]
theorem aheadS_stay {A : List UInt8} {c : UInt8} (hc : c ≠ 47) : aheadS (A ++ [c]) = A ++ [c] := by
 unfold aheadS
 rw [List.reverse_append]
 cases hr : A.reverse with
 | nil =>
   have := List.reverse_eq_nil_iff.1 hr
   subst this; rfl
 | cons d r =>
   show (stripR (c :: d :: r)).reverse = _
   rw [stripR, if_neg hc, ← hr]; simp
theorem l4Ahead_any (D p : List UInt8) (s : ByteArray) (w : World) (hs : s.data.toList = D ++ 47 :: p) (hp : 47 ∉ p) (hz : s.size ≤ 1073741824) :
   Calls Tryz.prog 104 #[.string s] w fun e w' => e = .returned (.string (bs (aheadS (D ++ [47])))) ∧ Below w.heap.size w w' := by
 have HA := qhZ (byte_at hs hp)
 have hsz : s.size = D.length + 1 + p.length := by rw [← aW9, hs]; simp; omega
 have HT : Hid (s.data.toList.take (D.length + 1) = D ++ [47]) := qhZ (by rw [hs, show D ++ 47 :: p = (D ++ [47]) ++ p by simp, List.take_left' (by simp)])
 clear hs hp
 go_enter Tryz.func104, Tryz.ntmps104
 go_wp2
 go_loop [3] (fun i => ∃ m : Nat, D.length ≤ m ∧ m < s.size ∧ i = .int .i64 ((m + 1 : Nat) : Int)) (fun i => (intOf i).toNat)
 case atStart => exact ⟨s.size - 1, by omega, by omega, by congr 1; omega⟩
 case round =>
   obtain ⟨m, hm0, hm1, rfl⟩ := hrel
   obtain ⟨h1, h2⟩ := HA.out m hm1
   have hi : ((m + 1 : Nat) : Int) - 1 = (m : Int) := by omega
   by_cases hmD : m = D.length
   · have h47 := h2 hmD
     have h47b : (((s[m]'hm1).toNat : Int) != 47) = false := by rw [h47]; rfl
     subst hmD
     clear h1 h2
     go_wp2
     go_loop [3] (fun i => ∃ m : Nat, m ≤ D.length ∧ aheadS (s.data.toList.take (m + 1)) = aheadS (D ++ [47]) ∧ i = .int .i64 ((m + 1 : Nat) : Int)) (fun i => (intOf i).toNat)
     case atStart => exact ⟨D.length, Nat.le_refl _, by rw [HT.out], rfl⟩
     case round =>
       obtain ⟨k, hk, hS, rfl⟩ := hrel
       have HST := qhZ hS
       clear hS
       have hks : k < s.size := by omega
       have hcut := qhZ (bs_ext s 0 (k + 1))
       by_cases hk1 : 1 ≤ k
       · have hi2 : ((k + 1 : Nat) : Int) - 1 = (k : Int) := by omega
         by_cases hb : (s[k]'hks) = 47
         · have HLESS : Hid (aheadS (s.data.toList.take k) = aheadS (D ++ [47])) := qhZ (by
             have h9 := HST.out
             rw [take_snoc' s k hks, aheadS_less hb] at h9
             · exact h9
             · intro h0
               have := congrArg List.length h0
               simp only [List.length_take, aW9, List.length_nil] at this
               omega)
           have hb1 : (((s[k]'hks).toNat : Int) == 47) = true := by rw [hb]; rfl
           go_wp2
           go_round
           case rel => exact ⟨k - 1, by omega, by rw [show k - 1 + 1 = k by omega]; exact HLESS.out, by congr 1; omega⟩
           case measure => (simp [intOf]) <;> omega
         · have hb2 : (((s[k]'hks).toNat : Int) == 47) = false := by
             rw [beq_eq_false_iff_ne]
             intro h
             exact hb (UInt8.toNat_inj.1 (by rw [show (47 : UInt8).toNat = 47 from rfl]; omega))
           have HE : Hid (s.data.toList.take (k + 1) = aheadS (D ++ [47])) := qhZ (by
             have h9 := HST.out
             rw [take_snoc' s k hks, aheadS_stay hb] at h9
             rw [take_snoc' s k hks]; exact h9)
           go_wp2
           go_ret
           exact ⟨by rw [← HE.out, hcut.out]; simp, Below.refl _ _⟩
       · obtain rfl : k = 0 := by omega
         have HE : Hid (s.data.toList.take (0 + 1) = aheadS (D ++ [47])) := qhZ (by
           have h9 := HST.out
           rw [take_snoc' s 0 hks] at h9 ⊢
           exact h9)
         go_wp2
         go_ret
         exact ⟨by rw [← HE.out, hcut.out]; simp, Below.refl _ _⟩
   · have hgt : D.length < m := by omega
     have hne := h1 hgt
     have hne2 : (((s[m]'hm1).toNat : Int) != 47) = true := by rw [bne_iff_ne]; omega
     clear h1 h2
     go_wp2
     go_round
     case rel => exact ⟨m - 1, by omega, by omega, by congr 1; omega⟩
     case measure => (simp [intOf]) <;> omega
theorem struck_dirW {ns : List Nod} {u g : Int} {D A : List UInt8} {want : Int} (hl : D.length + 1 ≤ 60) (h : Struck (D ++ [47]) A) : dirW ns u g A want = dirW ns u g (aheadL D) want := by
 obtain ⟨h1, j, e⟩ := h
 have hlen := congrArg List.length e
 simp at hlen
 rw [← dirW_slashes j A (by omega) h1, ← e]
 unfold aheadL
 by_cases hD : D = []
 · rw [if_pos hD, hD]; rfl
 · rw [if_neg hD, dirW_slash (by omega) hD]
theorem l2Name_is4 {s : ByteArray} {b : Bool} {w : World} (h : nameB s.data.toList = b) (hs : s.size ≤ maxLen) : Calls Tryz.prog 77 #[.string s] w fun e w' => e = .returned (.bool b) ∧ w = w' := by
 rw [← h]; exact l2Name_any s w hs
theorem last_byte {s : ByteArray} (h : 0 < s.size) : (((s[s.size - 1]'(by omega)).toNat : Int) == 47) = slashB s.data.toList := by
 rw [slash_at h, Bool.eq_iff_iff]
 simp only [beq_iff_eq, decide_eq_true_eq]
 constructor
 · intro h; exact UInt8.toNat_inj.1 (by rw [show (47 : UInt8).toNat = 47 from rfl]; omega)
 · intro h; rw [h]; rfl
theorem baseL_cut {D p : List UInt8} (hp : 47 ∉ p) (hn : nameB p = true) : baseL (D ++ 47 :: p) = p := by
 obtain ⟨h1, h2, h3, h4⟩ := name_is4 hn
 rw [baseL_snoc (qs := clean (wholeB (D ++ 47 :: p)) (parts D)) (p := p) (base_cut hp hn), if_neg h3]
theorem l4Place_no (f : FsD) (v : Value) (u g : Int) (s : ByteArray) (w : World) (hR : FsA w v f) (hs : szF f ≤ 1048576) (hss : s.size ≤ 1048576) (hw : wgB s.data.toList = false) :
   Calls Tryz.prog 62 #[v, .agg #[.int .i64 u, .int .i64 g], .string s] w fun e w' => e = .returned (.tuple #[.int .i64 0, .string ⟨#[]⟩, .int .i64 1]) ∧ Below w.heap.size w w' := by
 have HR := qhZ hR
 obtain ⟨nv, rfl, hN⟩ := hR
 have HN := qhZ hN
 obtain ⟨o, c, rfl, hm, hH⟩ := hN
 unfold maxLen at hm
 have HS := qhZ hs
 have hl : f.nodes.length ≤ 1048576 := (aG9 hs).1
 have HB0 : Hid (Below w.heap.size w ((w.alloc (.cells #[.slice o f.nodes.length c, .int .i64 f.room] 30)).alloc (.cells #[.int .i64 u, .int .i64 g] 34))) := qhZ (((Below.refl _ _).alloc (Nat.le_refl _) _).alloc (by simp) _)
 have KA0 := qhZ (alloc3_fst' w (.cells #[.slice o f.nodes.length c, .int .i64 f.room] 30) (.cells #[.int .i64 u, .int .i64 g] 34))
 have KB0 := qhZ (alloc3_snd' w (.cells #[.slice o f.nodes.length c, .int .i64 f.room] 30) (.cells #[.int .i64 u, .int .i64 g] 34))
 clear hH
 have HW := qhZ hw
 clear hs hw
 go_enter Tryz.func62, Tryz.ntmps62
 go_wp2_with fail
 refine (l2Whole_is HW.out _ (by omega)).mono ?_
 rintro e w1 ⟨rfl, hb1⟩
 have HB1 := qhZ (HB0.out.trans (hb1.mono HB0.out.size))
 have KA1 := qhZ ((hb1.block w.heap.size (aB9 KA0.out)).trans KA0.out)
 have KB1 := qhZ ((hb1.block (w.heap.size + 1) (aB9 KB0.out)).trans KB0.out)
 have x1a : w1.cell? ⟨w.heap.size, 0, none⟩ = some (.slice o f.nodes.length c) := aA9 KA1.out 0
 have x1b : w1.cell? ⟨w.heap.size, 1, none⟩ = some (.int .i64 f.room) := aA9 KA1.out 1
 have y1a : w1.cell? ⟨w.heap.size + 1, 0, none⟩ = some (.int .i64 u) := aA9 KB1.out 0
 have y1b : w1.cell? ⟨w.heap.size + 1, 1, none⟩ = some (.int .i64 g) := aA9 KB1.out 1
 clear hb1
 go_wp2
 go_ret3
 exact ⟨rfl, HB1.out⟩
theorem l4Place_bad (f : FsD) (v : Value) (u g : Int) (s : ByteArray) (D p : List UInt8) (w : World) (hR : FsA w v f) (hs : szF f ≤ 1048576) (hss : s.size ≤ 1048576) (hw : wgB s.data.toList = true) (hDp : s.data.toList = D ++ 47 :: p) (hp : 47 ∉ p) (hn : nameB p = false) :
   Calls Tryz.prog 62 #[v, .agg #[.int .i64 u, .int .i64 g], .string s] w fun e w' => e = .returned (.tuple #[.int .i64 0, .string ⟨#[]⟩, .int .i64 1]) ∧ Below w.heap.size w w' := by
 have HR := qhZ hR
 obtain ⟨nv, rfl, hN⟩ := hR
 have HN := qhZ hN
 obtain ⟨o, c, rfl, hm, hH⟩ := hN
 unfold maxLen at hm
 have HS := qhZ hs
 have hl : f.nodes.length ≤ 1048576 := (aG9 hs).1
 have HB0 : Hid (Below w.heap.size w ((w.alloc (.cells #[.slice o f.nodes.length c, .int .i64 f.room] 30)).alloc (.cells #[.int .i64 u, .int .i64 g] 34))) := qhZ (((Below.refl _ _).alloc (Nat.le_refl _) _).alloc (by simp) _)
 have KA0 := qhZ (alloc3_fst' w (.cells #[.slice o f.nodes.length c, .int .i64 f.room] 30) (.cells #[.int .i64 u, .int .i64 g] 34))
 have KB0 := qhZ (alloc3_snd' w (.cells #[.slice o f.nodes.length c, .int .i64 f.room] 30) (.cells #[.int .i64 u, .int .i64 g] 34))
 clear hH
 have HW := qhZ hw
 have hsz : D.length + 1 ≤ s.size := by rw [← aW9, hDp]; simp
 have hlb := last_byte (s := s) (by omega)
 rw [hDp, slash_cut D p hp] at hlb
 by_cases hpe : p = []
 · subst hpe
   have hlb2 : (((s[s.size - 1]'(by omega)).toNat : Int) == 47) = true := hlb
   clear hlb hs hw hn hDp hp
   go_enter Tryz.func62, Tryz.ntmps62
   go_wp2_with fail
   refine (l2Whole_is HW.out _ (by omega)).mono ?_
   rintro e w1 ⟨rfl, hb1⟩
   have HB1 := qhZ (HB0.out.trans (hb1.mono HB0.out.size))
   have KA1 := qhZ ((hb1.block w.heap.size (aB9 KA0.out)).trans KA0.out)
   have KB1 := qhZ ((hb1.block (w.heap.size + 1) (aB9 KB0.out)).trans KB0.out)
   have x1a : w1.cell? ⟨w.heap.size, 0, none⟩ = some (.slice o f.nodes.length c) := aA9 KA1.out 0
   have x1b : w1.cell? ⟨w.heap.size, 1, none⟩ = some (.int .i64 f.room) := aA9 KA1.out 1
   have y1a : w1.cell? ⟨w.heap.size + 1, 0, none⟩ = some (.int .i64 u) := aA9 KB1.out 0
   have y1b : w1.cell? ⟨w.heap.size + 1, 1, none⟩ = some (.int .i64 g) := aA9 KB1.out 1
   clear hb1
   go_wp2
   go_ret3
   exact ⟨rfl, HB1.out⟩
 · have hlb2 : (((s[s.size - 1]'(by omega)).toNat : Int) == 47) = false := by
     rw [hlb]; cases p with | nil => exact absurd rfl hpe | cons => rfl
   have HPT : Hid (parts s.data.toList = parts D ++ [p]) := qhZ (by rw [hDp, parts_cut D p hp, full_one hpe])
   have HNM : Hid (nameB (bs p).data.toList = false) := qhZ (by rw [aY9]; exact hn)
   have hpz : (bs p).size ≤ maxLen := by have h8 := congrArg List.length hDp; rw [aW9] at h8; simp at h8; rw [bs_size]; unfold maxLen; omega
   clear hlb hs hw hn hDp hp hpe
   go_enter Tryz.func62, Tryz.ntmps62
   go_wp2_with fail
   refine (l2Whole_is HW.out _ (by omega)).mono ?_
   rintro e w1 ⟨rfl, hb1⟩
   have HB1 := qhZ (HB0.out.trans (hb1.mono HB0.out.size))
   have KA1 := qhZ ((hb1.block w.heap.size (aB9 KA0.out)).trans KA0.out)
   have KB1 := qhZ ((hb1.block (w.heap.size + 1) (aB9 KB0.out)).trans KB0.out)
   have x1a : w1.cell? ⟨w.heap.size, 0, none⟩ = some (.slice o f.nodes.length c) := aA9 KA1.out 0
   have x1b : w1.cell? ⟨w.heap.size, 1, none⟩ = some (.int .i64 f.room) := aA9 KA1.out 1
   have y1a : w1.cell? ⟨w.heap.size + 1, 0, none⟩ = some (.int .i64 u) := aA9 KB1.out 0
   have y1b : w1.cell? ⟨w.heap.size + 1, 1, none⟩ = some (.int .i64 g) := aA9 KB1.out 1
   clear hb1
   go_wp2_with fail
   refine (l2Parts_any s _ (by omega)).mono ?_
   rintro e w2 ⟨pv, rfl, hL, hb2⟩
   rw [HPT.out] at hL
   obtain ⟨gg, cap, rfl, hlc, hcm, hlast⟩ := lst_last hL
   unfold maxLen at hcm
   have HB2 := qhZ (HB1.out.trans (hb2.mono HB1.out.size))
   obtain ⟨x, hx⟩ : ∃ x, x = bs p := ⟨_, rfl⟩
   rw [← hx] at hlast HNM hpz
   clear hb2 hL hx
   go_wp2_with fail
   refine (l2Name_is4 HNM.out hpz).mono ?_
   rintro e w3 ⟨rfl, rfl⟩
   go_wp2
   go_ret3
   exact ⟨rfl, HB2.out⟩
def nmIf (c : Int) (p : List UInt8) : List UInt8 := if c = 0 then p else []
theorem nmIf_not {c : Int} (h : c ≠ 0) (p : List UInt8) : nmIf c p = [] := if_neg h
theorem l4Ahead_is {D p : List UInt8} {s a : ByteArray} {w : World} (hs : s.data.toList = D ++ 47 :: p) (hp : 47 ∉ p) (hz : s.size ≤ 1073741824) (ha : a = bs (aheadS (D ++ [47]))) :
   Calls Tryz.prog 104 #[.string s] w fun e w' => e = .returned (.string a) ∧ Below w.heap.size w w' := by
 rw [ha]; exact l4Ahead_any D p s w hs hp hz
theorem l4Find_is {f : FsD} {v : Value} {u g : Int} {s : ByteArray} {fol : Bool} {w : World} {cd : Int} {nd : Nat} (h : bK9 f.nodes u g s.data.toList fol = (cd, nd)) (hR : FsA w v f) (hF : LookFs f) (hLL : LinkLen f.nodes) (hs : s.size ≤ 1073741824) :
   Calls Tryz.prog 78 #[v, .agg #[.int .i64 u, .int .i64 g], .string s, .bool fol] w fun e w' => e = .returned (.tuple #[.int .i64 (nd : Int), .int .i64 cd]) ∧ Below w.heap.size w w' := by
 have := l4Find_any f v u g s fol w hR hF hLL hs
 rw [h] at this
 exact this
theorem l4Place_good (f : FsD) (v : Value) (u g : Int) (s : ByteArray) (D p : List UInt8) (w : World) (hR : FsA w v f) (hs : szF f ≤ 1048576) (hk : bC9 f u g = true) (hss : s.size ≤ 1048576) (hw : wgB s.data.toList = true) (hDp : s.data.toList = D ++ 47 :: p) (hp : 47 ∉ p) (hn : nameB p = true) :
   Calls Tryz.prog 62 #[v, .agg #[.int .i64 u, .int .i64 g], .string s] w fun e w' => e = .returned (.tuple #[.int .i64 ((dirW f.nodes u g (aheadS (D ++ [47])) 1).2 : Nat), .string (bs (nmIf (dirW f.nodes u g (aheadS (D ++ [47])) 1).1 p)), .int .i64 (dirW f.nodes u g (aheadS (D ++ [47])) 1).1]) ∧ Below w.heap.size w w' := by
 have HR := qhZ hR
 obtain ⟨nv, rfl, hN⟩ := hR
 have HN := qhZ hN
 obtain ⟨o, c, rfl, hm, hH⟩ := hN
 have HH := qhZ hH
 unfold maxLen at hm
 have HS := qhZ hs
 have hl : f.nodes.length ≤ 1048576 := (aG9 hs).1
 have HB0 : Hid (Below w.heap.size w ((w.alloc (.cells #[.slice o f.nodes.length c, .int .i64 f.room] 30)).alloc (.cells #[.int .i64 u, .int .i64 g] 34))) := qhZ (((Below.refl _ _).alloc (Nat.le_refl _) _).alloc (by simp) _)
 have KA0 := qhZ (alloc3_fst' w (.cells #[.slice o f.nodes.length c, .int .i64 f.room] 30) (.cells #[.int .i64 u, .int .i64 g] 34))
 have KB0 := qhZ (alloc3_snd' w (.cells #[.slice o f.nodes.length c, .int .i64 f.room] 30) (.cells #[.int .i64 u, .int .i64 g] 34))
 clear hH
 have HK := qhZ hk
 have HL := qhZ (look_of (bN9 hk) HS.out)
 have HW := qhZ hw
 have hsz : D.length + 1 ≤ s.size := by rw [← aW9, hDp]; simp
 have hpe := (name_is4 hn).2.2.2
 have hlb := last_byte (s := s) (by omega)
 rw [hDp, slash_cut D p hp] at hlb
 have hlb2 : (((s[s.size - 1]'(by omega)).toNat : Int) == 47) = false := by
   rw [hlb]; cases p with | nil => exact absurd rfl hpe | cons => rfl
 have HPT : Hid (parts s.data.toList = parts D ++ [p]) := qhZ (by rw [hDp, parts_cut D p hp, full_one hpe])
 have HNM : Hid (nameB (bs p).data.toList = true) := qhZ (by rw [aY9]; exact hn)
 have HBL : Hid (bs (baseL s.data.toList) = bs p) := qhZ (by rw [hDp, baseL_cut hp hn])
 have hpz : (bs p).size ≤ maxLen := by have h8 := congrArg List.length hDp; rw [aW9] at h8; simp at h8; rw [bs_size]; unfold maxLen; omega
 obtain ⟨t1, t2, t3⟩ := text_ne hpe
 have HDP := qhZ hDp
 have HP := qhZ hp
 obtain ⟨A, hA⟩ : ∃ A, A = aheadS (D ++ [47]) := ⟨_, rfl⟩
 obtain ⟨a, ha⟩ : ∃ a, a = bs A := ⟨_, rfl⟩
 have HAS : Hid (a = bs (aheadS (D ++ [47]))) := qhZ (by rw [ha, hA])
 have hsa : a.size ≤ 1073741824 := by
   obtain ⟨-, j, e⟩ := struck_aheadS (l := D ++ [47]) (by simp)
   rw [← hA] at e
   have := congrArg List.length e
   simp at this
   rw [ha, bs_size]; omega
 rw [← hA]
 obtain ⟨⟨cd, nd⟩, hfd⟩ : ∃ q, bK9 f.nodes u g A true = q := ⟨_, rfl⟩
 have hlt : nd < f.nodes.length := by have h7 := lkFind_lt HL.out.1 u g A true; rw [hfd] at h7; exact h7
 have HFD : Hid (bK9 f.nodes u g a.data.toList true = (cd, nd)) := qhZ (by rw [ha, aY9]; exact hfd)
 obtain ⟨x, hx⟩ : ∃ x, x = bs p := ⟨_, rfl⟩
 have HX := qhZ hx
 rw [← hx] at HNM HBL hpz t1 t2 t3
 clear hlb hs hw hn hDp hp hpe hk hA ha
 by_cases hc : cd = 0
 · subst hc
   by_cases hk2 : (aC9 f.nodes nd).kind = 2
   · have HMO : Hid (inB 0 511 (aC9 f.nodes nd).mode = true) := qhZ (HL.out.1.mode nd hlt (by rw [hk2]; decide))
     obtain ⟨mb, hmb⟩ : ∃ mb, mayB u g (aC9 f.nodes nd).mode (aC9 f.nodes nd).uid (aC9 f.nodes nd).gid 1 = mb := ⟨_, rfl⟩
     have HMB := qhZ hmb
     cases mb with
     | true =>
       have HV : Hid (dirW f.nodes u g A 1 = (0, nd)) := qhZ (by unfold dirW dirC; rw [hfd]; simp [hk2, hmb])
       clear hfd hmb
       go_enter Tryz.func62, Tryz.ntmps62
       go_wp2_with fail
       refine (l2Whole_is HW.out _ (by omega)).mono ?_
       rintro e w1 ⟨rfl, hb1⟩
       have HB1 := qhZ (HB0.out.trans (hb1.mono HB0.out.size))
       have KA1 := qhZ ((hb1.block w.heap.size (aB9 KA0.out)).trans KA0.out)
       have KB1 := qhZ ((hb1.block (w.heap.size + 1) (aB9 KB0.out)).trans KB0.out)
       have x1a : w1.cell? ⟨w.heap.size, 0, none⟩ = some (.slice o f.nodes.length c) := aA9 KA1.out 0
       have x1b : w1.cell? ⟨w.heap.size, 1, none⟩ = some (.int .i64 f.room) := aA9 KA1.out 1
       have y1a : w1.cell? ⟨w.heap.size + 1, 0, none⟩ = some (.int .i64 u) := aA9 KB1.out 0
       have y1b : w1.cell? ⟨w.heap.size + 1, 1, none⟩ = some (.int .i64 g) := aA9 KB1.out 1
       clear hb1
       go_wp2_with fail
       refine (l2Parts_any s _ (by omega)).mono ?_
       rintro e w2 ⟨pv, rfl, hL, hb2⟩
       rw [HPT.out] at hL
       obtain ⟨gg, cap, rfl, hlc, hcm, hlast⟩ := lst_last hL
       unfold maxLen at hcm
       have HB2 := qhZ (HB1.out.trans (hb2.mono HB1.out.size))
       have KA2 := qhZ ((hb2.block w.heap.size (aB9 KA1.out)).trans KA1.out)
       have KB2 := qhZ ((hb2.block (w.heap.size + 1) (aB9 KB1.out)).trans KB1.out)
       have x2a : w2.cell? ⟨w.heap.size, 0, none⟩ = some (.slice o f.nodes.length c) := aA9 KA2.out 0
       have x2b : w2.cell? ⟨w.heap.size, 1, none⟩ = some (.int .i64 f.room) := aA9 KA2.out 1
       have y2a : w2.cell? ⟨w.heap.size + 1, 0, none⟩ = some (.int .i64 u) := aA9 KB2.out 0
       have y2b : w2.cell? ⟨w.heap.size + 1, 1, none⟩ = some (.int .i64 g) := aA9 KB2.out 1
       rw [← hx] at hlast
       clear hb2 hL hx
       go_wp2_with fail
       refine (l2Name_is4 HNM.out hpz).mono ?_
       rintro e w3 ⟨rfl, rfl⟩
       go_wp2_with fail
       refine (l2Last_any s _ (by omega) (by omega)).mono ?_
       rintro e w3 ⟨rfl, hb3⟩
       rw [HBL.out]
       have HB3 := qhZ (HB2.out.trans (hb3.mono HB2.out.size))
       have KA3 := qhZ ((hb3.block w.heap.size (aB9 KA2.out)).trans KA2.out)
       have KB3 := qhZ ((hb3.block (w.heap.size + 1) (aB9 KB2.out)).trans KB2.out)
       have x3a : w3.cell? ⟨w.heap.size, 0, none⟩ = some (.slice o f.nodes.length c) := aA9 KA3.out 0
       have x3b : w3.cell? ⟨w.heap.size, 1, none⟩ = some (.int .i64 f.room) := aA9 KA3.out 1
       have y3a : w3.cell? ⟨w.heap.size + 1, 0, none⟩ = some (.int .i64 u) := aA9 KB3.out 0
       have y3b : w3.cell? ⟨w.heap.size + 1, 1, none⟩ = some (.int .i64 g) := aA9 KB3.out 1
       clear hb3
       have z0 := fun d os => cell_regrown (w := w3) x3a d os
       have z1 := fun d os => cell_regrown (w := w3) x3b d os
       have z2 := fun d os => cell_regrown (w := w3) y3a d os
       have z3 := fun d os => cell_regrown (w := w3) y3b d os
       have HR3 := qhZ (HR.out.below HB3.out)
       go_wp2
       refine wp_region_quiet_below (by kernel_rfl) (by kernel_rfl) ?_
       repeat (first | go_big_quiet_step (first | (go_at_call 104; exact Calls.regrown_of (l4Ahead_is HDP.out HP.out (by omega) HAS.out)) | (go_at_call 78; exact Calls.regrown_of (l4Find_is HFD.out (HR3.out.below (below_regrown _ _ _)) HL.out.1 HL.out.2 hsa))) | quiet_step (first | (go_at_call 104; exact Calls.regrown_of (l4Ahead_is HDP.out HP.out (by omega) HAS.out)) | (go_at_call 78; exact Calls.regrown_of (l4Find_is HFD.out (HR3.out.below (below_regrown _ _ _)) HL.out.1 HL.out.2 hsa))))
       refine wpQuiet_nil ?_
       intro w5 hwq
       have hb5 : Below w3.heap.size w3 w5 := by
         obtain ⟨pp, rfl⟩ := hwq
         exact below_regrown _ _ _
       clear hwq z0 z1 z2 z3
       have HB5 := qhZ (HB3.out.trans (hb5.mono HB3.out.size))
       have KA5 := qhZ ((hb5.block w.heap.size (aB9 KA3.out)).trans KA3.out)
       have KB5 := qhZ ((hb5.block (w.heap.size + 1) (aB9 KB3.out)).trans KB3.out)
       have x5a : w5.cell? ⟨w.heap.size, 0, none⟩ = some (.slice o f.nodes.length c) := aA9 KA5.out 0
       have x5b : w5.cell? ⟨w.heap.size, 1, none⟩ = some (.int .i64 f.room) := aA9 KA5.out 1
       have y5a : w5.cell? ⟨w.heap.size + 1, 0, none⟩ = some (.int .i64 u) := aA9 KB5.out 0
       have y5b : w5.cell? ⟨w.heap.size + 1, 1, none⟩ = some (.int .i64 g) := aA9 KB5.out 1
       clear hb5
       obtain ⟨g3, f3, lv3, e3, hcc, hee⟩ := bL9 (c := c) HH.out hlt HB5.out
       obtain ⟨d0, d1, d2, d3, d4, d5, d6⟩ := hcc
       subst e3
       clear hee
       rw [hk2] at d0
       go_wp2_with fail
       refine (l4May_any f _ u g nd 1 _ (HR.out.below HB5.out) hlt HMO.out hl).mono ?_
       rintro e w6 ⟨rfl, hb6⟩
       rw [HMB.out]
       have HB6 := qhZ (HB5.out.trans (hb6.mono HB5.out.size))
       clear hb6
       go_wp2
       go_ret3
       exact ⟨by rw [HV.out, HX.out]; rfl, HB6.out⟩
     | false =>
       have HV : Hid (dirW f.nodes u g A 1 = (4, 0)) := qhZ (by unfold dirW dirC; rw [hfd]; simp [hk2, hmb])
       clear hfd hmb
       go_enter Tryz.func62, Tryz.ntmps62
       go_wp2_with fail
       refine (l2Whole_is HW.out _ (by omega)).mono ?_
       rintro e w1 ⟨rfl, hb1⟩
       have HB1 := qhZ (HB0.out.trans (hb1.mono HB0.out.size))
       have KA1 := qhZ ((hb1.block w.heap.size (aB9 KA0.out)).trans KA0.out)
       have KB1 := qhZ ((hb1.block (w.heap.size + 1) (aB9 KB0.out)).trans KB0.out)
       have x1a : w1.cell? ⟨w.heap.size, 0, none⟩ = some (.slice o f.nodes.length c) := aA9 KA1.out 0
       have x1b : w1.cell? ⟨w.heap.size, 1, none⟩ = some (.int .i64 f.room) := aA9 KA1.out 1
       have y1a : w1.cell? ⟨w.heap.size + 1, 0, none⟩ = some (.int .i64 u) := aA9 KB1.out 0
       have y1b : w1.cell? ⟨w.heap.size + 1, 1, none⟩ = some (.int .i64 g) := aA9 KB1.out 1
       clear hb1
       go_wp2_with fail
       refine (l2Parts_any s _ (by omega)).mono ?_
       rintro e w2 ⟨pv, rfl, hL, hb2⟩
       rw [HPT.out] at hL
       obtain ⟨gg, cap, rfl, hlc, hcm, hlast⟩ := lst_last hL
       unfold maxLen at hcm
       have HB2 := qhZ (HB1.out.trans (hb2.mono HB1.out.size))
       have KA2 := qhZ ((hb2.block w.heap.size (aB9 KA1.out)).trans KA1.out)
       have KB2 := qhZ ((hb2.block (w.heap.size + 1) (aB9 KB1.out)).trans KB1.out)
       have x2a : w2.cell? ⟨w.heap.size, 0, none⟩ = some (.slice o f.nodes.length c) := aA9 KA2.out 0
       have x2b : w2.cell? ⟨w.heap.size, 1, none⟩ = some (.int .i64 f.room) := aA9 KA2.out 1
       have y2a : w2.cell? ⟨w.heap.size + 1, 0, none⟩ = some (.int .i64 u) := aA9 KB2.out 0
       have y2b : w2.cell? ⟨w.heap.size + 1, 1, none⟩ = some (.int .i64 g) := aA9 KB2.out 1
       rw [← hx] at hlast
       clear hb2 hL hx
       go_wp2_with fail
       refine (l2Name_is4 HNM.out hpz).mono ?_
       rintro e w3 ⟨rfl, rfl⟩
       go_wp2_with fail
       refine (l2Last_any s _ (by omega) (by omega)).mono ?_
       rintro e w3 ⟨rfl, hb3⟩
       rw [HBL.out]
       have HB3 := qhZ (HB2.out.trans (hb3.mono HB2.out.size))
       have KA3 := qhZ ((hb3.block w.heap.size (aB9 KA2.out)).trans KA2.out)
       have KB3 := qhZ ((hb3.block (w.heap.size + 1) (aB9 KB2.out)).trans KB2.out)
       have x3a : w3.cell? ⟨w.heap.size, 0, none⟩ = some (.slice o f.nodes.length c) := aA9 KA3.out 0
       have x3b : w3.cell? ⟨w.heap.size, 1, none⟩ = some (.int .i64 f.room) := aA9 KA3.out 1
       have y3a : w3.cell? ⟨w.heap.size + 1, 0, none⟩ = some (.int .i64 u) := aA9 KB3.out 0
       have y3b : w3.cell? ⟨w.heap.size + 1, 1, none⟩ = some (.int .i64 g) := aA9 KB3.out 1
       clear hb3
       have z0 := fun d os => cell_regrown (w := w3) x3a d os
       have z1 := fun d os => cell_regrown (w := w3) x3b d os
       have z2 := fun d os => cell_regrown (w := w3) y3a d os
       have z3 := fun d os => cell_regrown (w := w3) y3b d os
       have HR3 := qhZ (HR.out.below HB3.out)
       go_wp2
       refine wp_region_quiet_below (by kernel_rfl) (by kernel_rfl) ?_
       repeat (first | go_big_quiet_step (first | (go_at_call 104; exact Calls.regrown_of (l4Ahead_is HDP.out HP.out (by omega) HAS.out)) | (go_at_call 78; exact Calls.regrown_of (l4Find_is HFD.out (HR3.out.below (below_regrown _ _ _)) HL.out.1 HL.out.2 hsa))) | quiet_step (first | (go_at_call 104; exact Calls.regrown_of (l4Ahead_is HDP.out HP.out (by omega) HAS.out)) | (go_at_call 78; exact Calls.regrown_of (l4Find_is HFD.out (HR3.out.below (below_regrown _ _ _)) HL.out.1 HL.out.2 hsa))))
       refine wpQuiet_nil ?_
       intro w5 hwq
       have hb5 : Below w3.heap.size w3 w5 := by
         obtain ⟨pp, rfl⟩ := hwq
         exact below_regrown _ _ _
       clear hwq z0 z1 z2 z3
       have HB5 := qhZ (HB3.out.trans (hb5.mono HB3.out.size))
       have KA5 := qhZ ((hb5.block w.heap.size (aB9 KA3.out)).trans KA3.out)
       have KB5 := qhZ ((hb5.block (w.heap.size + 1) (aB9 KB3.out)).trans KB3.out)
       have x5a : w5.cell? ⟨w.heap.size, 0, none⟩ = some (.slice o f.nodes.length c) := aA9 KA5.out 0
       have x5b : w5.cell? ⟨w.heap.size, 1, none⟩ = some (.int .i64 f.room) := aA9 KA5.out 1
       have y5a : w5.cell? ⟨w.heap.size + 1, 0, none⟩ = some (.int .i64 u) := aA9 KB5.out 0
       have y5b : w5.cell? ⟨w.heap.size + 1, 1, none⟩ = some (.int .i64 g) := aA9 KB5.out 1
       clear hb5
       obtain ⟨g3, f3, lv3, e3, hcc, hee⟩ := bL9 (c := c) HH.out hlt HB5.out
       obtain ⟨d0, d1, d2, d3, d4, d5, d6⟩ := hcc
       subst e3
       clear hee
       rw [hk2] at d0
       go_wp2_with fail
       refine (l4May_any f _ u g nd 1 _ (HR.out.below HB5.out) hlt HMO.out hl).mono ?_
       rintro e w6 ⟨rfl, hb6⟩
       rw [HMB.out]
       have HB6 := qhZ (HB5.out.trans (hb6.mono HB5.out.size))
       clear hb6
       go_wp2
       go_ret3
       exact ⟨by rw [HV.out]; rfl, HB6.out⟩
   · have HV : Hid (dirW f.nodes u g A 1 = (3, 0)) := qhZ (by unfold dirW dirC; rw [hfd]; simp [hk2])
     have kb : ((aC9 f.nodes nd).kind == 2) = false := beq_eq_false_iff_ne.2 hk2
     have kc : ((aC9 f.nodes nd).kind != 2) = true := by rw [bne_iff_ne]; exact hk2
     clear hfd
     go_enter Tryz.func62, Tryz.ntmps62
     go_wp2_with fail
     refine (l2Whole_is HW.out _ (by omega)).mono ?_
     rintro e w1 ⟨rfl, hb1⟩
     have HB1 := qhZ (HB0.out.trans (hb1.mono HB0.out.size))
     have KA1 := qhZ ((hb1.block w.heap.size (aB9 KA0.out)).trans KA0.out)
     have KB1 := qhZ ((hb1.block (w.heap.size + 1) (aB9 KB0.out)).trans KB0.out)
     have x1a : w1.cell? ⟨w.heap.size, 0, none⟩ = some (.slice o f.nodes.length c) := aA9 KA1.out 0
     have x1b : w1.cell? ⟨w.heap.size, 1, none⟩ = some (.int .i64 f.room) := aA9 KA1.out 1
     have y1a : w1.cell? ⟨w.heap.size + 1, 0, none⟩ = some (.int .i64 u) := aA9 KB1.out 0
     have y1b : w1.cell? ⟨w.heap.size + 1, 1, none⟩ = some (.int .i64 g) := aA9 KB1.out 1
     clear hb1
     go_wp2_with fail
     refine (l2Parts_any s _ (by omega)).mono ?_
     rintro e w2 ⟨pv, rfl, hL, hb2⟩
     rw [HPT.out] at hL
     obtain ⟨gg, cap, rfl, hlc, hcm, hlast⟩ := lst_last hL
     unfold maxLen at hcm
     have HB2 := qhZ (HB1.out.trans (hb2.mono HB1.out.size))
     have KA2 := qhZ ((hb2.block w.heap.size (aB9 KA1.out)).trans KA1.out)
     have KB2 := qhZ ((hb2.block (w.heap.size + 1) (aB9 KB1.out)).trans KB1.out)
     have x2a : w2.cell? ⟨w.heap.size, 0, none⟩ = some (.slice o f.nodes.length c) := aA9 KA2.out 0
     have x2b : w2.cell? ⟨w.heap.size, 1, none⟩ = some (.int .i64 f.room) := aA9 KA2.out 1
     have y2a : w2.cell? ⟨w.heap.size + 1, 0, none⟩ = some (.int .i64 u) := aA9 KB2.out 0
     have y2b : w2.cell? ⟨w.heap.size + 1, 1, none⟩ = some (.int .i64 g) := aA9 KB2.out 1
     rw [← hx] at hlast
     clear hb2 hL hx
     go_wp2_with fail
     refine (l2Name_is4 HNM.out hpz).mono ?_
     rintro e w3 ⟨rfl, rfl⟩
     go_wp2_with fail
     refine (l2Last_any s _ (by omega) (by omega)).mono ?_
     rintro e w3 ⟨rfl, hb3⟩
     rw [HBL.out]
     have HB3 := qhZ (HB2.out.trans (hb3.mono HB2.out.size))
     have KA3 := qhZ ((hb3.block w.heap.size (aB9 KA2.out)).trans KA2.out)
     have KB3 := qhZ ((hb3.block (w.heap.size + 1) (aB9 KB2.out)).trans KB2.out)
     have x3a : w3.cell? ⟨w.heap.size, 0, none⟩ = some (.slice o f.nodes.length c) := aA9 KA3.out 0
     have x3b : w3.cell? ⟨w.heap.size, 1, none⟩ = some (.int .i64 f.room) := aA9 KA3.out 1
     have y3a : w3.cell? ⟨w.heap.size + 1, 0, none⟩ = some (.int .i64 u) := aA9 KB3.out 0
     have y3b : w3.cell? ⟨w.heap.size + 1, 1, none⟩ = some (.int .i64 g) := aA9 KB3.out 1
     clear hb3
     have z0 := fun d os => cell_regrown (w := w3) x3a d os
     have z1 := fun d os => cell_regrown (w := w3) x3b d os
     have z2 := fun d os => cell_regrown (w := w3) y3a d os
     have z3 := fun d os => cell_regrown (w := w3) y3b d os
     have HR3 := qhZ (HR.out.below HB3.out)
     go_wp2
     refine wp_region_quiet_below (by kernel_rfl) (by kernel_rfl) ?_
     repeat (first | go_big_quiet_step (first | (go_at_call 104; exact Calls.regrown_of (l4Ahead_is HDP.out HP.out (by omega) HAS.out)) | (go_at_call 78; exact Calls.regrown_of (l4Find_is HFD.out (HR3.out.below (below_regrown _ _ _)) HL.out.1 HL.out.2 hsa))) | quiet_step (first | (go_at_call 104; exact Calls.regrown_of (l4Ahead_is HDP.out HP.out (by omega) HAS.out)) | (go_at_call 78; exact Calls.regrown_of (l4Find_is HFD.out (HR3.out.below (below_regrown _ _ _)) HL.out.1 HL.out.2 hsa))))
     refine wpQuiet_nil ?_
     intro w5 hwq
     have hb5 : Below w3.heap.size w3 w5 := by
       obtain ⟨pp, rfl⟩ := hwq
       exact below_regrown _ _ _
     clear hwq z0 z1 z2 z3
     have HB5 := qhZ (HB3.out.trans (hb5.mono HB3.out.size))
     have KA5 := qhZ ((hb5.block w.heap.size (aB9 KA3.out)).trans KA3.out)
     have KB5 := qhZ ((hb5.block (w.heap.size + 1) (aB9 KB3.out)).trans KB3.out)
     have x5a : w5.cell? ⟨w.heap.size, 0, none⟩ = some (.slice o f.nodes.length c) := aA9 KA5.out 0
     have x5b : w5.cell? ⟨w.heap.size, 1, none⟩ = some (.int .i64 f.room) := aA9 KA5.out 1
     have y5a : w5.cell? ⟨w.heap.size + 1, 0, none⟩ = some (.int .i64 u) := aA9 KB5.out 0
     have y5b : w5.cell? ⟨w.heap.size + 1, 1, none⟩ = some (.int .i64 g) := aA9 KB5.out 1
     clear hb5
     obtain ⟨g3, f3, lv3, e3, hcc, hee⟩ := bL9 (c := c) HH.out hlt HB5.out
     obtain ⟨d0, d1, d2, d3, d4, d5, d6⟩ := hcc
     subst e3
     clear hee
     go_wp2
     go_ret3
     exact ⟨by rw [HV.out]; rfl, HB5.out⟩
 · have HV : Hid (dirW f.nodes u g A 1 = (cd, 0)) := qhZ (by unfold dirW; rw [hfd]; simp [hc])
   have cb : (cd == 0) = false := beq_eq_false_iff_ne.2 hc
   have cc : (cd != 0) = true := by rw [bne_iff_ne]; exact hc
   have HNC := qhZ hc
   clear hfd hc
   go_enter Tryz.func62, Tryz.ntmps62
   go_wp2_with fail
   refine (l2Whole_is HW.out _ (by omega)).mono ?_
   rintro e w1 ⟨rfl, hb1⟩
   have HB1 := qhZ (HB0.out.trans (hb1.mono HB0.out.size))
   have KA1 := qhZ ((hb1.block w.heap.size (aB9 KA0.out)).trans KA0.out)
   have KB1 := qhZ ((hb1.block (w.heap.size + 1) (aB9 KB0.out)).trans KB0.out)
   have x1a : w1.cell? ⟨w.heap.size, 0, none⟩ = some (.slice o f.nodes.length c) := aA9 KA1.out 0
   have x1b : w1.cell? ⟨w.heap.size, 1, none⟩ = some (.int .i64 f.room) := aA9 KA1.out 1
   have y1a : w1.cell? ⟨w.heap.size + 1, 0, none⟩ = some (.int .i64 u) := aA9 KB1.out 0
   have y1b : w1.cell? ⟨w.heap.size + 1, 1, none⟩ = some (.int .i64 g) := aA9 KB1.out 1
   clear hb1
   go_wp2_with fail
   refine (l2Parts_any s _ (by omega)).mono ?_
   rintro e w2 ⟨pv, rfl, hL, hb2⟩
   rw [HPT.out] at hL
   obtain ⟨gg, cap, rfl, hlc, hcm, hlast⟩ := lst_last hL
   unfold maxLen at hcm
   have HB2 := qhZ (HB1.out.trans (hb2.mono HB1.out.size))
   have KA2 := qhZ ((hb2.block w.heap.size (aB9 KA1.out)).trans KA1.out)
   have KB2 := qhZ ((hb2.block (w.heap.size + 1) (aB9 KB1.out)).trans KB1.out)
   have x2a : w2.cell? ⟨w.heap.size, 0, none⟩ = some (.slice o f.nodes.length c) := aA9 KA2.out 0
   have x2b : w2.cell? ⟨w.heap.size, 1, none⟩ = some (.int .i64 f.room) := aA9 KA2.out 1
   have y2a : w2.cell? ⟨w.heap.size + 1, 0, none⟩ = some (.int .i64 u) := aA9 KB2.out 0
   have y2b : w2.cell? ⟨w.heap.size + 1, 1, none⟩ = some (.int .i64 g) := aA9 KB2.out 1
   rw [← hx] at hlast
   clear hb2 hL hx
   go_wp2_with fail
   refine (l2Name_is4 HNM.out hpz).mono ?_
   rintro e w3 ⟨rfl, rfl⟩
   go_wp2_with fail
   refine (l2Last_any s _ (by omega) (by omega)).mono ?_
   rintro e w3 ⟨rfl, hb3⟩
   rw [HBL.out]
   have HB3 := qhZ (HB2.out.trans (hb3.mono HB2.out.size))
   have KA3 := qhZ ((hb3.block w.heap.size (aB9 KA2.out)).trans KA2.out)
   have KB3 := qhZ ((hb3.block (w.heap.size + 1) (aB9 KB2.out)).trans KB2.out)
   have x3a : w3.cell? ⟨w.heap.size, 0, none⟩ = some (.slice o f.nodes.length c) := aA9 KA3.out 0
   have x3b : w3.cell? ⟨w.heap.size, 1, none⟩ = some (.int .i64 f.room) := aA9 KA3.out 1
   have y3a : w3.cell? ⟨w.heap.size + 1, 0, none⟩ = some (.int .i64 u) := aA9 KB3.out 0
   have y3b : w3.cell? ⟨w.heap.size + 1, 1, none⟩ = some (.int .i64 g) := aA9 KB3.out 1
   clear hb3
   have z0 := fun d os => cell_regrown (w := w3) x3a d os
   have z1 := fun d os => cell_regrown (w := w3) x3b d os
   have z2 := fun d os => cell_regrown (w := w3) y3a d os
   have z3 := fun d os => cell_regrown (w := w3) y3b d os
   have HR3 := qhZ (HR.out.below HB3.out)
   go_wp2
   refine wp_region_quiet_below (by kernel_rfl) (by kernel_rfl) ?_
   repeat (first | go_big_quiet_step (first | (go_at_call 104; exact Calls.regrown_of (l4Ahead_is HDP.out HP.out (by omega) HAS.out)) | (go_at_call 78; exact Calls.regrown_of (l4Find_is HFD.out (HR3.out.below (below_regrown _ _ _)) HL.out.1 HL.out.2 hsa))) | quiet_step (first | (go_at_call 104; exact Calls.regrown_of (l4Ahead_is HDP.out HP.out (by omega) HAS.out)) | (go_at_call 78; exact Calls.regrown_of (l4Find_is HFD.out (HR3.out.below (below_regrown _ _ _)) HL.out.1 HL.out.2 hsa))))
   refine wpQuiet_nil ?_
   intro w5 hwq
   have hb5 : Below w3.heap.size w3 w5 := by
     obtain ⟨pp, rfl⟩ := hwq
     exact below_regrown _ _ _
   clear hwq z0 z1 z2 z3
   have HB5 := qhZ (HB3.out.trans (hb5.mono HB3.out.size))
   have KA5 := qhZ ((hb5.block w.heap.size (aB9 KA3.out)).trans KA3.out)
   have KB5 := qhZ ((hb5.block (w.heap.size + 1) (aB9 KB3.out)).trans KB3.out)
   have x5a : w5.cell? ⟨w.heap.size, 0, none⟩ = some (.slice o f.nodes.length c) := aA9 KA5.out 0
   have x5b : w5.cell? ⟨w.heap.size, 1, none⟩ = some (.int .i64 f.room) := aA9 KA5.out 1
   have y5a : w5.cell? ⟨w.heap.size + 1, 0, none⟩ = some (.int .i64 u) := aA9 KB5.out 0
   have y5b : w5.cell? ⟨w.heap.size + 1, 1, none⟩ = some (.int .i64 g) := aA9 KB5.out 1
   clear hb5
   go_wp2
   go_ret3
   exact ⟨by rw [HV.out]; show _ = Ending.returned (.tuple #[.int .i64 ((0 : Nat) : Int), .string (bs (nmIf cd p)), .int .i64 cd]); rw [nmIf_not HNC.out]; rfl, HB5.out⟩
def cutP (l : List UInt8) : List UInt8 := (sp l).2
def cutD (l : List UInt8) : List UInt8 := l.take (l.length - (cutP l).length - 1)
theorem cut_is (D p : List UInt8) (hp : 47 ∉ p) : cutP (D ++ 47 :: p) = p ∧ cutD (D ++ 47 :: p) = D := by
 have h1 : cutP (D ++ 47 :: p) = p := by
   unfold cutP
   rw [show D ++ 47 :: p = (D ++ [47]) ++ p by simp, sp_app _ _ (fun c hc h => hp (h ▸ hc)), sp_snoc, spStep, if_pos rfl]
   simp
 refine ⟨h1, ?_⟩
 unfold cutD
 rw [h1]
 have : (D ++ 47 :: p).length - p.length - 1 = D.length := by simp; omega
 rw [this]; simp
theorem whole_mem {l : List UInt8} (h : wholeB l = true) : 47 ∈ l := by
 cases l with
 | nil => simp [wholeB] at h
 | cons c l => simp [wholeB] at h; simp [h]
def fp0 (ns : List Nod) (u g : Int) (l : List UInt8) : Int × Nat × List UInt8 := if wgB l = true then plF4 ns u g (cutD l) (cutP l) else (1, 0, [])
theorem fp0_no {ns : List Nod} {u g : Int} {l : List UInt8} (h : wgB l = false) : fp0 ns u g l = (1, 0, []) := by unfold fp0; rw [if_neg (by rw [h]; decide)]
theorem fp0_cut {ns : List Nod} {u g : Int} {D p : List UInt8} (hp : 47 ∉ p) (h : wgB (D ++ 47 :: p) = true) : fp0 ns u g (D ++ 47 :: p) = if nameB p = true then ((dirW ns u g (aheadL D) 1).1, (dirW ns u g (aheadL D) 1).2, if (dirW ns u g (aheadL D) 1).1 = 0 then p else []) else (1, 0, []) := by
 have hh := h
 unfold wgB at h
 simp only [Bool.and_eq_true] at h
 unfold fp0
 rw [if_pos hh, (cut_is D p hp).1, (cut_is D p hp).2]
 unfold plF4
 by_cases hn : nameB p = true
 · rw [if_pos ⟨⟨h.2, h.1⟩, hn⟩, if_pos hn]
 · rw [if_neg (fun x => hn x.2), if_neg hn]
theorem placeAt_any (f : FsD) (v : Value) (u g : Int) (s : ByteArray) (w : World) (hR : FsA w v f) (hs : szF f ≤ 1048576) (hk : bC9 f u g = true) (hss : s.size ≤ 1048576) :
   Calls Tryz.prog 125 #[v, .agg #[.int .i64 u, .int .i64 g], .string s] w fun e w' => ∃ q, e = .returned (.tuple #[.int .i64 ((fp0 f.nodes u g s.data.toList).2.1 : Nat), .string (bs (fp0 f.nodes u g s.data.toList).2.2), errV q (fp0 f.nodes u g s.data.toList).1]) ∧ Below w.heap.size w w' := by
 by_cases hw : wgB s.data.toList = true
 · have hw2 := hw
   unfold wgB at hw2
   simp only [Bool.and_eq_true] at hw2
   obtain ⟨D, p, hDp, hp⟩ := cut_slash _ (whole_mem hw2.1)
   have hwl : wgB (D ++ 47 :: p) = true := by rw [← hDp]; exact hw
   have hfp := fp0_cut (ns := f.nodes) (u := u) (g := g) hp hwl
   rw [hDp, hfp]
   by_cases hn : nameB p = true
   · rw [if_pos hn]
     by_cases hD : D = []
     · subst hD
       refine (placeAt_E f v u g s p w hR hs hk hss hw hDp hp hn).mono ?_
       rintro e w' ⟨rfl, hb⟩
       exact ⟨bs [47], rfl, hb⟩
     · refine (placeAt_D f v u g s D p w hR hs hk hss hw hDp hp hn hD).mono ?_
       rintro e w' ⟨rfl, hb⟩
       have ha : aheadL D = D := if_neg hD
       rw [ha]
       exact ⟨bs D, rfl, hb⟩
   · rw [if_neg hn]
     refine (placeAt_bad f v u g s D p w hR hs hss hw hDp hp (by simpa using hn)).mono ?_
     rintro e w' ⟨rfl, hb⟩
     exact ⟨s, rfl, hb⟩
 · have hw' : wgB s.data.toList = false := by simpa using hw
   rw [fp0_no hw']
   refine (placeAt_no f v u g s w hR hs hss hw').mono ?_
   rintro e w' ⟨rfl, hb⟩
   exact ⟨s, rfl, hb⟩
theorem l4Place_any (f : FsD) (v : Value) (u g : Int) (s : ByteArray) (w : World) (hR : FsA w v f) (hs : szF f ≤ 1048576) (hk : bC9 f u g = true) (hss : s.size ≤ 1048576) :
   Calls Tryz.prog 62 #[v, .agg #[.int .i64 u, .int .i64 g], .string s] w fun e w' => e = .returned (.tuple #[.int .i64 ((fp0 f.nodes u g s.data.toList).2.1 : Nat), .string (bs (fp0 f.nodes u g s.data.toList).2.2), .int .i64 (fp0 f.nodes u g s.data.toList).1]) ∧ Below w.heap.size w w' := by
 by_cases hw : wgB s.data.toList = true
 · have hw2 := hw
   unfold wgB at hw2
   simp only [Bool.and_eq_true] at hw2
   obtain ⟨D, p, hDp, hp⟩ := cut_slash _ (whole_mem hw2.1)
   have hwl : wgB (D ++ 47 :: p) = true := by rw [← hDp]; exact hw
   have hlen : D.length + 1 ≤ 60 := by
     have h1 := hw2.2
     rw [hDp] at h1
     simp [goodB] at h1
     omega
   have hfp := fp0_cut (ns := f.nodes) (u := u) (g := g) hp hwl
   rw [hDp, hfp]
   by_cases hn : nameB p = true
   · rw [if_pos hn]
     refine (l4Place_good f v u g s D p w hR hs hk hss hw hDp hp hn).mono ?_
     rintro e w' ⟨rfl, hb⟩
     rw [struck_dirW hlen (struck_aheadS (by simp))]
     exact ⟨rfl, hb⟩
   · rw [if_neg hn]
     refine (l4Place_bad f v u g s D p w hR hs hss hw hDp hp (by simpa using hn)).mono ?_
     rintro e w' ⟨rfl, hb⟩
     exact ⟨rfl, hb⟩
 · have hw' : wgB s.data.toList = false := by simpa using hw
   rw [fp0_no hw']
   refine (l4Place_no f v u g s w hR hs hss hw').mono ?_
   rintro e w' ⟨rfl, hb⟩
   exact ⟨rfl, hb⟩
theorem placeAt_is {f : FsD} {v : Value} {u g : Int} {s : ByteArray} {w : World} {cd : Int} {nd : Nat} {nm : List UInt8} (h : fp0 f.nodes u g s.data.toList = (cd, nd, nm)) (hR : FsA w v f) (hs : szF f ≤ 1048576) (hk : bC9 f u g = true) (hss : s.size ≤ 1048576) :
   Calls Tryz.prog 125 #[v, .agg #[.int .i64 u, .int .i64 g], .string s] w fun e w' => ∃ q, e = .returned (.tuple #[.int .i64 (nd : Int), .string (bs nm), errV q cd]) ∧ Below w.heap.size w w' := by
 have := placeAt_any f v u g s w hR hs hk hss
 rw [h] at this
 exact this
theorem l4Place_is {f : FsD} {v : Value} {u g : Int} {s : ByteArray} {w : World} {cd : Int} {nd : Nat} {nm : List UInt8} (h : fp0 f.nodes u g s.data.toList = (cd, nd, nm)) (hR : FsA w v f) (hs : szF f ≤ 1048576) (hk : bC9 f u g = true) (hss : s.size ≤ 1048576) :
   Calls Tryz.prog 62 #[v, .agg #[.int .i64 u, .int .i64 g], .string s] w fun e w' => e = .returned (.tuple #[.int .i64 (nd : Int), .string (bs nm), .int .i64 cd]) ∧ Below w.heap.size w w' := by
 have := l4Place_any f v u g s w hR hs hk hss
 rw [h] at this
 exact this
def RdA (w : World) (v : Value) (ps : List (List UInt8)) : Prop :=
 ∃ o c, v = .slice o ps.length c ∧ ps.length ≤ maxLen ∧ ∀ i (h : i < ps.length), ∃ ad : Addr, o = some ad ∧ ad.block < w.heap.size ∧ w.cell? (ad.add i) = some (.string (bs ps[i])) ∧ ps[i].length ≤ maxLen
theorem block_add (a : Addr) (i : Nat) : (a.add i).block = a.block := by unfold Addr.add; split <;> rfl
theorem RdA.below {w w' : World} {v : Value} {ps : List (List UInt8)} (h : RdA w v ps) (hb : Below w.heap.size w w') : RdA w' v ps := by
 obtain ⟨o, c, rfl, hm, hH⟩ := h
 refine ⟨o, c, rfl, hm, fun i hi => ?_⟩
 obtain ⟨ad, e, hg, hc, hl⟩ := hH i hi
 exact ⟨ad, e, Nat.lt_of_lt_of_le hg hb.size, (hb.cell (p := ad.add i) (by rw [block_add]; exact hg)).trans hc, hl⟩
def zs (n : Nat) : List Value := List.replicate n (.string ⟨#[]⟩)
def strOf (l : List Int) : ByteArray := ⟨(l.map fun n => UInt8.ofNat n.toNat).toArray⟩
theorem strOf_fold : ∀ (l : List Int) (r : ByteArray), l.foldl (fun r n => r.push (UInt8.ofNat n.toNat)) r = r ++ strOf l
 | [], r => by apply ByteArray.ext; simp [strOf]
 | n :: l, r => by
   rw [List.foldl_cons, strOf_fold l]
   apply ByteArray.ext
   simp [strOf, ByteArray.push]
theorem load_new {P : Program} (w : World) (l : List Int) (t : TypeId) :
   (loadCells ⟨w.heap.size, 0, none⟩ l.length).run P (w.alloc (.cells (l.map (Value.int .u8)).toArray t)) = .ok (l.map (Value.int .u8)).toArray (w.alloc (.cells (l.map (Value.int .u8)).toArray t)) := by
 have h := run_loadCells_list (P := P) (w.alloc (.cells (l.map (Value.int .u8)).toArray t)) ⟨w.heap.size, 0, none⟩ (l.map (Value.int .u8)) (fun j v hj => by
   have e : (⟨w.heap.size, 0, none⟩ : Addr).add j = ⟨w.heap.size, j, none⟩ := by
     unfold Addr.add
     split <;> simp_all
   rw [e, World.cell?_alloc_mark]
   simpa using hj)
 simpa using h
theorem str_new (w : World) (l : List Int) (cap : Nat) :
   (convert 136 9 (.slice (some ⟨w.heap.size, 0, none⟩) l.length cap)).run Tryz.prog (w.alloc (.cells (l.map (Value.int .u8)).toArray 5)) = .ok (.string (strOf l)) (w.alloc (.cells (l.map (Value.int .u8)).toArray 5)) := by
 rw [run_convert_bytes_string _ 136 9 5 _ _ _ Tryz.underlying136 Tryz.underlying5 Tryz.underlying9, run_bytesToString _ _ _ _ l (load_new w l 5), strOf_fold]
 congr 2
theorem str_new1 (w : World) (a : Int) : (convert 136 9 (.slice (some ⟨w.heap.size, 0, none⟩) 1 1)).run Tryz.prog (w.alloc (.cells #[.int .u8 a] 5)) = .ok (.string (strOf [a])) (w.alloc (.cells #[.int .u8 a] 5)) := str_new w [a] 1
def digsF : Nat → Nat → List UInt8 → List UInt8
 | 0, _, acc => acc
 | f + 1, k, acc => if k = 0 then acc else digsF f (k / 10) (UInt8.ofNat (48 + k % 10) :: acc)
def digs (k : Nat) (acc : List UInt8) : List UInt8 := digsF k k acc
theorem digsF_zero (f : Nat) (acc : List UInt8) : digsF f 0 acc = acc := by cases f <;> simp [digsF]
theorem digsF_step {f k : Nat} (h : k ≠ 0) (acc : List UInt8) : digsF (f + 1) k acc = digsF f (k / 10) (UInt8.ofNat (48 + k % 10) :: acc) := by simp [digsF, h]
def mt (k : Nat) : ByteArray := bs (109 :: digs k [])
theorem str_dig (k : Nat) : strOf [48 + (k : Int) % 10] = bs [UInt8.ofNat (48 + k % 10)] := by
 unfold strOf bs
 have : (48 + (k : Int) % 10).toNat = 48 + k % 10 := by omega
 simp only [List.map_cons, List.map_nil, this]
theorem markText_any (k : Nat) (w : World) (h0 : 1 ≤ k) (h1 : k ≤ 100000000) : Calls Tryz.prog 73 #[.int .i64 k] w fun e w' => e = .returned (.string (mt k)) ∧ Below w.heap.size w w' := by
 have hs := str_new1
 have hk0 : ¬ (k : Int) ≤ 0 := by omega
 go_enter Tryz.func73, Tryz.ntmps73
 go_wp2
 go_loopw [0, 3] (fun j t wr => ∃ (i : Nat) (acc : List UInt8), i ≤ 100000000 ∧ j = .int .i64 i ∧ t = .string (bs acc) ∧ acc.length + i ≤ 200000000 ∧ (∃ f, i ≤ f ∧ digsF f i acc = digs k []) ∧ Below w.heap.size w wr) (fun j _ _ => (intOf j).toNat)
 case atStart => exact ⟨k, [], h1, rfl, rfl, by simp; omega, ⟨k, Nat.le_refl _, rfl⟩, Below.refl _ _⟩
 case round =>
   obtain ⟨i, acc, hi, rfl, rfl, hal, ⟨f, hf, hd⟩, hB⟩ := hrel
   have HD := qhZ hd
   clear hd
   by_cases hp : 0 < i
   · obtain ⟨f, rfl⟩ : ∃ g, f = g + 1 := ⟨f - 1, by omega⟩
     have hz : (bs acc).size ≤ 200000000 := by rw [bs_size]; omega
     have HX : Hid (strOf [48 + (i : Int) % 10] ++ bs acc = bs (UInt8.ofNat (48 + i % 10) :: acc)) := qhZ (by rw [str_dig, bs_app]; rfl)
     have hz1 : (strOf [48 + (i : Int) % 10]).size = 1 := rfl
     have hp' : 0 < (i : Int) := by omega
     have hr1 : (i : Int) % 10 ≤ 9 := by omega
     have hr0 : 0 ≤ (i : Int) % 10 := by omega
     have hzz : ¬ 9223372036854775807 < (strOf [48 + (i : Int) % 10]).size + (bs acc).size := by omega
     clear hz1
     go_wp2
     go_roundw
     case rel => exact ⟨i / 10, UInt8.ofNat (48 + i % 10) :: acc, by omega, by go_num, by rw [HX.out], by simp; omega, ⟨f, by omega, by rw [← HD.out, digsF_step (k := i) (by omega)]⟩, hB.alloc hB.size _⟩
     case measure => simp [intOf]; omega
   · obtain rfl : i = 0 := by omega
     have HE : Hid (acc = digs k []) := qhZ (by rw [← HD.out, digsF_zero])
     have hz : (bs acc).size ≤ 200000000 := by rw [bs_size]; omega
     go_wp2
     go_ret
     refine ⟨ret_str ?_, hB⟩
     unfold mt
     rw [← HE.out]
     exact bs_app [109] acc
def marks (m n : Nat) : List (List UInt8) := (List.range n).map fun j => 109 :: digs (m + j) []
def Shp (w : World) (G n : Nat) (T : TypeId) : Prop := ∃ cs, w.heap[G]? = some (.cells cs T (0, 0)) ∧ n ≤ cs.size
theorem Shp.lt {w : World} {G n : Nat} {T : TypeId} (h : Shp w G n T) : G < w.heap.size := by
 obtain ⟨cs, hg, _⟩ := h
 exact (Array.getElem?_eq_some_iff.1 hg).1
theorem Shp.set {w : World} {G n : Nat} {T : TypeId} (h : Shp w G n T) (H j : Nat) (u : Value) : Shp (w.setCell ⟨H, j, none⟩ u) G n T := by
 obtain ⟨cs, hg, hs⟩ := h
 by_cases e : G = H
 · subst e
   exact ⟨_, heap_setCell_same w G j cs T u hg, by simpa using hs⟩
 · exact ⟨cs, (Below.heap_setCell w ⟨H, j, none⟩ u G e).trans hg, hs⟩
theorem Shp.below {w w' : World} {G n : Nat} {T : TypeId} (h : Shp w G n T) (hb : Below w.heap.size w w') : Shp w' G n T := by
 obtain ⟨cs, hg, hs⟩ := h
 exact ⟨cs, (hb.block G (Array.getElem?_eq_some_iff.1 hg).1).trans hg, hs⟩
theorem Shp.cell {w : World} {G n : Nat} {T : TypeId} (h : Shp w G n T) {j : Nat} (hj : j < n) : ∃ u, w.cell? ⟨G, j, none⟩ = some u := by
 obtain ⟨cs, hg, hs⟩ := h
 exact ⟨cs[j], by simp [World.cell?, hg, show j < cs.size by omega]⟩
theorem Shp.frozen {w : World} {G n : Nat} {T : TypeId} (h : Shp w G n T) (j : Nat) : w.frozen? ⟨G, j, none⟩ = false := by
 obtain ⟨cs, hg, _⟩ := h
 exact frozen_of_row w G j cs T hg
theorem Shp.ne {w : World} {G H n m : Nat} {T U : TypeId} (h : Shp w G n T) (k : Shp w H m U) (hT : T ≠ U) : G ≠ H := by
 rintro rfl
 obtain ⟨cs, hg, _⟩ := h
 obtain ⟨ds, hd, _⟩ := k
 rw [hg] at hd
 cases hd
 exact hT rfl
theorem aS9 {w : World} {G i j : Nat} {u : Value} (h : i ≠ j) : (w.setCell ⟨G, j, none⟩ u).cell? ⟨G, i, none⟩ = w.cell? ⟨G, i, none⟩ :=
 World.cell?_setCell_other _ _ _ _ (fun e => h (by cases e; rfl))
structure Wr (B E : Nat) (w w' : World) : Prop where
 bel : Below B w w'
 up : ∀ i, E ≤ i → i < w.heap.size → w'.heap[i]? = w.heap[i]?
 shp : ∀ G n T, Shp w G n T → Shp w' G n T
theorem Wr.refl (B E : Nat) (w : World) : Wr B E w w := ⟨Below.refl _ _, fun _ _ _ => rfl, fun _ _ _ h => h⟩
theorem Wr.trans {B E : Nat} {a b c : World} (h : Wr B E a b) (k : Wr B E b c) : Wr B E a c := ⟨h.bel.trans k.bel, fun i h1 h2 => (k.up i h1 (Nat.lt_of_lt_of_le h2 h.bel.size)).trans (h.up i h1 h2), fun G n T x => k.shp G n T (h.shp G n T x)⟩
theorem Wr.set {B E : Nat} {a b : World} (h : Wr B E a b) {H : Nat} (hH : B ≤ H) (hE : H < E) (j : Nat) (u : Value) : Wr B E a (b.setCell ⟨H, j, none⟩ u) := ⟨h.bel.setCell (p := ⟨H, j, none⟩) hH u, fun i h1 h2 => (Below.heap_setCell b ⟨H, j, none⟩ u i (by simp only; omega)).trans (h.up i h1 h2), fun G n T x => (h.shp G n T x).set H j u⟩
theorem Wr.below {B E : Nat} {a b c : World} (h : Wr B E a b) (hB : B ≤ b.heap.size) (k : Below b.heap.size b c) : Wr B E a c := ⟨h.bel.trans (k.mono hB), fun i h1 h2 => (k.block i (Nat.lt_of_lt_of_le h2 h.bel.size)).trans (h.up i h1 h2), fun G n T x => (h.shp G n T x).below k⟩
theorem markEntryS_shp (G n c B E k : Nat) (w : World) (hs : Shp w G (n * 2) 126) (hnc : n ≤ c) (hcm : c ≤ maxLen) (hB : B ≤ G) (hGE : G < E) (hBw : B ≤ w.heap.size) (hk : 1 ≤ k) (hkn : k + n * 2 ≤ 90000000) : Calls Tryz.prog 74 #[.slice (some ⟨G, 0, none⟩) n c, .int .i64 (k : Int)] w fun e w' => e = .returned (.int .i64 ((k + n * 2 : Nat) : Int)) ∧ Wr B E w w' ∧ ∀ b, b < w.heap.size → b ≠ G → w'.heap[b]? = w.heap[b]? := by
 have HS := qhZ hs
 clear hs
 unfold maxLen at hcm
 go_enter Tryz.func74, Tryz.ntmps74
 go_wp2
 go_loopw [1, 5] (fun t i wr => ∃ j : Nat, j ≤ n ∧ i = .int .i64 j ∧ t = .int .i64 ((k + j * 2 : Nat) : Int) ∧ Wr B E w wr ∧ ∀ b, b < w.heap.size → b ≠ G → wr.heap[b]? = w.heap[b]?) (fun _ i _ => n - (intOf i).toNat)
 case atStart => exact ⟨0, Nat.zero_le _, rfl, by simp, Wr.refl _ _ _, fun _ _ _ => rfl⟩
 case round =>
   obtain ⟨j, hj, rfl, rfl, hW, hO⟩ := hrel
   have HW := qhZ hW
   have HO := qhZ hO
   have hsz := hW.bel.size
   clear hW hO
   by_cases hlt : j < n
   · go_wp2_with fail
     refine (markText_any (k + j * 2) _ (by omega) (by omega)).mono ?_
     rintro e w1 ⟨rfl, hb1⟩
     have hs1 := (HW.out.shp _ _ _ HS.out).below hb1
     obtain ⟨u0, c0⟩ := hs1.cell (j := j * 2) (by omega)
     have f0 := hs1.frozen
     have HW1 := qhZ (HW.out.below (Nat.le_trans hBw HW.out.bel.size) hb1)
     have HO1 : Hid (∀ b, b < w.heap.size → b ≠ G → w1.heap[b]? = w.heap[b]?) := qhZ (fun b hb hn => (hb1.block b (by omega)).trans (HO.out b hb hn))
     have hs2 := hs1.set G (j * 2) (.string (mt (k + j * 2)))
     obtain ⟨u1, c1⟩ := hs1.cell (j := j * 2 + 1) (by omega)
     clear hb1 hs1 hs2
     go_wp2
     go_roundw
     case rel =>
       refine ⟨j + 1, hlt, by go_num, by go_num, (HW1.out.set hB hGE _ _).set hB hGE _ _, fun b hb hn => ?_⟩
       rw [Below.heap_setCell _ ⟨G, _, none⟩ _ b hn, Below.heap_setCell _ ⟨G, _, none⟩ _ b hn]
       exact HO1.out b hb hn
     case measure => simp [intOf]; omega
   · obtain rfl : j = n := by omega
     go_wp2
     go_ret
     exact ⟨rfl, HW.out, HO.out⟩
theorem markText_int (z : Int) (w : World) (h0 : 1 ≤ z) (h1 : z ≤ 100000000) : Calls Tryz.prog 73 #[.int .i64 z] w fun e w' => ∃ x, e = .returned (.string x) ∧ Below w.heap.size w w' := by
 obtain ⟨m, rfl⟩ : ∃ m : Nat, z = m := ⟨z.toNat, by omega⟩
 exact (markText_any m w (by omega) (by omega)).mono fun e w' ⟨h, h'⟩ => ⟨_, h, h'⟩
theorem markEntryS_int (G n c B E : Nat) (z : Int) (w : World) (hs : Shp w G (n * 2) 126) (hnc : n ≤ c) (hcm : c ≤ maxLen) (hB : B ≤ G) (hGE : G < E) (hBw : B ≤ w.heap.size) (hk : 1 ≤ z) (hkn : z + n * 2 ≤ 90000000) : Calls Tryz.prog 74 #[.slice (some ⟨G, 0, none⟩) n c, .int .i64 z] w fun e w' => e = .returned (.int .i64 (z + n * 2)) ∧ Wr B E w w' ∧ ∀ b, b < w.heap.size → b ≠ G → w'.heap[b]? = w.heap[b]? := by
 obtain ⟨m, rfl⟩ : ∃ m : Nat, z = m := ⟨z.toNat, by omega⟩
 exact (markEntryS_shp G n c B E m w hs hnc hcm hB hGE hBw (by omega) (by omega)).mono fun e w' ⟨h, h'⟩ => ⟨by rw [h]; rfl, h'⟩
def LShp (w : World) (B E : Nat) (lv : Value) (m : Nat) : Prop := ∃ H c, lv = .slice (some ⟨H, 0, none⟩) m c ∧ m ≤ c ∧ c ≤ maxLen ∧ (B ≤ H ∧ H < E) ∧ Shp w H (m * 2) 126
def cntM (ms : List Nat) : Nat := (ms.map fun m => 6 + m * 2).sum
theorem cntM_take {ms : List Nat} {k : Nat} (h : k < ms.length) : cntM (ms.take (k + 1)) = cntM (ms.take k) + (6 + ms[k] * 2) := by
 unfold cntM; rw [List.take_succ_eq_append_getElem h]; simp only [List.map_append, List.sum_append, List.map_cons, List.map_nil, List.sum_cons, List.sum_nil, Nat.add_zero]
theorem cntM_pre (ms : List Nat) (k : Nat) : cntM (ms.take k) ≤ cntM ms := by
 conv => rhs; rw [← List.take_append_drop k ms]
 unfold cntM; rw [List.map_append, List.sum_append]; omega
theorem markNodeS_shp (G c B E : Nat) (ms : List Nat) (w : World) (hs : Shp w G (ms.length * 7) 55) (hL : ∀ i (h : i < ms.length), ∃ lv, w.cell? ⟨G, i * 7 + 6, none⟩ = some lv ∧ LShp w B E lv ms[i]) (hnc : ms.length ≤ c) (hcm : c ≤ maxLen) (hB : B ≤ G) (hGE : G < E) (hBw : B ≤ w.heap.size) (hkn : cntM ms ≤ 80000000) : Calls Tryz.prog 41 #[.slice (some ⟨G, 0, none⟩) ms.length c, .int .i64 1] w fun e w' => e = .returned (.int .i64 (1 + (cntM ms : Int))) ∧ Wr B E w w' := by
 have HS := qhZ hs
 have HL := qhZ hL
 clear hL hs
 unfold maxLen at hcm
 go_enter Tryz.func41, Tryz.ntmps41
 go_wp2
 go_loopw [1, 5] (fun t i wr => ∃ j : Nat, j ≤ ms.length ∧ i = .int .i64 j ∧ t = .int .i64 (1 + (cntM (ms.take j) : Int)) ∧ Wr B E w wr ∧ ∀ i (h : i < ms.length), wr.cell? ⟨G, i * 7 + 6, none⟩ = w.cell? ⟨G, i * 7 + 6, none⟩) (fun _ i _ => ms.length - (intOf i).toNat)
 case atStart => exact ⟨0, Nat.zero_le _, rfl, by simp [cntM], Wr.refl _ _ _, fun _ _ => rfl⟩
 case round =>
   obtain ⟨j, hj, rfl, rfl, hW, hC⟩ := hrel
   have HW := qhZ hW
   have HC := qhZ hC
   have hsz := hW.bel.size
   clear hW hC
   by_cases hlt : j < ms.length
   · obtain ⟨lv, hlv, H, c9, rfl, hm9, hc9, hB9, hS9⟩ := HL.out j hlt
     have HT := qhZ (cntM_take hlt)
     have hpre := cntM_pre ms (j + 1)
     rw [HT.out] at hpre
     have hsr := HW.out.shp _ _ _ HS.out
     obtain ⟨u0, c0⟩ := hsr.cell (j := j * 7) (by omega)
     obtain ⟨u1, c1⟩ := hsr.cell (j := j * 7 + 1) (by omega)
     obtain ⟨u2, c2⟩ := hsr.cell (j := j * 7 + 2) (by omega)
     obtain ⟨u3, c3⟩ := hsr.cell (j := j * 7 + 3) (by omega)
     obtain ⟨u4, c4⟩ := hsr.cell (j := j * 7 + 4) (by omega)
     have cf := hsr.frozen
     have hne9 : H ≠ G := fun e => (Shp.ne HS.out hS9 (by decide)) e.symm
     have HSR := qhZ hsr
     have HS9 := qhZ hS9
     have HLV := qhZ hlv
     obtain ⟨x0, hx0⟩ : ∃ x0 : Int, x0 = 1 + (cntM (ms.take j) : Int) := ⟨_, rfl⟩
     have HX0 := qhZ hx0
     have hx1 : 1 ≤ x0 := by omega
     have hx2 : x0 + 6 + ms[j] * 2 ≤ 80000001 := by rw [hx0]; omega
     rw [← hx0]
     clear hsr hS9 hlv hx0
     go_wp2_with fail
     refine (markText_int _ _ (by omega) (by omega)).mono ?_
     rintro e w1 ⟨x, rfl, hb1⟩
     have hs1 := (((((HSR.out.set G _ _).set G _ _).set G _ _).set G _ _).set G _ _).below hb1
     have hW1 := (((((HW.out.set hB hGE _ _).set hB hGE _ _).set hB hGE _ _).set hB hGE _ _).set hB hGE _ _).below (by simp; omega) hb1
     have hC1 : ∀ i (h : i < ms.length), w1.cell? ⟨G, i * 7 + 6, none⟩ = w.cell? ⟨G, i * 7 + 6, none⟩ := fun i h => by
       have h9 := hb1.cell (p := ⟨G, i * 7 + 6, none⟩) (by simpa using HSR.out.lt)
       rw [h9, aS9 (by omega), aS9 (by omega), aS9 (by omega), aS9 (by omega), aS9 (by omega)]
       exact HC.out i h
     obtain ⟨u5, c5⟩ := hs1.cell (j := j * 7 + 5) (by omega)
     have cf1 := hs1.frozen
     have c6 : w1.cell? ⟨G, j * 7 + 6, none⟩ = some (.slice (some ⟨H, 0, none⟩) ms[j] c9) := (hC1 j hlt).trans HLV.out
     have HW2 : Hid (Wr B E w (w1.setCell ⟨G, j * 7 + 5, none⟩ (.string x))) := qhZ (hW1.set hB hGE _ _)
     have HC2 : Hid (∀ i (h : i < ms.length), (w1.setCell ⟨G, j * 7 + 5, none⟩ (.string x)).cell? ⟨G, i * 7 + 6, none⟩ = w.cell? ⟨G, i * 7 + 6, none⟩) := qhZ (fun i h => by rw [aS9 (by omega)]; exact hC1 i h)
     have HGl : Hid (G < (w1.setCell ⟨G, j * 7 + 5, none⟩ (.string x)).heap.size) := qhZ (by simpa using hs1.lt)
     clear hs1 hW1 hC1 hb1 c0 c1 c2 c3 c4 cf
     go_wp2_with fail
     refine (markEntryS_int H ms[j] c9 B E _ _ (HW2.out.shp _ _ _ HS9.out) hm9 hc9 hB9.1 hB9.2 (Nat.le_trans hBw HW2.out.bel.size) (by omega) (by omega)).mono ?_
     rintro e w3 ⟨rfl, hW3, hO3⟩
     have HW3 := qhZ (HW2.out.trans hW3)
     have HC3 : Hid (∀ i (h : i < ms.length), w3.cell? ⟨G, i * 7 + 6, none⟩ = w.cell? ⟨G, i * 7 + 6, none⟩) := qhZ (fun i h => by
       rw [← HC2.out i h]
       have h9 := hO3 G HGl.out (fun e => hne9 e.symm)
       unfold World.cell?
       rw [h9])
     clear hW3 hO3
     go_wp2
     go_roundw
     case rel => exact ⟨j + 1, hlt, by go_num, by rw [HT.out, HX0.out]; congr 1; push_cast; omega, HW3.out, HC3.out⟩
     case measure => simp [intOf]; omega
   · obtain rfl : j = ms.length := by omega
     have HT : Hid (ms.take ms.length = ms) := qhZ (List.take_of_length_le (Nat.le_refl _))
     go_wp2
     go_ret
     exact ⟨ret_int (by rw [HT.out]), HW.out⟩
theorem RowAt.shp {w : World} {G n : Nat} {T : TypeId} {F : Nat → Value} (h : RowAt w G n T F) : Shp w G n T := by
 obtain ⟨cur, hg, hs, _⟩ := h
 exact ⟨cur, hg, hs⟩
theorem cnt_le (ns : List Nod) : cntM (ns.map fun n => n.list.length) ≤ 6 * ns.length + 2 * szNs ns := by
 unfold cntM szNs szN
 induction ns with
 | nil => simp
 | cons a r ih => simp only [List.map_cons, List.sum_cons, List.length_cons] at ih ⊢; omega
set_option maxRecDepth 100000 in
theorem markFs_own (f : FsD) (v : Value) (B : Nat) (w0 w : World) (hO : FsOwn w0 B v f) (hb0 : Below w0.heap.size w0 w) (hB0 : B ≤ w0.heap.size) (hs : szF f ≤ 1048576) : Calls Tryz.prog 17 #[v, .int .i64 1] w fun e w' => ∃ k : Int, 0 ≤ k ∧ k ≤ 100000000 ∧ e = .returned (.int .i64 k) ∧ Below B w w' ∧ ∀ i, w0.heap.size ≤ i → i < w.heap.size → w'.heap[i]? = w.heap[i]? := by
 have hBw : B ≤ w.heap.size := Nat.le_trans hB0 hb0.size
 obtain ⟨E, hEE⟩ : ∃ E, E = w0.heap.size := ⟨_, rfl⟩
 obtain ⟨nv, rfl, G, c, ps, rfl, hlc, hcm, hBG, hps, hr, hE⟩ := hO
 have hlp : ps.length = f.nodes.length := by rw [← hps]; simp
 have hml : (f.nodes.map fun n => n.list.length).length = f.nodes.length := by simp
 have hcnt : cntM (f.nodes.map fun n => n.list.length) ≤ 80000000 := by
   have h1 := cnt_le f.nodes
   unfold szF at hs
   omega
 have HSH := qhZ (hr.shp.below hb0)
 have hGE : G < E := by rw [hEE]; exact hr.lt
 have HLS : Hid (∀ i (h : i < (f.nodes.map fun n => n.list.length).length), ∃ lv, w.cell? ⟨G, i * 7 + 6, none⟩ = some lv ∧ LShp w B E lv (f.nodes.map fun n => n.list.length)[i]) := qhZ (fun i hi => by
   rw [hml] at hi
   have hip : i < ps.length := by omega
   have hn : (ps[i]).1 = f.nodes[i] := by
     have : (ps.map Prod.fst)[i]'(by simpa using hip) = f.nodes[i] := by simp [hps]
     rw [← this]; simp
   have hcell := hr.cell (j := i * 7 + 6) (by omega)
   have e1 : (i * 7 + 6) / 7 = i := by omega
   have e2 : (i * 7 + 6) % 7 = 6 := by omega
   refine ⟨(ps[i]).2, ?_, ?_⟩
   · rw [hb0.cell (p := ⟨G, i * 7 + 6, none⟩) hr.lt, hcell]
     unfold nodsF
     rw [e1, e2, List.getElem?_eq_getElem hip]
     rfl
   · obtain ⟨H, c9, e9, h1, h2, h3, hrr⟩ := hE _ (List.getElem_mem hip)
     rw [hn] at e9 h1 hrr
     simp only [List.getElem_map]
     exact ⟨H, c9, e9, h1, h2, ⟨by omega, by rw [hEE]; exact hrr.lt⟩, hrr.shp.below hb0⟩)
 have HWA : Hid (∀ o, Wr B E w (w.alloc o)) := qhZ (fun o => (Wr.refl B E w).below hBw ((Below.refl _ _).alloc (Nat.le_refl _) o))
 have HCA : Hid (∀ o i, (w.alloc o).cell? ⟨G, i, none⟩ = w.cell? ⟨G, i, none⟩) := qhZ (fun o i => ((Below.refl _ w).alloc (Nat.le_refl _) o).cell (p := ⟨G, i, none⟩) (Nat.lt_of_lt_of_le hr.lt hb0.size))
 obtain ⟨ms, hms⟩ : ∃ ms, ms = f.nodes.map fun n => n.list.length := ⟨_, rfl⟩
 rw [← hms] at HLS hcnt hml
 have hsh : Shp w G (ms.length * 7) 55 := by rw [hml]; exact HSH.out
 have HSM := qhZ hsh
 rw [← hml] at hlc ⊢
 clear hr hE hps hlp hms hsh hml
 go_enter Tryz.func17, Tryz.ntmps17
 go_wp2_with fail
 refine (markNodeS_shp G c B E ms _ ((HWA.out _).shp _ _ _ HSM.out) (fun i h => by
   obtain ⟨lv, h1, H, c9, e9, h2, h3, h4, h5⟩ := HLS.out i h
   exact ⟨lv, (HCA.out _ _).trans h1, H, c9, e9, h2, h3, h4, (HWA.out _).shp _ _ _ h5⟩) hlc hcm hBG hGE (Nat.le_trans hBw (HWA.out _).bel.size) hcnt).mono ?_
 rintro e w1 ⟨rfl, hW1⟩
 have HB1 := qhZ (((HWA.out _).trans hW1).bel)
 have HU1 : Hid (∀ i, w0.heap.size ≤ i → i < w.heap.size → w1.heap[i]? = w.heap[i]?) := qhZ (by rw [← hEE]; exact ((HWA.out _).trans hW1).up)
 clear hW1
 go_wp2
 go_ret
 exact ⟨_, by omega, by omega, rfl, HB1.out, HU1.out⟩
end Go.Proofs.YtknhacblialboaaGreatDoor
