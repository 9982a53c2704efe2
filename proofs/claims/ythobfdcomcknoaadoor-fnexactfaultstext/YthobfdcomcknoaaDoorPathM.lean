
/-
  Plain facts on texts and paths as lists of bytes: cutting at slashes, good names and paths, cleaning. No program is named.
  Conditions: as each states.
-/
import Derived.Laws.RangeAny
import Derived.Lib.Join
namespace Go.Proofs.YthobfdcomcknoaaDoor
open Go

/-- The text of some bytes. -/
def bs (l : List UInt8) : ByteArray := ⟨l.toArray⟩
theorem bs_list (l : List UInt8) : (bs l).data.toList = l := by simp [bs]
theorem bs_size (l : List UInt8) : (bs l).size = l.length := by simp [bs, ByteArray.size]
theorem bs_of (s : ByteArray) : bs s.data.toList = s := by cases s; simp [bs]
theorem bs_inj {a b : List UInt8} : bs a = bs b ↔ a = b := ⟨fun h => by have := congrArg (fun x : ByteArray => x.data.toList) h; simpa [bs] using this, fun h => by rw [h]⟩
theorem bs_app (a b : List UInt8) : bs a ++ bs b = bs (a ++ b) := by
  apply ByteArray.ext; simp [bs, ByteArray.data_append]
theorem len_size (s : ByteArray) : s.data.toList.length = s.size := Array.length_toList
theorem bs_ext (s : ByteArray) (a b : Nat) : s.extract a b = bs ((s.data.toList.take b).drop a) := by
  apply ByteArray.ext
  apply Array.toList_inj.1
  simp [bs, ByteArray.data_extract, Array.toList_extract, List.drop_take, List.extract_eq_take_drop]

/-- Cutting at slashes: what is cut off, and what is under way. -/
def spStep (st : List (List UInt8) × List UInt8) (c : UInt8) : List (List UInt8) × List UInt8 := if c = 47 then (st.1 ++ [st.2], []) else (st.1, st.2 ++ [c])
def sp (l : List UInt8) : List (List UInt8) × List UInt8 := l.foldl spStep ([], [])
def full (ps : List (List UInt8)) : List (List UInt8) := ps.filter fun p => !p.isEmpty
def parts (l : List UInt8) : List (List UInt8) := full ((sp l).1 ++ [(sp l).2])

theorem sp_snoc (l : List UInt8) (c : UInt8) : sp (l ++ [c]) = spStep (sp l) c := by simp [sp]
theorem sp_app (l m : List UInt8) (h : ∀ c ∈ m, c ≠ 47) : sp (l ++ m) = ((sp l).1, (sp l).2 ++ m) := by
  induction m generalizing l with
  | nil => simp
  | cons c m ih =>
    have : l ++ c :: m = (l ++ [c]) ++ m := by simp
    rw [this, ih _ (fun d hd => h d (by simp [hd])), sp_snoc, spStep, if_neg (h c (by simp))]
    simp
theorem full_app (a b : List (List UInt8)) : full (a ++ b) = full a ++ full b := by simp [full]
theorem sp_le (l : List UInt8) : (sp l).1.length + (sp l).2.length ≤ l.length := by
  have : ∀ (m : List UInt8) (st : List (List UInt8) × List UInt8), (m.foldl spStep st).1.length + (m.foldl spStep st).2.length ≤ st.1.length + st.2.length + m.length := by
    intro m
    induction m with
    | nil => intro st; simp
    | cons c m ih =>
      intro st
      have := ih (spStep st c)
      simp only [List.foldl_cons, List.length_cons]
      have h2 : (spStep st c).1.length + (spStep st c).2.length ≤ st.1.length + st.2.length + 1 := by
        unfold spStep; split <;> simp <;> omega
      omega
  simpa [sp] using this l ([], [])

/-- Signs of names. -/
def signN (n : Nat) : Bool := decide (97 ≤ n ∧ n ≤ 122 ∨ 48 ≤ n ∧ n ≤ 57 ∨ n = 46 ∨ n = 95 ∨ n = 45)
def signsB (l : List UInt8) : Bool := l.all fun c => signN c.toNat
def partB (l : List UInt8) : Bool := decide (1 ≤ l.length ∧ l.length ≤ 8) && signsB l
def nameB (l : List UInt8) : Bool := partB l && (!(l == [46]) && !(l == [46, 46]))
def goodB (l : List UInt8) : Bool := decide (1 ≤ l.length ∧ l.length ≤ 60) && (parts l).all partB
def wholeB (l : List UInt8) : Bool := l.head? == some 47

theorem signsB_snoc (l : List UInt8) (c : UInt8) : signsB (l ++ [c]) = (signsB l && signN c.toNat) := by simp [signsB]

/-- One part more on the way of a clean path. -/
def clStep (wh : Bool) (st : List (List UInt8)) (p : List UInt8) : List (List UInt8) :=
  if p = [46] then st
  else if p = [46, 46] then (if st ≠ [] ∧ st.getLast? ≠ some [46, 46] then st.dropLast else if wh then st else st ++ [p])
  else st ++ [p]
def clean (wh : Bool) (ps : List (List UInt8)) : List (List UInt8) := ps.foldl (clStep wh) []
theorem clean_snoc (wh : Bool) (ps : List (List UInt8)) (p : List UInt8) : clean wh (ps ++ [p]) = clStep wh (clean wh ps) p := by simp [clean]
def cleanOf (l : List UInt8) : List (List UInt8) := clean (wholeB l) (parts l)

def slashed (ps : List (List UInt8)) : List UInt8 := (ps.map fun p => 47 :: p).flatten
def pathL (ps : List (List UInt8)) : List UInt8 := if ps = [] then [47] else slashed ps
def cleanT (l : List UInt8) : List UInt8 := if wholeB l then pathL (cleanOf l) else if cleanOf l = [] then [46] else (slashed (cleanOf l)).drop 1

theorem slashed_snoc (ps : List (List UInt8)) (p : List UInt8) : slashed (ps ++ [p]) = slashed ps ++ 47 :: p := by simp [slashed]
theorem join_slashed : ∀ (ps : List (List UInt8)), ps ≠ [] → 47 :: Lib.join ps [47] = slashed ps
  | [], h => absurd rfl h
  | p :: r, _ => by rw [Lib.join_cons]; simp [slashed, Lib.joinTail]

/-! ### A rune's bytes -/

/-- A step of a range over a text goes over the byte at hand, and beyond it over bytes of 128 and more alone. -/
theorem decode_bytes (s : ByteArray) (pos : Nat) (h : pos < s.size) : pos + (Utf8.decode s pos).2 ≤ s.size ∧ 1 ≤ (Utf8.decode s pos).2 ∧ ∀ k (hk : k < s.size), pos < k → k < pos + (Utf8.decode s pos).2 → 128 ≤ (s[k]'hk).toNat := by
  have hb : ∀ k, (hk : k < s.size) → s.get! k = s[k]'hk := fun k hk => by simp [ByteArray.get!, getElem!_pos, hk]; rfl
  simp only [Utf8.decode]
  repeat' split
  all_goals simp only [ge_iff_le, Bool.and_eq_true, decide_eq_true_eq, beq_iff_eq] at *
  all_goals refine ⟨by omega, by omega, fun k hk h1 h2 => ?_⟩
  all_goals try omega
  · obtain rfl : k = pos + 1 := by omega
    rw [← hb _ hk]; omega
  · rcases (by omega : k = pos + 1 ∨ k = pos + 2) with rfl | rfl <;> (rw [← hb _ hk]; omega)
  · rcases (by omega : k = pos + 1 ∨ k = pos + 2 ∨ k = pos + 3) with rfl | rfl | rfl <;> (rw [← hb _ hk]; omega)

theorem decode_low (s : ByteArray) (pos : Nat) (h : pos < s.size) (hl : (Utf8.decode s pos).1 < 128) : (s[pos]'h).toNat = (Utf8.decode s pos).1 ∧ (Utf8.decode s pos).2 = 1 := by
  by_cases ha : (s[pos]'h).toNat < 128
  · rw [decode_ascii s pos h ha]; exact ⟨rfl, rfl⟩
  · have := (decode_high s pos h (by omega)).1; omega
theorem signN_lt {n : Nat} (h : signN n = true) : n < 128 := by simp [signN] at h; omega
theorem signN_hi {n : Nat} (h : 128 ≤ n) : signN n = false := by simp [signN]; omega

theorem take_snoc' (s : ByteArray) (k : Nat) (h : k < s.size) : s.data.toList.take (k + 1) = s.data.toList.take k ++ [s[k]] := by
  rw [List.take_succ_eq_append_getElem (by simpa using h)]; rfl

/-- Over a rune that is no slash. -/
theorem sp_rune (s : ByteArray) (pos : Nat) (h : pos < s.size) (hn : (Utf8.decode s pos).1 ≠ 47) :
    sp (s.data.toList.take (pos + (Utf8.decode s pos).2)) = ((sp (s.data.toList.take pos)).1, (sp (s.data.toList.take pos)).2 ++ (s.data.toList.take (pos + (Utf8.decode s pos).2)).drop pos) := by
  obtain ⟨hle, h1, hb⟩ := decode_bytes s pos h
  have hl : s.data.toList.length = s.size := len_size s
  have e : s.data.toList.take (pos + (Utf8.decode s pos).2) = s.data.toList.take pos ++ (s.data.toList.take (pos + (Utf8.decode s pos).2)).drop pos := by
    have e1 := (List.take_append_drop pos (s.data.toList.take (pos + (Utf8.decode s pos).2))).symm
    rw [List.take_take, Nat.min_eq_left (by omega)] at e1
    exact e1
  rw [e, sp_app]
  · rw [← e]
  · intro c hc e47
    subst e47
    obtain ⟨i, hi, he⟩ := List.getElem_of_mem hc
    simp only [List.length_drop, List.length_take, hl] at hi
    rw [List.getElem_drop, List.getElem_take] at he
    have hk : pos + i < s.size := by omega
    have he' : s[pos + i]'hk = 47 := he
    by_cases hi0 : i = 0
    · subst hi0
      have : (s[pos]'h).toNat = 47 := by have := congrArg UInt8.toNat he'; simpa using this
      have hlt : (s[pos]'h).toNat < 128 := by omega
      rw [decode_ascii s pos h hlt] at hn
      exact hn this
    · have := hb (pos + i) hk (by omega) (by omega)
      rw [he'] at this
      exact absurd this (by decide)

end Go.Proofs.YthobfdcomcknoaaDoor
