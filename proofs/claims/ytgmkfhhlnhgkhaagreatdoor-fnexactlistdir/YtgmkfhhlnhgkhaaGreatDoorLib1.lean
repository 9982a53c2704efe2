/-
  Joined: Base InC PathM NameC NameD IterC ListC ListD IterD GoodC WholeC.
  Conditions: as each states.
-/
import Derived.WalkKit
import Derived.ProofKit
import Derived.OpenShut
import Derived.Handy
import Derived.OpenVars
import Derived.Lib.SmallJoins
import Derived.Lib.Hide
import Derived.Laws.RangeAny
import Derived.Lib.Join
import Derived.Lib.OthersKept
import Derived.RangeFuncNested
import Derived.RangeFuncBound
import Derived.RangeFuncCalls
import Derived.RangeFuncLeaves
import Derived.Shelf.Abstract
import Derived.Shelf.RegionOpen
import Derived.OwnWalkIn
import Derived.TacticsInMore
import Derived.LoopNIn
import Derived.LoopIn
import Derived.Maps.AppendAt
import Derived.Test.YtgmkfhhlnhgkhaaGreatDoorRows

/-
  Small facts of this seat's own, for every law: what a law leaves behind where old memory has not turned; endings; a range test as a Bool; bits of numbers below 512.
  Conditions: as each states.
-/
namespace Go.Proofs.YtgmkfhhlnhgkhaaGreatDoor
open Go.ChangeShapes Go.WideShapes Go.ChangeAt Go.RowKit Go.Joins

/-- The arguments read behind the call as they did, one after another. -/
theorem args_stay {H : Type} {enc : TypeId × Value → H} {P : Program} (hl : laidOutB P = true) {W W' : World} (hb : Below W.heap.size W W') :
    ∀ {ts : List TypeId} {vs : List Value} {ds : List (DataW H)} {ps : List MemPlace}, (ts.all fun t => P.readableRec t && decide (t < P.types.size)) = true →
      DataW.TrodAll enc P W 0 (fun _ => true) true ts vs ds ps → (∀ x ∈ ps, x.block < W.heap.size) → DataW.TrodAll enc P W' 0 (fun b => decide (b < W.heap.size)) true ts vs ds ps
  | [], [], [], _, _, h, _ => h
  | t :: ts, v :: vs, d :: ds, ps, ht, h, hlt => by
    obtain ⟨p, q, h1, h2, rfl⟩ := h
    simp only [List.all_cons, Bool.and_eq_true] at ht
    refine ⟨p, q, Below.trod hl ht.1.1 (of_decide_eq_true ht.1.2) h1 hb (fun x hx => hlt x (by simp [hx])), args_stay hl hb (by simpa using ht.2) h2 (fun x hx => hlt x (by simp [hx])), rfl⟩
  | [], _ :: _, _, _, _, h, _ => by simp [DataW.TrodAll] at h
  | [], [], _ :: _, _, _, h, _ => by simp [DataW.TrodAll] at h
  | _ :: _, [], _, _, _, h, _ => by simp [DataW.TrodAll] at h
  | _ :: _, _ :: _, [], _, _, h, _ => by simp [DataW.TrodAll] at h

/-- A law that returned true and turned no old memory leaves what its row asks. -/
theorem law_post {H : Type} {enc : TypeId × Value → H} {P : Program} {f : Func} {s : ChangeSpec} {W W' : World} {args : Array Value} {ds gs : List (DataW H)} {before : List MemPlace} {tb : TypeId}
    (hl : laidOutB P = true) (hr : (f.params.toList.all fun t => P.readableRec t && decide (t < P.types.size)) = true) (hv : varsRowed P s.vars = true) (hrt : f.resultTypes = #[tb]) (hu : P.underlying tb = some .bool)
    (hW : DataW.Whole enc P f.params.toList s.vars false W args.toList ds gs before)
    (hfn : s.fn H (ds ++ gs) = { results := [.lit (.bool true)], args := ds, vars := gs }) (hb : Below W.heap.size W W') :
    s.post enc P f false true false false W args (.bool true) W' := by
  have hlt : ∀ x ∈ before, x.block < W.heap.size := fun x hx => hW.lt x hx
  obtain ⟨p, q, hA, hV, rfl, hz, hn⟩ := id hW
  refine ⟨ds, gs, p ++ q, [], p, q, hW, ?_, ?_, ?_, hb.frame _, fun h => by cases h⟩
  · rw [hfn, hrt]
    exact trodAll_cons_mk (shut_bool hu _) trodAll_mk0
  · rw [hfn]
    exact args_stay hl hb hr hA (fun x hx => hlt x (by simp [hx]))
  · rw [hfn]
    exact Below.trodVars hl hb hv hV

theorem ret_bool {a b : Bool} (h : a = b) : Ending.returned (.bool a) = .returned (.bool b) := by rw [h]
theorem ret_int {k : IntKind} {a b : Int} (h : a = b) : Ending.returned (.int k a) = .returned (.int k b) := by rw [h]
theorem ret_str {a b : ByteArray} (h : a = b) : Ending.returned (.string a) = .returned (.string b) := by rw [h]

/-- What lies below a block reads as it did: two rules for the walk. -/
theorem old_cells {B : Nat} {W w1 : World} (hb : Below B W w1) : (∀ b o, b < B → w1.cell? ⟨b, o, none⟩ = W.cell? ⟨b, o, none⟩) ∧ (∀ b o, b < B → w1.frozen? ⟨b, o, none⟩ = W.frozen? ⟨b, o, none⟩) :=
  ⟨fun b o h => hb.cell (p := ⟨b, o, none⟩) h, fun b o h => hb.frozen (p := ⟨b, o, none⟩) h⟩

def inB (lo hi n : Int) : Bool := decide (lo ≤ n) && decide (n ≤ hi)
theorem inB_t {lo hi n : Int} (h : inB lo hi n = true) : lo ≤ n ∧ n ≤ hi := by simpa [inB] using h
theorem inB_f {lo hi n : Int} (h : inB lo hi n = false) : n < lo ∨ hi < n := by
  simp [inB] at h; by_cases h0 : lo ≤ n
  · exact Or.inr (h h0)
  · exact Or.inl (by omega)
theorem inB_mk {lo hi n : Int} (h0 : lo ≤ n) (h1 : n ≤ hi) : true = inB lo hi n := by simp [inB, h0, h1]
theorem inB_no {lo hi n : Int} (h : n < lo ∨ hi < n) : false = inB lo hi n := by
  rcases h with h | h
  · simp [inB]; omega
  · simp [inB]; omega

theorem and7_fin : ∀ n : Fin 512, bits BinOp.and IntKind.i64 (n.val : Int) 7 = ((n.val % 8 : Nat) : Int) := by decide +kernel
theorem and7 (m : Int) (h0 : 0 ≤ m) (h1 : m ≤ 511) : bits BinOp.and IntKind.i64 m 7 = m % 8 := by
  have h := and7_fin ⟨m.toNat, by omega⟩
  simp only [] at h
  rw [show ((m.toNat : Nat) : Int) = m by omega] at h
  rw [h]; omega
end Go.Proofs.YtgmkfhhlnhgkhaaGreatDoor


/-
  The contract of the model's range test l1In.
  Conditions: none.
-/
namespace Go.Proofs.YtgmkfhhlnhgkhaaGreatDoor
open Go.ChangeShapes Go.WideShapes Go.ChangeAt Go.RowKit Go.Joins
set_option linter.unusedVariables false

set_option maxHeartbeats 400000 in
theorem l1In_any (n lo hi : Int) (w : World) : Calls Tryz.prog 86 #[.int .i64 n, .int .i64 lo, .int .i64 hi] w fun e w' => e = .returned (.bool (inB lo hi n)) ∧ w = w' := by
  by_cases h0 : lo ≤ n
  · by_cases h1 : n ≤ hi
    · go_enter Tryz.func86, Tryz.ntmps86
      go_wp2
      go_ret
      exact ⟨ret_bool (inB_mk h0 h1), rfl⟩
    · go_enter Tryz.func86, Tryz.ntmps86
      go_wp2
      go_ret
      exact ⟨ret_bool (inB_no (by omega)), rfl⟩
  · go_enter Tryz.func86, Tryz.ntmps86
    go_wp2
    go_ret
    exact ⟨ret_bool (inB_no (by omega)), rfl⟩
end Go.Proofs.YtgmkfhhlnhgkhaaGreatDoor


/-
  Plain facts on texts and paths as lists of bytes: cutting at slashes, good names and paths, cleaning. No program is named.
  Conditions: as each states.
-/
namespace Go.Proofs.YtgmkfhhlnhgkhaaGreatDoor
open Go

/-- The text of some bytes. -/
def bs (l : List UInt8) : ByteArray := ⟨l.toArray⟩
theorem bs_list (l : List UInt8) : (bs l).data.toList = l := by simp [bs]
theorem bs_size (l : List UInt8) : (bs l).size = l.length := by simp [bs, ByteArray.size]
theorem bs_of (s : ByteArray) : bs s.data.toList = s := by cases s; simp [bs]
theorem bs_inj {a b : List UInt8} : bs a = bs b ↔ a = b := ⟨fun h => by have := congrArg (fun x : ByteArray => x.data.toList) h; simpa [bs] using this, fun h => by rw [h]⟩
theorem bs_app (a b : List UInt8) : bs a ++ bs b = bs (a ++ b) := by
  apply ByteArray.ext; simp [bs, ByteArray.data_append]
theorem len_size (s : ByteArray) : s.data.toList.length = s.size := Array.length_toList
theorem bs_ext (s : ByteArray) (a b : Nat) : s.extract a b = bs ((s.data.toList.take b).drop a) := by
  apply ByteArray.ext
  apply Array.toList_inj.1
  simp [bs, ByteArray.data_extract, Array.toList_extract, List.drop_take, List.extract_eq_take_drop]

/-- Cutting at slashes: what is cut off, and what is under way. -/
def spStep (st : List (List UInt8) × List UInt8) (c : UInt8) : List (List UInt8) × List UInt8 := if c = 47 then (st.1 ++ [st.2], []) else (st.1, st.2 ++ [c])
def sp (l : List UInt8) : List (List UInt8) × List UInt8 := l.foldl spStep ([], [])
def full (ps : List (List UInt8)) : List (List UInt8) := ps.filter fun p => !p.isEmpty
def parts (l : List UInt8) : List (List UInt8) := full ((sp l).1 ++ [(sp l).2])

theorem sp_snoc (l : List UInt8) (c : UInt8) : sp (l ++ [c]) = spStep (sp l) c := by simp [sp]
theorem sp_app (l m : List UInt8) (h : ∀ c ∈ m, c ≠ 47) : sp (l ++ m) = ((sp l).1, (sp l).2 ++ m) := by
  induction m generalizing l with
  | nil => simp
  | cons c m ih =>
    have : l ++ c :: m = (l ++ [c]) ++ m := by simp
    rw [this, ih _ (fun d hd => h d (by simp [hd])), sp_snoc, spStep, if_neg (h c (by simp))]
    simp
theorem full_app (a b : List (List UInt8)) : full (a ++ b) = full a ++ full b := by simp [full]
theorem sp_le (l : List UInt8) : (sp l).1.length + (sp l).2.length ≤ l.length := by
  have : ∀ (m : List UInt8) (st : List (List UInt8) × List UInt8), (m.foldl spStep st).1.length + (m.foldl spStep st).2.length ≤ st.1.length + st.2.length + m.length := by
    intro m
    induction m with
    | nil => intro st; simp
    | cons c m ih =>
      intro st
      have := ih (spStep st c)
      simp only [List.foldl_cons, List.length_cons]
      have h2 : (spStep st c).1.length + (spStep st c).2.length ≤ st.1.length + st.2.length + 1 := by
        unfold spStep; split <;> simp <;> omega
      omega
  simpa [sp] using this l ([], [])

/-- Signs of names. -/
def signN (n : Nat) : Bool := decide (97 ≤ n ∧ n ≤ 122 ∨ 48 ≤ n ∧ n ≤ 57 ∨ n = 46 ∨ n = 95 ∨ n = 45)
def signsB (l : List UInt8) : Bool := l.all fun c => signN c.toNat
def partB (l : List UInt8) : Bool := decide (1 ≤ l.length ∧ l.length ≤ 8) && signsB l
def nameB (l : List UInt8) : Bool := partB l && (!(l == [46]) && !(l == [46, 46]))
def goodB (l : List UInt8) : Bool := decide (1 ≤ l.length ∧ l.length ≤ 60) && (parts l).all partB
def wholeB (l : List UInt8) : Bool := l.head? == some 47

theorem signsB_snoc (l : List UInt8) (c : UInt8) : signsB (l ++ [c]) = (signsB l && signN c.toNat) := by simp [signsB]

/-- One part more on the way of a clean path. -/
def clStep (wh : Bool) (st : List (List UInt8)) (p : List UInt8) : List (List UInt8) :=
  if p = [46] then st
  else if p = [46, 46] then (if st ≠ [] ∧ st.getLast? ≠ some [46, 46] then st.dropLast else if wh then st else st ++ [p])
  else st ++ [p]
def clean (wh : Bool) (ps : List (List UInt8)) : List (List UInt8) := ps.foldl (clStep wh) []
theorem clean_snoc (wh : Bool) (ps : List (List UInt8)) (p : List UInt8) : clean wh (ps ++ [p]) = clStep wh (clean wh ps) p := by simp [clean]
def cleanOf (l : List UInt8) : List (List UInt8) := clean (wholeB l) (parts l)

def slashed (ps : List (List UInt8)) : List UInt8 := (ps.map fun p => 47 :: p).flatten
def pathL (ps : List (List UInt8)) : List UInt8 := if ps = [] then [47] else slashed ps
def cleanT (l : List UInt8) : List UInt8 := if wholeB l then pathL (cleanOf l) else if cleanOf l = [] then [46] else (slashed (cleanOf l)).drop 1

theorem slashed_snoc (ps : List (List UInt8)) (p : List UInt8) : slashed (ps ++ [p]) = slashed ps ++ 47 :: p := by simp [slashed]
theorem join_slashed : ∀ (ps : List (List UInt8)), ps ≠ [] → 47 :: Lib.join ps [47] = slashed ps
  | [], h => absurd rfl h
  | p :: r, _ => by rw [Lib.join_cons]; simp [slashed, Lib.joinTail]

/-! ### A rune's bytes -/

/-- A step of a range over a text goes over the byte at hand, and beyond it over bytes of 128 and more alone. -/
theorem decode_bytes (s : ByteArray) (pos : Nat) (h : pos < s.size) : pos + (Utf8.decode s pos).2 ≤ s.size ∧ 1 ≤ (Utf8.decode s pos).2 ∧ ∀ k (hk : k < s.size), pos < k → k < pos + (Utf8.decode s pos).2 → 128 ≤ (s[k]'hk).toNat := by
  have hb : ∀ k, (hk : k < s.size) → s.get! k = s[k]'hk := fun k hk => by simp [ByteArray.get!, getElem!_pos, hk]; rfl
  simp only [Utf8.decode]
  repeat' split
  all_goals simp only [ge_iff_le, Bool.and_eq_true, decide_eq_true_eq, beq_iff_eq] at *
  all_goals refine ⟨by omega, by omega, fun k hk h1 h2 => ?_⟩
  all_goals try omega
  · obtain rfl : k = pos + 1 := by omega
    rw [← hb _ hk]; omega
  · rcases (by omega : k = pos + 1 ∨ k = pos + 2) with rfl | rfl <;> (rw [← hb _ hk]; omega)
  · rcases (by omega : k = pos + 1 ∨ k = pos + 2 ∨ k = pos + 3) with rfl | rfl | rfl <;> (rw [← hb _ hk]; omega)

theorem decode_low (s : ByteArray) (pos : Nat) (h : pos < s.size) (hl : (Utf8.decode s pos).1 < 128) : (s[pos]'h).toNat = (Utf8.decode s pos).1 ∧ (Utf8.decode s pos).2 = 1 := by
  by_cases ha : (s[pos]'h).toNat < 128
  · rw [decode_ascii s pos h ha]; exact ⟨rfl, rfl⟩
  · have := (decode_high s pos h (by omega)).1; omega
theorem signN_lt {n : Nat} (h : signN n = true) : n < 128 := by simp [signN] at h; omega
theorem signN_hi {n : Nat} (h : 128 ≤ n) : signN n = false := by simp [signN]; omega

theorem take_snoc' (s : ByteArray) (k : Nat) (h : k < s.size) : s.data.toList.take (k + 1) = s.data.toList.take k ++ [s[k]] := by
  rw [List.take_succ_eq_append_getElem (by simpa using h)]; rfl

/-- Over a rune that is no slash. -/
theorem sp_rune (s : ByteArray) (pos : Nat) (h : pos < s.size) (hn : (Utf8.decode s pos).1 ≠ 47) :
    sp (s.data.toList.take (pos + (Utf8.decode s pos).2)) = ((sp (s.data.toList.take pos)).1, (sp (s.data.toList.take pos)).2 ++ (s.data.toList.take (pos + (Utf8.decode s pos).2)).drop pos) := by
  obtain ⟨hle, h1, hb⟩ := decode_bytes s pos h
  have hl : s.data.toList.length = s.size := len_size s
  have e : s.data.toList.take (pos + (Utf8.decode s pos).2) = s.data.toList.take pos ++ (s.data.toList.take (pos + (Utf8.decode s pos).2)).drop pos := by
    have e1 := (List.take_append_drop pos (s.data.toList.take (pos + (Utf8.decode s pos).2))).symm
    rw [List.take_take, Nat.min_eq_left (by omega)] at e1
    exact e1
  rw [e, sp_app]
  · rw [← e]
  · intro c hc e47
    subst e47
    obtain ⟨i, hi, he⟩ := List.getElem_of_mem hc
    simp only [List.length_drop, List.length_take, hl] at hi
    rw [List.getElem_drop, List.getElem_take] at he
    have hk : pos + i < s.size := by omega
    have he' : s[pos + i]'hk = 47 := he
    by_cases hi0 : i = 0
    · subst hi0
      have : (s[pos]'h).toNat = 47 := by have := congrArg UInt8.toNat he'; simpa using this
      have hlt : (s[pos]'h).toNat < 128 := by omega
      rw [decode_ascii s pos h hlt] at hn
      exact hn this
    · have := hb (pos + i) hk (by omega) (by omega)
      rw [he'] at this
      exact absurd this (by decide)

end Go.Proofs.YtgmkfhhlnhgkhaaGreatDoor


/-
  Contracts of the tests of a name on both sides: impl.isNameSign, impl.isPart, impl.GoodName, spec.l1In, spec.l2Name, spec.GoodName.
  Conditions: a rune is a number of 32 bits; a text's length is a length.
-/
namespace Go.Proofs.YtgmkfhhlnhgkhaaGreatDoor
open Go.ChangeShapes Go.WideShapes Go.ChangeAt Go.RowKit Go.Joins
set_option linter.unusedVariables false

theorem sign_yes {n : Nat} (h : 97 ≤ n ∧ n ≤ 122 ∨ 48 ≤ n ∧ n ≤ 57 ∨ n = 46 ∨ n = 95 ∨ n = 45) : true = signN n := by simp [signN, h]

set_option maxHeartbeats 1000000 in
theorem sign_any (n : Nat) (w : World) (h : n ≤ 2147483647) : Calls Tryz.prog 137 #[.int .i32 (n : Int)] w fun e w' => e = .returned (.bool (signN n)) ∧ w = w' := by
  go_enter Tryz.func137, Tryz.ntmps137
  go_wp2
  all_goals
    go_ret
    exact ⟨ret_bool (by rw [Bool.eq_iff_iff]; simp [signN]; omega), rfl⟩

theorem below_iter (w : World) (s : ByteArray) (p : Nat) : Below w.heap.size w (w.iter s p) := (Below.refl _ _).alloc (Nat.le_refl _) _

theorem part_no {l : List UInt8} (h : ¬ (1 ≤ l.length ∧ l.length ≤ 8)) : false = partB l := by simp [partB, h]
theorem part_in {l : List UInt8} (h : 1 ≤ l.length ∧ l.length ≤ 8) : partB l = signsB l := by simp [partB, h]
theorem signs_bad {s : ByteArray} {k : Nat} (h : k < s.size) (hb : signN (s[k]'h).toNat = false) : signsB s.data.toList = false := by
  unfold signsB
  rw [List.all_eq_false]
  exact ⟨s[k]'h, List.getElem_mem (by simpa using h), by simp [hb]⟩

set_option maxHeartbeats 1000000 in
theorem isPart_any (s : ByteArray) (w : World) : Calls Tryz.prog 96 #[.string s] w fun e w' => e = .returned (.bool (partB s.data.toList)) ∧ Below w.heap.size w w' := by
  have hl : s.data.toList.length = s.size := len_size s
  by_cases h1 : 1 ≤ s.size
  · by_cases h8 : s.size ≤ 8
    · have e0 : ¬ ((s.size : Int) < 1) := by omega
      have e8 : ¬ (8 < (s.size : Int)) := by omega
      have HP := Lib.hid (part_in (l := s.data.toList) (by omega))
      have HL := Lib.hid hl
      clear hl
      go_enter Tryz.func96, Tryz.ntmps96
      go_wp2
      go_loopw [] (fun wr => ∃ k : Nat, wr = w.iter s k ∧ k ≤ s.size ∧ signsB (s.data.toList.take k) = true) (fun wr => s.size - wr.iterPos w.heap.size)
      case atStart => exact ⟨0, rfl, Nat.zero_le _, rfl⟩
      case round =>
        obtain ⟨k, rfl, hk, hs⟩ := hrel
        have HS := Lib.hid hs
        clear hs
        by_cases hlt : k < s.size
        · by_cases hg : signN (s[k]'hlt).toNat = true
          · have HG := Lib.hid hg
            have hnx := fun ty => run_next_ascii (P := Tryz.prog) w s k ty hlt (signN_lt hg)
            clear hg
            go_wp2_with (go_at_call 137; refine (sign_any _ _ (by have := (s[k]'hlt).toNat_lt; omega)).mono ?_; rintro e w' ⟨rfl, rfl⟩; rw [HG.out])
            go_roundw
            case rel => exact ⟨k + 1, rfl, hlt, by rw [take_snoc' s k hlt, signsB_snoc, HS.out, HG.out]; rfl⟩
            case measure => simp; omega
          · have hr : signN (Utf8.decode s k).1 = false := by
              by_cases ha : (s[k]'hlt).toNat < 128
              · rw [decode_ascii s k hlt ha]; simpa using hg
              · exact signN_hi (decode_high s k hlt (by omega)).1
            have HR := Lib.hid hr
            have HB := Lib.hid (signs_bad hlt (by simpa using hg))
            have hnx := fun ty => run_next_any (P := Tryz.prog) w s k ty hlt
            have hdl := decode_le s k
            clear hg hr
            go_wp2_with (go_at_call 137; refine (sign_any _ _ hdl).mono ?_; rintro e w' ⟨rfl, rfl⟩; rw [HR.out])
            go_ret
            exact ⟨ret_bool (by rw [HP.out, HB.out]), below_iter _ _ _⟩
        · have hnx := fun ty => run_next_end (P := Tryz.prog) w s k ty hlt
          go_wp2
          go_ret
          refine ⟨ret_bool ?_, below_iter _ _ _⟩
          rw [HP.out, ← HS.out, List.take_of_length_le (by rw [HL.out]; omega)]
    · have e0 : ¬ ((s.size : Int) < 1) := by omega
      have HP := Lib.hid (part_no (l := s.data.toList) (by omega))
      clear hl
      go_enter Tryz.func96, Tryz.ntmps96
      go_wp2
      go_ret
      exact ⟨ret_bool HP.out, Below.refl _ _⟩
  · have HP := Lib.hid (part_no (l := s.data.toList) (by omega))
    clear hl
    go_enter Tryz.func96, Tryz.ntmps96
    go_wp2
    go_ret
    exact ⟨ret_bool HP.out, Below.refl _ _⟩
end Go.Proofs.YtgmkfhhlnhgkhaaGreatDoor


/-
  Contracts of impl.GoodName, spec.l2Name, spec.GoodName.
  Conditions: a text's length is a length.
-/
namespace Go.Proofs.YtgmkfhhlnhgkhaaGreatDoor
open Go.ChangeShapes Go.WideShapes Go.ChangeAt Go.RowKit Go.Joins
set_option linter.unusedVariables false

set_option maxHeartbeats 1000000 in
theorem goodName_any (s : ByteArray) (w : World) : Calls Tryz.prog 39 #[.string s] w fun e w' => e = .returned (.bool (nameB s.data.toList)) ∧ Below w.heap.size w w' := by
  go_enter Tryz.func39, Tryz.ntmps39
  go_wp2_with fail
  refine (isPart_any _ _).mono ?_
  rintro e w' ⟨rfl, hb⟩
  go_wp2
  all_goals
    go_ret
    refine ⟨ret_bool ?_, hb⟩
    try simp only [ByteArray.toList_eq] at *
    simp [nameB, *]

theorem name_no {l : List UInt8} (h : signsB l = false) : false = nameB l := by simp [nameB, partB, h]
theorem name_in {l : List UInt8} (h : signsB l = true) : nameB l = (inB 1 8 l.length && (!(l == [46]) && !(l == [46, 46]))) := by
  have : decide (1 ≤ l.length ∧ l.length ≤ 8) = inB 1 8 l.length := by
    rw [Bool.eq_iff_iff]; simp [inB]; omega
  simp only [nameB, partB, h, this, Bool.and_true]

set_option maxHeartbeats 1000000 in
theorem l2Name_any (s : ByteArray) (w : World) (hs : s.size ≤ maxLen) : Calls Tryz.prog 134 #[.string s] w fun e w' => e = .returned (.bool (nameB s.data.toList)) ∧ w = w' := by
  unfold maxLen at hs
  go_enter Tryz.func134, Tryz.ntmps134
  go_wp2
  go_loop [3] (fun i => ∃ k : Nat, k ≤ s.size ∧ i = .int .i64 k ∧ signsB (s.data.toList.take k) = true) (fun i => s.size - (intOf i).toNat)
  case atStart => exact ⟨0, Nat.zero_le _, rfl, rfl⟩
  case round =>
    obtain ⟨k, hk, rfl, hg⟩ := hrel
    have HG := Lib.hid hg
    clear hg
    by_cases hlt : k < s.size
    · go_wp2
      all_goals first
        | (go_round
           case rel => exact ⟨k + 1, hlt, by go_num, by rw [take_snoc' s k hlt, signsB_snoc, HG.out]; simp at *; simp [signN]; omega⟩
           case measure => simp [intOf]; omega)
        | (go_ret
           refine ⟨ret_bool (name_no (signs_bad hlt ?_)), rfl⟩
           simp at *; simp [signN]; omega)
    · have HN := Lib.hid (name_in (l := s.data.toList) (by rw [← HG.out, List.take_of_length_le (by rw [len_size]; omega)]))
      go_wp2_with (go_at_call 86; refine (l1In_any _ _ _ _).mono ?_; rintro e w' ⟨rfl, rfl⟩)
      all_goals
        go_ret
        refine ⟨ret_bool ?_, rfl⟩
        rw [HN.out]
        simp only [ByteArray.toList_eq, len_size] at *
        simp [*]

end Go.Proofs.YtgmkfhhlnhgkhaaGreatDoor


/-
  The iterator impl.partsIn: it gives the parts of a text between slashes, in order, to whatever loop body keeps the text's own box and all iterators.
  Conditions: a text's length is a length.
-/
namespace Go.Proofs.YtgmkfhhlnhgkhaaGreatDoor
open Go.RowKit Go.Shelf
set_option linter.unusedVariables false
attribute [local go_sem] Oper.semAt_some

/-- What a round keeps: the iterators, and the text in box b. -/
def KpB (b : Nat) (W W' : World) : Prop := KeepsWalks W W' ∧ W'.cell? ⟨b, 0, none⟩ = W.cell? ⟨b, 0, none⟩
theorem kpB_t {b : Nat} {X Y Z : World} (h : KpB b X Y) (k : KpB b Y Z) : KpB b X Z := ⟨h.1.trans k.1, k.2.trans h.2⟩
theorem kpB_b {b : Nat} {w : World} (hb : b < w.heap.size) (W : World) (l : Nat) (o o' : Obj) (hl : w.heap.size ≤ l) (h : W.heap[l]? = some o) (_ : o.isCells = false) (hw : o.isWalk = false) : KpB b W (W.putObj l o') :=
  ⟨KeepsWalks.putObj _ h hw, World.cell?_of_block (World.putObj_heap_other (show b ≠ l by omega))⟩
theorem kpB_below {b n₀ : Nat} {W W' : World} (h : KeepsOthers W W') (hb : Below n₀ W W') (hn : b < n₀) : KpB b W W' := ⟨h.walks, hb.cell (p := ⟨b, 0, none⟩) hn⟩
theorem others_below {W W' : World} (hb : Below W.heap.size W W') : KeepsOthers W W' := ⟨hb.size, fun k o hk _ => (hb.block k (Array.getElem?_eq_some_iff.1 hk).1).trans hk⟩

theorem sp_prefix (a b : List UInt8) : (sp a).1 <+: (sp (a ++ b)).1 := by
  induction b generalizing a with
  | nil => simp
  | cons c b ih =>
    have e : a ++ c :: b = (a ++ [c]) ++ b := by simp
    rw [e]
    refine List.IsPrefix.trans ?_ (ih (a ++ [c]))
    rw [sp_snoc, spStep]
    split
    · exact ⟨[(sp a).2], rfl⟩
    · exact List.prefix_refl _
theorem full_prefix {a b : List (List UInt8)} (h : a <+: b) : full a <+: full b := by
  obtain ⟨t, rfl⟩ := h
  exact ⟨full t, (full_app a t).symm⟩
theorem done_prefix (l : List UInt8) (k : Nat) : full (sp (l.take k)).1 <+: parts l := by
  have h := sp_prefix (l.take k) (l.drop k)
  rw [List.take_append_drop] at h
  refine (full_prefix h).trans ?_
  exact full_prefix ⟨[(sp l).2], rfl⟩
theorem len_of_prefix {a b : List (List UInt8)} {x : List UInt8} (h : a ++ [x] <+: b) : a.length < b.length := by
  have := h.length_le; simp at this; omega
theorem map_prefix {a b : List (List UInt8)} (h : a <+: b) : a.map bs <+: b.map bs := by
  obtain ⟨t, rfl⟩ := h
  exact ⟨t.map bs, by simp⟩

/-- How far a text has been cut, at a place between two runes. -/
structure Cut (s : ByteArray) (pos frm : Nat) : Prop where
  le : frm ≤ pos
  top : pos ≤ s.size
  cur : (sp (s.data.toList.take pos)).2 = (s.data.toList.take pos).drop frm

/-- What has been given till then. -/
def given (s : ByteArray) (pos : Nat) : List (List UInt8) := full (sp (s.data.toList.take pos)).1

theorem Cut.start (s : ByteArray) : Cut s 0 0 := ⟨Nat.le_refl _, Nat.zero_le _, by simp [sp]⟩
theorem given_start (s : ByteArray) : given s 0 = [] := by simp [given, sp, full]
theorem Cut.rune {s : ByteArray} {pos frm : Nat} (h : Cut s pos frm) (hp : pos < s.size) (hn : (Utf8.decode s pos).1 ≠ 47) : Cut s (pos + (Utf8.decode s pos).2) frm ∧ given s (pos + (Utf8.decode s pos).2) = given s pos := by
  obtain ⟨hle, h1, _⟩ := decode_bytes s pos hp
  have e := sp_rune s pos hp hn
  refine ⟨⟨by have := h.le; omega, hle, ?_⟩, by unfold given; rw [e]⟩
  rw [e]
  simp only
  rw [h.cur]
  have hl := len_size s
  have e1 := (List.take_append_drop pos (s.data.toList.take (pos + (Utf8.decode s pos).2))).symm
  rw [List.take_take, Nat.min_eq_left (by omega)] at e1
  conv => rhs; rw [e1]
  rw [List.drop_append_of_le_length (by rw [List.length_take]; have := h.le; omega)]
theorem Cut.slash {s : ByteArray} {pos frm : Nat} (h : Cut s pos frm) (hp : pos < s.size) (h47 : (s[pos]'hp) = 47) :
    Cut s (pos + 1) (pos + 1) ∧ sp (s.data.toList.take (pos + 1)) = ((sp (s.data.toList.take pos)).1 ++ [(s.data.toList.take pos).drop frm], []) := by
  have e : sp (s.data.toList.take (pos + 1)) = ((sp (s.data.toList.take pos)).1 ++ [(s.data.toList.take pos).drop frm], []) := by
    rw [take_snoc' s pos hp, sp_snoc, spStep, if_pos h47, h.cur]
  refine ⟨⟨Nat.le_refl _, hp, ?_⟩, e⟩
  rw [e]
  exact (List.drop_eq_nil_of_le (by rw [List.length_take]; omega)).symm
theorem Cut.gives {s : ByteArray} {pos frm : Nat} (h : Cut s pos frm) (hp : pos < s.size) (h47 : (s[pos]'hp) = 47) (hlt : frm < pos) : given s (pos + 1) = given s pos ++ [(s.data.toList.take pos).drop frm] := by
  unfold given
  rw [(h.slash hp h47).2, full_app]
  have : (s.data.toList.take pos).drop frm ≠ [] := by
    intro e
    have := congrArg List.length e
    have hl := len_size s
    simp only [List.length_drop, List.length_take, List.length_nil, hl] at this
    omega
  simp [full, this]
theorem Cut.skips {s : ByteArray} {pos frm : Nat} (h : Cut s pos frm) (hp : pos < s.size) (h47 : (s[pos]'hp) = 47) (hlt : ¬ frm < pos) : given s (pos + 1) = given s pos := by
  unfold given
  rw [(h.slash hp h47).2, full_app]
  have : (s.data.toList.take pos).drop frm = [] := List.drop_eq_nil_of_le (by rw [List.length_take]; have := h.le; omega)
  simp [full, this]
theorem Cut.last {s : ByteArray} {frm : Nat} (h : Cut s s.size frm) (hlt : frm < s.size) : parts s.data.toList = given s s.size ++ [(s.data.toList.take s.size).drop frm] := by
  have hl := len_size s
  have c := h.cur
  have ht : s.data.toList.take s.size = s.data.toList := List.take_of_length_le (by omega)
  unfold parts given
  rw [full_app]
  rw [ht] at c ⊢
  rw [c]
  have : s.data.toList.drop frm ≠ [] := by
    intro e
    have := congrArg List.length e
    simp only [List.length_drop, List.length_nil, hl] at this
    omega
  simp [full, this]
theorem Cut.ended {s : ByteArray} {frm : Nat} (h : Cut s s.size frm) (hlt : ¬ frm < s.size) : parts s.data.toList = given s s.size := by
  have hl := len_size s
  have c := h.cur
  have ht : s.data.toList.take s.size = s.data.toList := List.take_of_length_le (by omega)
  unfold parts given
  rw [full_app]
  rw [ht] at c ⊢
  rw [c, List.drop_eq_nil_of_le (by omega)]
  simp [full]
theorem given_prefix (s : ByteArray) (pos : Nat) : given s pos <+: parts s.data.toList := done_prefix _ _

theorem slash_byte {s : ByteArray} {pos : Nat} (hp : pos < s.size) (h : (Utf8.decode s pos).1 = 47) : (s[pos]'hp) = 47 ∧ (Utf8.decode s pos).2 = 1 := by
  obtain ⟨h1, h2⟩ := decode_low s pos hp (by omega)
  exact ⟨UInt8.toNat_inj.1 (by rw [h1, h]; rfl), h2⟩

theorem abides_next {J : List ByteArray → World → Prop} {B I : Nat} (h : AbidesFrom B J) {pre : List ByteArray} {W : World} (hj : J pre W) {s : ByteArray} {pos : Nat} (hI : W.heap[I]? = some (.stringIter s pos)) (hB : B ≤ I) (pos' : Nat) : J pre (W.iterAt I s pos') :=
  h pre W _ (some I) hj ⟨rfl, rfl, rfl, by rw [Lib.iterAt_size]; exact Nat.le_refl _, fun k _ hk => Lib.iterAt_other W I k s pos' (fun e => hk (by rw [e]))⟩ (fun r e => by cases e; exact ⟨hB, _, hI, rfl⟩)
theorem cell_iterAt {W : World} {I : Nat} {s : ByteArray} {pos : Nat} {b : Nat} {v : Value} (hI : W.heap[I]? = some (.stringIter s pos)) (h : W.cell? ⟨b, 0, none⟩ = some v) (pos' : Nat) : (W.iterAt I s pos').cell? ⟨b, 0, none⟩ = some v := by
  have hne : b ≠ I := by
    intro e
    subst e
    simp [World.cell?, hI] at h
  exact (World.cell?_of_block (a := ⟨b, 0, none⟩) (Lib.iterAt_other W I b s pos' hne)).trans h

end Go.Proofs.YtgmkfhhlnhgkhaaGreatDoor


/-
  Lists of texts in memory: one that the call itself has built by append, and one that can be read; contracts of spec.l1Split (at slashes), spec.l2Parts.
  Conditions: a text of at most 2^30 bytes.
-/
namespace Go.Proofs.YtgmkfhhlnhgkhaaGreatDoor
open Go.ChangeShapes Go.WideShapes Go.ChangeAt Go.RowKit Go.Joins
set_option linter.unusedVariables false

theorem strInfo : (Tryz.prog.info? 9).map (fun i => (i.zero, i.size, i.bytes)) = some (some (.string ⟨#[]⟩), 1, 16) := by kernel_rfl

def strs (ps : List (List UInt8)) : List Value := ps.map fun p => .string (bs p)
/-- The value is a list of texts that the call has built, in blocks from B on. -/
def Lst (w : World) (B : Nat) (v : Value) (ps : List (List UInt8)) : Prop := w.ownsRow B 9 1 v ps.length (strs ps)
/-- The value reads as a list of texts. -/
def Rd (w : World) (v : Value) (ps : List (List UInt8)) : Prop :=
  ∃ o c, v = .slice o ps.length c ∧ ps.length ≤ c ∧ c ≤ maxLen ∧ ∀ i (h : i < ps.length), ∃ g off, o = some ⟨g, off, none⟩ ∧ g < w.heap.size ∧ w.cell? ⟨g, off + i, none⟩ = some (.string (bs ps[i]))

theorem Lst.nil (w : World) (B : Nat) : Lst w B (.slice none 0 0) [] := World.ownsRow_nil _ _ _ _
theorem Lst.alloc {w : World} {B : Nat} {v : Value} {ps : List (List UInt8)} (h : Lst w B v ps) (o : Obj) : w.alloc o |>.ownsRow B 9 1 v ps.length (strs ps) := World.ownsRow.alloc h o
theorem Lst.snoc {w : World} {B : Nat} {v : Value} {ps : List (List UInt8)} {p : List UInt8} {x : ByteArray} (hx : x = bs p) (h : w.ownsRow B 9 1 v (ps.length + 1) (strs ps ++ [.string x])) : Lst w B v (ps ++ [p]) := by
  subst hx
  unfold Lst
  simpa [strs] using h
theorem Lst.read {w : World} {B : Nat} {v : Value} {ps : List (List UInt8)} (h : Lst w B v ps) : Rd w v ps := by
  rcases h with ⟨hl, ⟨rfl, h0⟩ | ⟨g, cap, cur, rfl, hB, hg, hn, hm, hs, ht⟩⟩
  · have : ps = [] := List.eq_nil_of_length_eq_zero h0
    subst this
    exact ⟨none, 0, rfl, Nat.le_refl _, Nat.zero_le _, fun i hi => absurd hi (by simp)⟩
  · refine ⟨_, _, rfl, hn, hm, fun i hi => ⟨g, 0, rfl, (Array.getElem?_eq_some_iff.1 hg).1, ?_⟩⟩
    have h1 : cur[i]? = some (.string (bs ps[i])) := by
      rw [← Array.getElem?_toList]
      have h2 : (cur.toList.take (ps.length * 1))[i]? = some (.string (bs ps[i])) := by
        rw [ht]; simp [strs, hi]
      rw [List.getElem?_take] at h2
      rw [if_pos (by omega)] at h2
      exact h2
    simp [World.cell?, hg, h1]
theorem Rd.below {w w' : World} {v : Value} {ps : List (List UInt8)} (h : Rd w v ps) (hb : Below w.heap.size w w') : Rd w' v ps := by
  obtain ⟨o, c, rfl, h1, h2, h3⟩ := h
  refine ⟨o, c, rfl, h1, h2, fun i hi => ?_⟩
  obtain ⟨g, off, e, hg, hc⟩ := h3 i hi
  exact ⟨g, off, e, Nat.lt_of_lt_of_le hg hb.size, (hb.cell (p := ⟨g, off + i, none⟩) hg).trans hc⟩
theorem Rd.nil (w : World) : Rd w (.slice none 0 0) [] := ⟨none, 0, rfl, Nat.le_refl _, Nat.zero_le _, fun i hi => absurd hi (by simp)⟩

theorem lst_mono {w : World} {A B : Nat} {v : Value} {ps : List (List UInt8)} (h : Lst w B v ps) (hAB : A ≤ B) : Lst w A v ps := by
  rcases h with ⟨hl, hn | ⟨g, cap, cur, e, hB, rest⟩⟩
  · exact ⟨hl, .inl hn⟩
  · exact ⟨hl, .inr ⟨g, cap, cur, e, Nat.le_trans hAB hB, rest⟩⟩

/-- What stands behind an append onto such a list. -/
theorem below_app {w wr w1 : World} {B : Nat} {v : Value} {n : Nat} {xs : List Value} {tmp : Obj} (hb : Below B w wr) (hB : B ≤ wr.heap.size) (hown : wr.ownsRow B 9 1 v n xs) (hg : (wr.alloc tmp).grownBy w1 v.ownBlock) : Below B w w1 := by
  refine (hb.alloc hB tmp).grown hg (by simp; omega) fun j ej => ?_
  rcases hown.2 with ⟨rfl, _⟩ | ⟨g, cap, cur, rfl, hgb, _, _⟩
  · simp [Value.ownBlock] at ej
  · obtain rfl : g = j := by simpa [Value.ownBlock] using ej
    exact hgb

theorem sp_one_le (l : List UInt8) : (sp l).1.length ≤ l.length := by have := sp_le l; omega

theorem not47 {c : UInt8} (h : c ≠ 47) : (c.toNat : Int) ≠ 47 := by
  intro e
  refine h (UInt8.toNat_inj.1 ?_)
  show c.toNat = 47
  omega

set_option maxHeartbeats 1000000 in
theorem l1Split_any (s : ByteArray) (w : World) (hs : s.size ≤ 1073741824) : Calls Tryz.prog 168 #[.string s, .int .u8 47] w fun e w' => ∃ v, e = .returned v ∧ Lst w' w.heap.size v ((sp s.data.toList).1 ++ [(sp s.data.toList).2]) ∧ Below w.heap.size w w' := by
  obtain ⟨i0, hi, hz0, hz1, hz2⟩ := info_parts strInfo
  go_enter Tryz.func168, Tryz.ntmps168
  go_wp2
  go_loopw [5, 6, 7] (fun v f i wr => ∃ k frm : Nat, i = .int .i64 k ∧ f = .int .i64 frm ∧ Cut s k frm ∧ Lst wr w.heap.size v (sp (s.data.toList.take k)).1 ∧ Below w.heap.size w wr) (fun _ _ i _ => s.size - (intOf i).toNat)
  case atStart => exact ⟨0, 0, rfl, rfl, Cut.start s, Lst.nil _ _, Below.refl _ _⟩
  case round =>
    obtain ⟨k, frm, rfl, rfl, hC, hL, hB⟩ := hrel
    have HC := Lib.hid hC
    have hle := hC.le
    have htop := hC.top
    have hlen : (sp (s.data.toList.take k)).1.length ≤ k := Nat.le_trans (sp_one_le _) (List.length_take_le _ _)
    clear hC
    by_cases hlt : k < s.size
    · by_cases h47 : (s[k]'hlt) = 47
      · have hb : ((s[k]'hlt).toNat : Int) = 47 := by rw [h47]; rfl
        have HB := Lib.hid h47
        clear h47
        go_wp2_with (at_builtin; refine wpList_append_own _ rfl _ _ 58 rfl w.heap.size 9 i0 (.string ⟨#[]⟩) 1 16 Tryz.underlying58 hi hz0 hz1 hz2 rfl (by decide) _ _ _ rfl (hL.alloc _) ⟨wr.heap.size, 0, none⟩ 1 1 [.string (s.extract frm k)] rfl rfl (cell_one_new _ _ _) (by simp [Value.oneCell']) (by unfold maxLen; omega) (by omega) (by have := hB.size; simp; omega) ?_)
        intro v' w1 hown' hgrow _
        have hb1 := below_app hB hB.size hL hgrow
        have HL := Lib.hid (Lst.snoc (bs_ext s frm k) hown')
        clear hown' hgrow hL
        go_wp2
        go_roundw
        case rel => exact ⟨k + 1, k + 1, by go_num, by go_num, (HC.out.slash hlt HB.out).1, by rw [(HC.out.slash hlt HB.out).2]; exact HL.out, hb1⟩
        case measure => simp [intOf]; omega
      · have hb : ((s[k]'hlt).toNat : Int) ≠ 47 := not47 h47
        have hb' : (((s[k]'hlt).toNat : Int) == 47) = false := by simpa using hb
        have HB := Lib.hid h47
        clear h47 hb
        go_wp2
        go_roundw
        case rel =>
          have e1 := sp_snoc (s.data.toList.take k) (s[k]'hlt)
          rw [← take_snoc' s k hlt, spStep, if_neg HB.out] at e1
          refine ⟨k + 1, frm, by go_num, rfl, ⟨by omega, hlt, ?_⟩, by rw [e1]; exact hL, hB⟩
          rw [e1, HC.out.cur, take_snoc' s k hlt]
          have := len_size s
          rw [List.drop_append_of_le_length (by rw [List.length_take]; omega)]
        case measure => simp [intOf]; omega
    · obtain rfl : k = s.size := by omega
      go_wp2_with (at_builtin; refine wpList_append_own _ rfl _ _ 58 rfl w.heap.size 9 i0 (.string ⟨#[]⟩) 1 16 Tryz.underlying58 hi hz0 hz1 hz2 rfl (by decide) _ _ _ rfl (hL.alloc _) ⟨wr.heap.size, 0, none⟩ 1 1 [.string (s.extract frm s.size)] rfl rfl (cell_one_new _ _ _) (by simp [Value.oneCell']) (by unfold maxLen; omega) (by omega) (by have := hB.size; simp; omega) ?_)
      intro v' w1 hown' hgrow _
      have hb1 := below_app hB hB.size hL hgrow
      have HL := Lib.hid (Lst.snoc (bs_ext s frm s.size) hown')
      clear hown' hgrow hL
      go_wp2
      go_ret
      refine ⟨_, rfl, ?_, hb1⟩
      have h1 := HL.out
      have c := HC.out.cur
      rw [← c] at h1
      rwa [List.take_of_length_le (by rw [len_size]; omega)] at h1
end Go.Proofs.YtgmkfhhlnhgkhaaGreatDoor


/-
  Contracts of spec.l2Parts, spec.l2Path, spec.GoodPath.
  Conditions: a text of at most 2^30 bytes.
-/
namespace Go.Proofs.YtgmkfhhlnhgkhaaGreatDoor
open Go.ChangeShapes Go.WideShapes Go.ChangeAt Go.RowKit Go.Joins
set_option linter.unusedVariables false

theorem full_take_yes {qs : List (List UInt8)} {k : Nat} (h : k < qs.length) (hn : qs[k] ≠ []) : full (qs.take (k + 1)) = full (qs.take k) ++ [qs[k]] := by
  rw [List.take_succ_eq_append_getElem h, full_app]; simp [full, hn]
theorem full_take_no {qs : List (List UInt8)} {k : Nat} (h : k < qs.length) (hn : qs[k] = []) : full (qs.take (k + 1)) = full (qs.take k) := by
  rw [List.take_succ_eq_append_getElem h, full_app]; simp [full, hn]
theorem full_le (qs : List (List UInt8)) : (full qs).length ≤ qs.length := List.length_filter_le _ _
theorem text_ne {p : List UInt8} (h : p ≠ []) : ((bs p).toList.isEmpty) = false ∧ (!(bs p).toList.isEmpty) = true ∧ (bs p).toList ≠ [] := by
  rw [ByteArray.toList_eq, bs_list]
  refine ⟨?_, ?_, h⟩ <;> cases p <;> simp_all
theorem split_len (l : List UInt8) : ((sp l).1 ++ [(sp l).2]).length ≤ l.length + 1 := by have := sp_one_le l; simp; omega

set_option maxHeartbeats 1000000 in
theorem l2Parts_any (s : ByteArray) (w : World) (hs : s.size ≤ 1073741824) : Calls Tryz.prog 131 #[.string s] w fun e w' => ∃ v, e = .returned v ∧ Lst w' w.heap.size v (parts s.data.toList) ∧ Below w.heap.size w w' := by
  obtain ⟨i0, hi, hz0, hz1, hz2⟩ := info_parts strInfo
  have hql := split_len s.data.toList
  rw [len_size] at hql
  have HQ : Hid (parts s.data.toList = full ((sp s.data.toList).1 ++ [(sp s.data.toList).2])) := Lib.hid rfl
  go_enter Tryz.func131, Tryz.ntmps131
  go_wp2_with fail
  refine (l1Split_any s _ hs).mono ?_
  rintro e w1 ⟨v, rfl, hL, hb1⟩
  obtain ⟨qs, hqs⟩ : ∃ qs, qs = (sp s.data.toList).1 ++ [(sp s.data.toList).2] := ⟨_, rfl⟩
  rw [← hqs] at hL hql
  have HQ2 := Lib.hid (HQ.out.trans (congrArg full hqs.symm))
  clear hqs HQ
  obtain ⟨o, c, rfl, hlc, hcm, hH⟩ := hL.read
  have HH := Lib.hid hH
  clear hH hL
  unfold maxLen at hcm
  go_wp2
  go_loopw [3, 9] (fun out i wr => ∃ k : Nat, k ≤ qs.length ∧ i = .int .i64 k ∧ Lst wr w1.heap.size out (full (qs.take k)) ∧ Below w1.heap.size w1 wr) (fun _ i _ => qs.length - (intOf i).toNat)
  case atStart => exact ⟨0, Nat.zero_le _, rfl, Lst.nil _ _, Below.refl _ _⟩
  case round =>
    obtain ⟨k, hk, rfl, hL, hB⟩ := hrel
    have hfl : (full (qs.take k)).length ≤ k := Nat.le_trans (full_le _) (List.length_take_le _ _)
    by_cases hlt : k < qs.length
    · obtain ⟨g, off, rfl, hg, hc⟩ := HH.out k hlt
      have hcell : wr.cell? ⟨g, off + k, none⟩ = some (.string (bs qs[k])) := (hB.cell (p := ⟨g, off + k, none⟩) hg).trans hc
      clear hc
      by_cases hp : qs[k] = []
      · have HF := Lib.hid (full_take_no hlt hp)
        rw [hp] at hcell
        clear hp
        have hcell' : wr.cell? ⟨g, off + k, none⟩ = some (.string ⟨#[]⟩) := hcell
        clear hcell
        go_wp2
        go_roundw
        case rel => exact ⟨k + 1, hlt, by go_num, by rw [HF.out]; exact hL, hB⟩
        case measure => simp [intOf]; omega
      · have HF := Lib.hid (full_take_yes hlt hp)
        obtain ⟨hp1, hp2, hp3⟩ := text_ne hp
        obtain ⟨x, hx⟩ : ∃ x, x = bs qs[k] := ⟨_, rfl⟩
        rw [← hx] at hcell hp1 hp2 hp3
        have HX := Lib.hid hx
        clear hx hp
        go_wp2_with (at_builtin; refine wpList_append_own _ rfl _ _ 58 rfl w1.heap.size 9 i0 (.string ⟨#[]⟩) 1 16 Tryz.underlying58 hi hz0 hz1 hz2 rfl (by decide) _ _ _ rfl (hL.alloc _) ⟨wr.heap.size, 0, none⟩ 1 1 [.string x] rfl rfl (cell_one_new _ _ _) (by simp [Value.oneCell']) (by unfold maxLen; omega) (by omega) (by have := hB.size; simp; omega) ?_)
        intro v' w2 hown' hgrow _
        have hb2 := below_app hB hB.size hL hgrow
        have HL := Lib.hid (Lst.snoc HX.out hown')
        clear hown' hgrow hL
        go_wp2
        go_roundw
        case rel => exact ⟨k + 1, hlt, by go_num, by rw [HF.out]; exact HL.out, hb2⟩
        case measure => simp [intOf]; omega
    · have HF : Hid (full (qs.take k) = parts s.data.toList) := Lib.hid (by rw [HQ2.out, List.take_of_length_le (by omega)])
      go_wp2
      go_ret
      refine ⟨_, rfl, ?_, hb1.trans (hB.mono hb1.size)⟩
      rw [HF.out] at hL
      exact lst_mono hL hb1.size

theorem snoc_ind {P : List UInt8 → Prop} (h0 : P []) (hs : ∀ l c, P l → P (l ++ [c])) (l : List UInt8) : P l := by
  have : ∀ m : List UInt8, P m.reverse := by
    intro m
    induction m with
    | nil => exact h0
    | cons c m ih => rw [List.reverse_cons]; exact hs _ _ ih
  simpa using this l.reverse
theorem sp_pieces (l : List UInt8) : (∀ p ∈ (sp l).1, p.length ≤ l.length) ∧ (sp l).2.length ≤ l.length := by
  induction l using snoc_ind with
  | h0 => simp [sp]
  | hs l c ih =>
    rw [sp_snoc, spStep]
    split
    · refine ⟨fun p hp => ?_, by simp⟩
      rcases List.mem_append.1 hp with h | h
      · have := ih.1 p h; simp; omega
      · simp at h; subst h; have := ih.2; simp; omega
    · refine ⟨fun p hp => by have := ih.1 p hp; simp; omega, by have := ih.2; simp; omega⟩
theorem part_le {l p : List UInt8} (h : p ∈ parts l) : p.length ≤ l.length := by
  unfold parts full at h
  have h1 := (List.mem_filter.1 h).1
  rcases List.mem_append.1 h1 with h2 | h2
  · exact (sp_pieces l).1 p h2
  · simp at h2; subst h2; exact (sp_pieces l).2
theorem name_part {p : List UInt8} (h : nameB p = true) : partB p = true := by simp [nameB] at h; exact h.1
theorem part_else {p : List UInt8} (hn : nameB p = false) (h1 : p ≠ [46]) (h2 : p ≠ [46, 46]) : partB p = false := by
  simpa [nameB, h1, h2] using hn
theorem text_neq {p q : List UInt8} (h : p ≠ q) : ((bs p).toList == q) = false := by
  rw [ByteArray.toList_eq, bs_list]; simpa using h
theorem parts_le (l : List UInt8) : (parts l).length ≤ l.length + 1 := Nat.le_trans (full_le _) (split_len l)

set_option maxHeartbeats 1000000 in
theorem l2Path_any (s : ByteArray) (w : World) (hs : s.size ≤ 1073741824) : Calls Tryz.prog 145 #[.string s] w fun e w' => e = .returned (.bool (goodB s.data.toList)) ∧ Below w.heap.size w w' := by
  have hpl := parts_le s.data.toList
  rw [len_size] at hpl
  have HP : Hid (∀ p ∈ parts s.data.toList, p.length ≤ s.size) := Lib.hid (fun p hp => by have := part_le hp; rwa [len_size] at this)
  have HG : Hid (goodB s.data.toList = (inB 1 60 s.size && (parts s.data.toList).all partB)) := Lib.hid (by
    have : decide (1 ≤ s.data.toList.length ∧ s.data.toList.length ≤ 60) = inB 1 60 s.size := by
      rw [len_size, Bool.eq_iff_iff]; simp [inB]; omega
    rw [goodB, this])
  go_enter Tryz.func145, Tryz.ntmps145
  go_wp2_with fail
  refine (l2Parts_any s _ hs).mono ?_
  rintro e w1 ⟨v, rfl, hL, hb1⟩
  obtain ⟨ps, hps⟩ : ∃ ps, ps = parts s.data.toList := ⟨_, rfl⟩
  rw [← hps] at hL hpl
  have HP2 : Hid (∀ p ∈ ps, p.length ≤ s.size) := Lib.hid (by rw [hps]; exact HP.out)
  have HG2 : Hid (goodB s.data.toList = (inB 1 60 s.size && ps.all partB)) := Lib.hid (by rw [hps]; exact HG.out)
  clear hps HP HG
  obtain ⟨o, c, rfl, hlc, hcm, hH⟩ := hL.read
  have HH := Lib.hid hH
  clear hH hL
  unfold maxLen at hcm
  go_wp2
  go_loop [8] (fun i => ∃ k : Nat, k ≤ ps.length ∧ i = .int .i64 k ∧ (ps.take k).all partB = true) (fun i => ps.length - (intOf i).toNat)
  case atStart => exact ⟨0, Nat.zero_le _, rfl, rfl⟩
  case round =>
    obtain ⟨k, hk, rfl, hA⟩ := hrel
    have HA := Lib.hid hA
    clear hA
    by_cases hlt : k < ps.length
    · obtain ⟨g, off, rfl, hg, hcell⟩ := HH.out k hlt
      have hsz : (bs ps[k]).size ≤ maxLen := by
        rw [bs_size]; have := HP2.out _ (List.getElem_mem hlt); unfold maxLen; omega
      have HT : Hid ((ps.take (k + 1)).all partB = partB ps[k]) := Lib.hid (by rw [List.take_succ_eq_append_getElem hlt, List.all_append, HA.out]; simp)
      have HBad : partB ps[k] = false → ps.all partB = false := fun h => by
        rw [List.all_eq_false]; exact ⟨_, List.getElem_mem hlt, by simp [h]⟩
      have HBd := Lib.hid HBad
      clear HBad
      by_cases hn : nameB ps[k] = true
      · have HN : Hid (nameB (bs ps[k]).data.toList = true) := Lib.hid (by rw [bs_list]; exact hn)
        have HPt := Lib.hid (name_part hn)
        clear hn
        go_wp2_with (go_at_call 134; refine (l2Name_any _ _ hsz).mono ?_; rintro e w' ⟨rfl, rfl⟩; rw [HN.out])
        go_round
        case rel => exact ⟨k + 1, hlt, by go_num, by rw [HT.out, HPt.out]⟩
        case measure => simp [intOf]; omega
      · have hn' : nameB ps[k] = false := by simpa using hn
        by_cases h1 : ps[k] = [46]
        · have HPt : Hid (partB ps[k] = true) := Lib.hid (by rw [h1]; decide)
          rw [h1] at hcell
          have hcell' : w1.cell? ⟨g, off + k, none⟩ = some (.string ⟨#[46]⟩) := hcell
          have HN : Hid (nameB (ByteArray.mk #[46]).data.toList = false) := Lib.hid (by decide)
          clear hcell hn hn' h1 hsz
          go_wp2_with (go_at_call 134; refine (l2Name_any _ _ (by decide)).mono ?_; rintro e w' ⟨rfl, rfl⟩; rw [HN.out])
          go_round
          case rel => exact ⟨k + 1, hlt, by go_num, by rw [HT.out, HPt.out]⟩
          case measure => simp [intOf]; omega
        · by_cases h2 : ps[k] = [46, 46]
          · have HPt : Hid (partB ps[k] = true) := Lib.hid (by rw [h2]; decide)
            rw [h2] at hcell
            have hcell' : w1.cell? ⟨g, off + k, none⟩ = some (.string ⟨#[46, 46]⟩) := hcell
            have HN : Hid (nameB (ByteArray.mk #[46, 46]).data.toList = false) := Lib.hid (by decide)
            clear hcell hn hn' h1 h2 hsz
            go_wp2_with (go_at_call 134; refine (l2Name_any _ _ (by decide)).mono ?_; rintro e w' ⟨rfl, rfl⟩; rw [HN.out])
            go_round
            case rel => exact ⟨k + 1, hlt, by go_num, by rw [HT.out, HPt.out]⟩
            case measure => simp [intOf]; omega
          · have HPt := Lib.hid (part_else hn' h1 h2)
            have HN : Hid (nameB (bs ps[k]).data.toList = false) := Lib.hid (by rw [bs_list]; exact hn')
            have t1 := text_neq h1
            have t2 := text_neq h2
            obtain ⟨x, hx⟩ : ∃ x, x = bs ps[k] := ⟨_, rfl⟩
            rw [← hx] at hcell hsz t1 t2 HN
            clear hn hn' h1 h2 hx
            go_wp2_with (go_at_call 134; refine (l2Name_any _ _ hsz).mono ?_; rintro e w' ⟨rfl, rfl⟩; rw [HN.out])
            go_ret
            exact ⟨ret_bool (by rw [HG2.out, HBd.out HPt.out, Bool.and_false]), hb1⟩
    · go_wp2_with (go_at_call 86; refine (l1In_any _ _ _ _).mono ?_; rintro e w' ⟨rfl, rfl⟩)
      go_ret
      refine ⟨ret_bool ?_, hb1⟩
      have := HA.out
      rw [List.take_of_length_le (by omega)] at this
      rw [HG2.out, this, Bool.and_true]

end Go.Proofs.YtgmkfhhlnhgkhaaGreatDoor


/-
  The walks of impl.partsIn and of its closure.
  Conditions: a text's length is a length.
-/
namespace Go.Proofs.YtgmkfhhlnhgkhaaGreatDoor
open Go.RowKit Go.Shelf
set_option linter.unusedVariables false
attribute [local go_sem] Oper.semAt_some

set_option maxHeartbeats 1000000 in
theorem partsIn_in (F : Fence) (n : Nat) (hf : F.fn 158) (hro : F.round = none) (s : ByteArray) (w : World) :
    CallsIn F n Tryz.prog 158 #[.string s] w fun e w' => e = .returned (.func (.func 178) #[] #[.pointer (some ⟨w.heap.size, 0, none⟩)]) ∧ w' = w.alloc (.cells #[.string s] 9) := by
  refine callsIn_of_wp Tryz.func158 rfl hf ?_ hro
  simp only [Tryz.ntmps158, List.size_toArray, List.length_cons, List.length_nil, Nat.reduceAdd, Nat.reduceSub, Array.replicate_succ, Array.replicate_zero, List.push_toArray, List.append_toArray, List.nil_append, List.cons_append]
  gi_wp2
  go_ret
  exact ⟨rfl, rfl⟩

set_option maxRecDepth 100000 in
set_option maxHeartbeats 2000000 in
theorem iter_in (F : Fence) (n : Nat) (hf : F.fn 178) (hro : F.round = none) (hn : 1 ≤ n) (l b : Nat) (s : ByteArray) (hs : s.size ≤ maxLen) (J Jx : List ByteArray → World → Prop) (W : World) (hJ : AbidesFrom W.heap.size J)
    (hY : ∀ pre x W1, J pre W1 → pre.length < (parts s.data.toList).length → YieldAt F (n - 1) Tryz.prog l #[.string x] W1 fun e W' =>
      (e = .returned (.bool true) ∧ J (pre ++ [x]) W' ∧ KpB b W1 W') ∨ (e = .returned (.bool false) ∧ Jx (pre ++ [x]) W'))
    (hB : W.cell? ⟨b, 0, none⟩ = some (.string s)) (h0 : J [] W) :
    CallsIn F n Tryz.prog 178 #[.func (.yield l) #[] #[], .pointer (some ⟨b, 0, none⟩)] W fun e W' => (∃ v, e = .returned v) ∧
      ((∃ ys, ys = (parts s.data.toList).map bs ∧ J ys W') ∨ (∃ pre, pre <+: (parts s.data.toList).map bs ∧ Jx pre W')) := by
  unfold maxLen at hs
  refine callsIn_of_wp Tryz.func178 rfl hf ?_ hro
  simp only [Tryz.ntmps178, List.size_toArray, List.length_cons, List.length_nil, Nat.reduceAdd, Nat.reduceSub, Array.replicate_succ, Array.replicate_zero, List.push_toArray, List.append_toArray, List.nil_append, List.cons_append]
  gi_wp2
  gi_loopw [3] (fun f wr => ∃ (pos frm : Nat), f = .int .i64 frm ∧ Cut s pos frm ∧ wr.heap[W.heap.size]? = some (.stringIter s pos) ∧ wr.cell? ⟨b, 0, none⟩ = some (.string s) ∧ J ((given s pos).map bs) wr)
    (fun _ wr => s.size - wr.iterPos W.heap.size)
  case atStart =>
    refine ⟨0, 0, rfl, Cut.start s, ?_, ?_, ?_⟩
    · exact World.iter_heap W s 0
    · exact (World.cell?_of_block (a := ⟨b, 0, none⟩) (Below.heap_alloc W _ b (World.block_lt_of_cell? W _ hB))).trans hB
    · rw [given_start]
      exact hJ [] W _ none h0 (World.grownBy_alloc W _ none) (fun r e => by cases e)
  case round =>
    obtain ⟨pos, frm, rfl, hC, hit, hcell, hj⟩ := hrel
    have HC := Lib.hid hC
    have htop := hC.top
    have hle := hC.le
    clear hC
    by_cases hp : pos < s.size
    · by_cases h47 : (Utf8.decode s pos).1 = 47
      · obtain ⟨hb47, hw1⟩ := slash_byte hp h47
        have hnx : ∀ ty, (Instr.next (.pointer (some ⟨W.heap.size, 0, none⟩)) true ty).run Tryz.prog wr = .ok (.tuple #[.bool true, .int .i64 pos, .int .i32 47]) (wr.iterAt W.heap.size s (pos + 1)) := by
          intro ty
          rw [Lib.run_next_any_at wr W.heap.size s pos ty hit hp, h47, hw1]
          rfl
        have hit2 := Lib.iterAt_heap wr W.heap.size s pos (pos + 1) hit
        have hcell2 := cell_iterAt hit hcell (pos + 1)
        have hj2 := abides_next hJ hj hit (Nat.le_refl _) (pos + 1)
        have HS := Lib.hid (HC.out.slash hp hb47).1
        have HM : Hid (wr.iterPos W.heap.size = pos) := Lib.hid (by simp [World.iterPos, hit])
        by_cases hlt : frm < pos
        · have HG := Lib.hid (HC.out.gives hp hb47 hlt)
          have hpre : (given s pos).length < (parts s.data.toList).length := len_of_prefix (by rw [← HG.out]; exact given_prefix s (pos + 1))
          have HX : Hid (s.extract frm pos = bs ((s.data.toList.take pos).drop frm)) := Lib.hid (bs_ext s frm pos)
          obtain ⟨fn, tmps, assign, body, hy, hR⟩ := hY ((given s pos).map bs) (s.extract frm pos) _ hj2 (by simpa using hpre)
          clear hb47 hw1 h47
          have HIT := Lib.hid hit2
          clear hit hit2
          gi_wp2
          refine hR.mono ?_
          rintro e W3 (⟨rfl, hJ3, hk3⟩ | ⟨rfl, hJx3⟩)
          · have hc3 : W3.cell? ⟨b, 0, none⟩ = some (.string s) := hk3.2.trans hcell2
            gi_wp2
            go_roundw
            case rel =>
              refine ⟨pos + 1, pos + 1, by go_num, HS.out, hk3.1.same _ _ HIT.out rfl, hc3, ?_⟩
              rw [HG.out, List.map_append, List.map_cons, List.map_nil, ← HX.out]
              exact hJ3
            case measure =>
              have : W3.iterPos W.heap.size = pos + 1 := by simp [World.iterPos, hk3.1.same _ _ HIT.out rfl]
              rw [HM.out, this]; omega
          · gi_wp2
            refine bodyPost_ret (results_none rfl _ _ _) rfl ?_
            refine ⟨⟨_, rfl⟩, .inr ⟨_, ?_, hJx3⟩⟩
            have := map_prefix (given_prefix s (pos + 1))
            rw [HG.out, List.map_append, List.map_cons, List.map_nil, ← HX.out] at this
            exact this
        · have HG := Lib.hid (HC.out.skips hp hb47 hlt)
          clear hb47 hw1 h47
          have HIT := Lib.hid hit2
          clear hit hit2
          gi_wp2
          refine ⟨fun _ h => (by cases h), ?_⟩
          gi_wp2
          go_roundw
          case rel => exact ⟨pos + 1, pos + 1, by go_num, HS.out, HIT.out, hcell2, by rw [HG.out]; exact hj2⟩
          case measure =>
            have : (wr.iterAt W.heap.size s (pos + 1)).iterPos W.heap.size = pos + 1 := by simp [World.iterPos, HIT.out]
            rw [HM.out, this]; omega
      · obtain ⟨HR, HG⟩ := HC.out.rune hp h47
        have hd := decode_bytes s pos hp
        have hdl := decode_le s pos
        obtain ⟨r, hr⟩ : ∃ r, r = (Utf8.decode s pos).1 := ⟨_, rfl⟩
        obtain ⟨wd, hwd⟩ : ∃ wd, wd = (Utf8.decode s pos).2 := ⟨_, rfl⟩
        have hnx : ∀ ty, (Instr.next (.pointer (some ⟨W.heap.size, 0, none⟩)) true ty).run Tryz.prog wr = .ok (.tuple #[.bool true, .int .i64 pos, .int .i32 (r : Int)]) (wr.iterAt W.heap.size s (pos + wd)) := by
          intro ty
          rw [hr, hwd]
          exact Lib.run_next_any_at wr W.heap.size s pos ty hit hp
        rw [← hr] at h47 hdl
        rw [← hwd] at HR HG hd
        have hne : ((r : Int) != 47) = true := by simp; omega
        have HR' := Lib.hid HR
        have HG' := Lib.hid HG
        obtain ⟨hd1, hd2, _⟩ := hd
        clear HR HG hr hwd
        have hit2 := Lib.iterAt_heap wr W.heap.size s pos (pos + wd) hit
        have hcell2 := cell_iterAt hit hcell (pos + wd)
        have hj2 := abides_next hJ hj hit (Nat.le_refl _) (pos + wd)
        have HM : Hid (wr.iterPos W.heap.size = pos) := Lib.hid (by simp [World.iterPos, hit])
        have HIT := Lib.hid hit2
        clear hit hit2
        gi_wp2
        go_roundw
        case rel => exact ⟨pos + wd, frm, rfl, HR'.out, HIT.out, hcell2, by rw [HG'.out]; exact hj2⟩
        case measure =>
          have : (wr.iterAt W.heap.size s (pos + wd)).iterPos W.heap.size = pos + wd := by simp [World.iterPos, HIT.out]
          rw [HM.out, this]; omega
    · obtain rfl : pos = s.size := by omega
      have hnx : ∀ ty, (Instr.next (.pointer (some ⟨W.heap.size, 0, none⟩)) true ty).run Tryz.prog wr = _ := fun ty => Lib.run_next_end_at wr W.heap.size s s.size ty hit hp
      clear hit
      by_cases hlt : frm < s.size
      · have HG := Lib.hid (HC.out.last hlt)
        have hpre : (given s s.size).length < (parts s.data.toList).length := by rw [HG.out]; simp
        have HX : Hid (s.extract frm s.size = bs ((s.data.toList.take s.size).drop frm)) := Lib.hid (bs_ext s frm s.size)
        obtain ⟨fn, tmps, assign, body, hy, hR⟩ := hY ((given s s.size).map bs) (s.extract frm s.size) _ hj (by simpa using hpre)
        gi_wp2
        refine hR.mono ?_
        rintro e W3 (⟨rfl, hJ3, hk3⟩ | ⟨rfl, hJx3⟩)
        · gi_wp2
          go_end0
          refine ⟨⟨_, rfl⟩, .inl ⟨_, rfl, ?_⟩⟩
          rw [HG.out, List.map_append, List.map_cons, List.map_nil, ← HX.out]
          exact hJ3
        · gi_wp2
          go_end0
          refine ⟨⟨_, rfl⟩, .inr ⟨_, ?_, hJx3⟩⟩
          rw [HG.out, List.map_append, List.map_cons, List.map_nil, ← HX.out]
          exact List.prefix_refl _
      · have HG := Lib.hid (HC.out.ended hlt)
        gi_wp2
        go_end0
        exact ⟨⟨_, rfl⟩, .inl ⟨_, rfl, by rw [HG.out]; exact hj⟩⟩

theorem iter_stops (F : Fence) (n : Nat) (hf : F.fn 178) (hro : F.round = none) (hn : 1 ≤ n) (b : Nat) (s : ByteArray) (hs : s.size ≤ maxLen) (w : World) (hb : b < w.heap.size) (hc : w.cell? ⟨b, 0, none⟩ = some (.string s)) :
    SeqStopsK F n Tryz.prog 178 #[.pointer (some ⟨b, 0, none⟩)] (fun x : ByteArray => #[Value.string x]) (KpB b) (fun ys => ys = (parts s.data.toList).map bs) (fun pre => pre <+: (parts s.data.toList).map bs) (parts s.data.toList).length w := fun l J Jx W hW hJ _ hY h0 =>
  iter_in F n hf hro hn l b s hs J Jx W hJ hY ((hW.cell (p := ⟨b, 0, none⟩) hb).trans hc) h0
end Go.Proofs.YtgmkfhhlnhgkhaaGreatDoor


/-
  The contract of impl.GoodPath.
  Conditions: a text's length is a length.
-/
namespace Go.Proofs.YtgmkfhhlnhgkhaaGreatDoor
open Go.RowKit Go.Shelf
set_option linter.unusedVariables false
attribute [local go_sem] Oper.semAt_some

theorem good_no {l : List UInt8} (h : ¬ (1 ≤ l.length ∧ l.length ≤ 60)) : goodB l = false := by simp [goodB, h]
theorem good_in {l : List UInt8} (h : 1 ≤ l.length ∧ l.length ≤ 60) : goodB l = (parts l).all partB := by simp [goodB, h]
theorem boxed_below {W W' : World} {b : Nat} {t : TypeId} {v : Value} (h : Boxed W b t v) (hb : Below W.heap.size W W') : Boxed W' b t v := (hb.block b h.lt).trans h
theorem all_bs (ps : List (List UInt8)) : (ps.map bs).all (fun x => partB x.data.toList) = ps.all partB := by
  induction ps with
  | nil => rfl
  | cons p r ih => simp only [List.map_cons, List.all_cons, ih, bs_list]

set_option maxRecDepth 100000 in
set_option maxHeartbeats 2000000 in
theorem goodPath_any (s : ByteArray) (w : World) (hs : s.size ≤ maxLen) : Calls Tryz.prog 152 #[.string s] w fun e w' => e = .returned (.bool (goodB s.data.toList)) ∧ Below w.heap.size w w' := by
  have hl : s.data.toList.length = s.size := len_size s
  have HS := Lib.hid hs
  unfold maxLen at hs
  refine (callsIn_wide (n := 6)).1 ?_
  by_cases h1 : 1 ≤ s.size
  · by_cases h60 : s.size ≤ 60
    · have e0 : ¬ ((s.size : Int) < 1) := by omega
      have e8 : ¬ (60 < (s.size : Int)) := by omega
      have HP := Lib.hid (good_in (l := s.data.toList) (by omega))
      clear hl
      refine callsIn_of_wp_marks Tryz.func152 rfl trivial ?_ rfl
      simp only [Tryz.ntmps152, List.size_toArray, List.length_cons, List.length_nil, Nat.reduceAdd, Nat.reduceSub, Array.replicate_succ, Array.replicate_zero, List.push_toArray, List.append_toArray, List.nil_append, List.cons_append]
      gi_wp2_with (refine ⟨trivial, ?_⟩; gi_at_call 158; refine (partsIn_in Fence.wide _ trivial rfl _ _).mono ?_; rintro e w' ⟨rfl, rfl⟩)
      have bR := Boxed.new w 4 (.bool false)
      have bS := Boxed.new (w.alloc (.cells #[.bool false] 4)) 9 (.string s)
      rw [World.size_alloc] at bS
      have hB0 : Below w.heap.size w ((w.alloc (.cells #[.bool false] 4)).alloc (.cells #[.string s] 9)) := ((Below.refl _ w).alloc (Nat.le_refl _) _).alloc (by simp) _
      refine wpIn_rangeFunc_ownF rfl (by omega) (gf := 178) (lb := #[.pointer (some ⟨w.heap.size + 1, 0, none⟩)]) rfl trivial (enters_of Tryz.func178 (by kernel_rfl) rfl)
        (iter_stops Fence.wide (6 - 1) trivial rfl (by omega) (w.heap.size + 1) s HS.out _ (by simp) bS.cell) kpB_t (kpB_b (by simp)) (Below.refl _ _) (fun _ => rfl)
        (fun pre W => ((pre.all fun x => partB x.data.toList) = true ∧ Boxed W w.heap.size 4 (.bool false) ∧ Boxed W (w.heap.size + 1) 9 (.string s)) ∧ Below w.heap.size w W)
        (fun c pre W => (c = .ret ∧ (pre.all fun x => partB x.data.toList) = false ∧ Boxed W w.heap.size 4 (.bool false)) ∧ Below w.heap.size w W)
        (OwnFrom.and (OwnFrom.and (ownFrom_pure _ _) (OwnFrom.and (Own.from (boxed_own _ _ _) _) (Own.from (boxed_own _ _ _) _))) (ownFrom_below (Nat.le_refl _) (by simp; omega)))
        (fun c => OwnFrom.and (OwnFrom.and (ownFrom_pure _ (fun _ => c = .ret)) (OwnFrom.and (ownFrom_pure _ _) (Own.from (boxed_own _ _ _) _))) (ownFrom_below (Nat.le_refl _) (by simp; omega)))
        ⟨⟨rfl, bR.alloc _, bS⟩, hB0⟩
        ?a1 ?assign ?body ?done ?stop
      case assign =>
        intro l x W K hK
        gi_wp2
        exact hK
      case body =>
        rintro l pre x W ⟨⟨hp, hbx, hbs⟩, hB⟩ _
        have HPr := Lib.hid hp
        clear hp
        by_cases hx : partB x.data.toList = true
        · have HX := Lib.hid hx
          clear hx
          gi_wp2_with (refine ⟨trivial, ?_⟩; gi_at_call 96; refine (CallsIn.inRound l (callsIn_wide.2 (isPart_any _ _))).mono ?_; rintro e w' ⟨rfl, hb⟩; rw [HX.out])
          exact ⟨others_below hb, kpB_below (others_below hb) hb hbs.lt, ⟨by rw [List.all_append, HPr.out]; simp [HX.out], boxed_below hbx hb, boxed_below hbs hb⟩, hB.trans (hb.mono hB.size)⟩
        · have HX := Lib.hid (show partB x.data.toList = false by simpa using hx)
          clear hx
          gi_wp2_with (refine ⟨trivial, ?_⟩; gi_at_call 96; refine (CallsIn.inRound l (callsIn_wide.2 (isPart_any _ _))).mono ?_; rintro e w' ⟨rfl, hb⟩; rw [HX.out]; have hbx2 := boxed_below hbx hb; have hc := hbx2.cell; have hf := hbx2.frozen)
          exact ⟨(others_below hb).trans (KeepsOthers.setCell _ _ _), ⟨rfl, by rw [List.all_append]; simp [HX.out], (boxed_below hbx hb).set _⟩, (hB.trans (hb.mono hB.size)).setCell (p := ⟨w.heap.size, 0, none⟩) (Nat.le_refl _) _⟩
      case done =>
        rintro D ys W hD rfl ⟨⟨hp, hbx, hbs⟩, hB⟩ hK
        have HPr := Lib.hid hp
        clear hp
        have hc := hbx.cell
        have hf := hbx.frozen
        gi_wp2
        have hK' := (KeepsOthers.setCell W ⟨w.heap.size, 0, none⟩ (.bool true)).same D _ hK rfl
        refine ⟨by simp, .inl ⟨_, _, rfl, run_takeDeferred hK', ?_⟩⟩
        have hc5 := cell_kept (hbx.set (.bool true)).cell (grownBy_putObj' _ D (.deferred none)) (fun r e => by cases e; exact ⟨_, hK', rfl⟩)
        refine ⟨.bool true, ?_, ret_bool ?_, (hB.setCell (p := ⟨w.heap.size, 0, none⟩) (Nat.le_refl _) _).trans (belowK_b (w := w) (Nat.le_refl _) _ D _ _ (by simp at hD; omega) hK' rfl rfl)⟩
        · simp [results, Tryz.f152, go_sem, hc5]
        · rw [HP.out, ← all_bs, HPr.out]
      case stop =>
        rintro D c pre W hD hpre ⟨⟨rfl, hp, hbx⟩, hB⟩ hK
        have HPr := Lib.hid hp
        have HPx := Lib.hid hpre
        clear hp hpre
        gi_wp2
        refine ⟨by simp, .inl ⟨_, _, rfl, run_takeDeferred hK, ?_⟩⟩
        have hc5 := cell_kept hbx.cell (grownBy_putObj' _ D (.deferred none)) (fun r e => by cases e; exact ⟨_, hK, rfl⟩)
        refine ⟨.bool false, ?_, ret_bool ?_, hB.trans (belowK_b (w := w) (Nat.le_refl _) W D _ _ (by simp at hD; omega) hK rfl rfl)⟩
        · simp [results, Tryz.f152, go_sem, hc5]
        · rw [HP.out, ← all_bs]
          obtain ⟨t, ht⟩ := HPx.out
          rw [← ht, List.all_append, HPr.out, Bool.false_and]
    · have e0 : ¬ ((s.size : Int) < 1) := by omega
      have e8 : 60 < (s.size : Int) := by omega
      have HP := Lib.hid (good_no (l := s.data.toList) (by omega))
      clear hl
      refine callsIn_of_wp Tryz.func152 rfl trivial ?_ rfl
      simp only [Tryz.ntmps152, List.size_toArray, List.length_cons, List.length_nil, Nat.reduceAdd, Nat.reduceSub, Array.replicate_succ, Array.replicate_zero, List.push_toArray, List.append_toArray, List.nil_append, List.cons_append]
      gi_wp2
      exact bodyPost_ret (v := .bool false) (by simp [results, Tryz.results152, go_sem]) rfl ⟨ret_bool HP.out.symm, (Below.refl _ _).alloc (Nat.le_refl _) _⟩
  · have HP := Lib.hid (good_no (l := s.data.toList) (by omega))
    clear hl
    refine callsIn_of_wp Tryz.func152 rfl trivial ?_ rfl
    simp only [Tryz.ntmps152, List.size_toArray, List.length_cons, List.length_nil, Nat.reduceAdd, Nat.reduceSub, Array.replicate_succ, Array.replicate_zero, List.push_toArray, List.append_toArray, List.nil_append, List.cons_append]
    gi_wp2
    exact bodyPost_ret (v := .bool false) (by simp [results, Tryz.results152, go_sem]) rfl ⟨ret_bool HP.out.symm, (Below.refl _ _).alloc (Nat.le_refl _) _⟩
end Go.Proofs.YtgmkfhhlnhgkhaaGreatDoor


/-
  The contract of spec.l2Whole: whether a text is a path that begins with a slash.
  Conditions: texts of at most 2^30 bytes.
-/
namespace Go.Proofs.YtgmkfhhlnhgkhaaGreatDoor
open Go.ChangeShapes Go.WideShapes Go.ChangeAt Go.RowKit Go.Joins
set_option linter.unusedVariables false

def wgB (l : List UInt8) : Bool := wholeB l && goodB l
theorem whole_at {s : ByteArray} (h : 0 < s.size) : wholeB s.data.toList = decide ((s[0]'h) = 47) := by
  have hl := len_size s
  unfold wholeB
  have : s.data.toList.head? = some (s[0]'h) := by
    rw [List.head?_eq_getElem?, List.getElem?_eq_getElem (by omega)]
    rfl
  rw [this, Bool.eq_iff_iff]
  simp

set_option maxHeartbeats 400000 in
theorem l2Whole_any (s : ByteArray) (w : World) (hs : s.size ≤ 1073741824) : Calls Tryz.prog 130 #[.string s] w fun e w' => e = .returned (.bool (wgB s.data.toList)) ∧ Below w.heap.size w w' := by
  by_cases hg : goodB s.data.toList = true
  · have HG := Lib.hid hg
    have h0 : 0 < s.size := by simp [goodB] at hg; omega
    have HWA := Lib.hid (whole_at h0)
    by_cases hw : (s[0]'h0) = 47
    · have hw' : ((s[0]'h0).toNat : Int) = 47 := by rw [hw]; rfl
      have HE : Hid (wgB s.data.toList = true) := Lib.hid (by simp [wgB, hg, HWA.out, hw])
      clear hg hw
      go_enter Tryz.func130, Tryz.ntmps130
      go_wp2_with fail
      refine (l2Path_any _ _ hs).mono ?_
      rintro e w1 ⟨rfl, hb⟩
      rw [HG.out]
      go_wp2
      go_ret
      exact ⟨ret_bool HE.out.symm, hb⟩
    · have hw' : (((s[0]'h0).toNat : Int) == 47) = false := by simpa using not47 hw
      have HE : Hid (wgB s.data.toList = false) := Lib.hid (by simp [wgB, HWA.out, hw])
      clear hg hw
      go_enter Tryz.func130, Tryz.ntmps130
      go_wp2_with fail
      refine (l2Path_any _ _ hs).mono ?_
      rintro e w1 ⟨rfl, hb⟩
      rw [HG.out]
      go_wp2
      go_ret
      exact ⟨ret_bool HE.out.symm, hb⟩
  · have HG := Lib.hid (show goodB s.data.toList = false by simpa using hg)
    have HE : Hid (wgB s.data.toList = false) := Lib.hid (by simp [wgB, HG.out])
    clear hg
    go_enter Tryz.func130, Tryz.ntmps130
    go_wp2_with fail
    refine (l2Path_any _ _ hs).mono ?_
    rintro e w1 ⟨rfl, hb⟩
    rw [HG.out]
    go_wp2
    go_ret
    exact ⟨ret_bool HE.out.symm, hb⟩
end Go.Proofs.YtgmkfhhlnhgkhaaGreatDoor
