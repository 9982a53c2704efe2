/-
  Joined: Base PathM FsM RowC FsN FsO FsQ FsR FsS FsT FsU InC NameC NameD.
  Conditions: as each states.
-/
import Derived.WalkKit
import Derived.ProofKit
import Derived.OpenShut
import Derived.Handy
import Derived.OpenVars
import Derived.Lib.SmallJoins
import Derived.Lib.Hide
import Derived.Laws.RangeAny
import Derived.Lib.Join
import Derived.Laws.OwnMore
import Derived.OwnWalk
import Derived.BigQuiet
import Derived.Deep.QuietTactic
import Derived.Lib.QuietBelow
import Derived.Deep.SlicePairs
import Derived.Lib.OthersKept
import Derived.Test.YtknhacblialboaaRows

/-
  Small facts of this seat's own, for every law: what a law leaves behind where old memory has not turned; endings; a range test as a Bool; bits of numbers below 512.
  Conditions: as each states.
-/
namespace Go.Proofs.Ytknhacblialboaa
open Go.ChangeShapes Go.WideShapes Go.ChangeAt Go.RowKit Go.Joins

/-- The arguments read behind the call as they did, one after another. -/
theorem args_stay {H : Type} {enc : TypeId × Value → H} {P : Program} (hl : laidOutB P = true) {W W' : World} (hb : Below W.heap.size W W') :
    ∀ {ts : List TypeId} {vs : List Value} {ds : List (DataW H)} {ps : List MemPlace}, (ts.all fun t => P.readableRec t && decide (t < P.types.size)) = true →
      DataW.TrodAll enc P W 0 (fun _ => true) true ts vs ds ps → (∀ x ∈ ps, x.block < W.heap.size) → DataW.TrodAll enc P W' 0 (fun b => decide (b < W.heap.size)) true ts vs ds ps
  | [], [], [], _, _, h, _ => h
  | t :: ts, v :: vs, d :: ds, ps, ht, h, hlt => by
    obtain ⟨p, q, h1, h2, rfl⟩ := h
    simp only [List.all_cons, Bool.and_eq_true] at ht
    refine ⟨p, q, Below.trod hl ht.1.1 (of_decide_eq_true ht.1.2) h1 hb (fun x hx => hlt x (by simp [hx])), args_stay hl hb (by simpa using ht.2) h2 (fun x hx => hlt x (by simp [hx])), rfl⟩
  | [], _ :: _, _, _, _, h, _ => by simp [DataW.TrodAll] at h
  | [], [], _ :: _, _, _, h, _ => by simp [DataW.TrodAll] at h
  | _ :: _, [], _, _, _, h, _ => by simp [DataW.TrodAll] at h
  | _ :: _, _ :: _, [], _, _, h, _ => by simp [DataW.TrodAll] at h

/-- A law that returned true and turned no old memory leaves what its row asks. -/
theorem law_post {H : Type} {enc : TypeId × Value → H} {P : Program} {f : Func} {s : ChangeSpec} {W W' : World} {args : Array Value} {ds gs : List (DataW H)} {before : List MemPlace} {tb : TypeId}
    (hl : laidOutB P = true) (hr : (f.params.toList.all fun t => P.readableRec t && decide (t < P.types.size)) = true) (hv : varsRowed P s.vars = true) (hrt : f.resultTypes = #[tb]) (hu : P.underlying tb = some .bool)
    (hW : DataW.Whole enc P f.params.toList s.vars false W args.toList ds gs before)
    (hfn : s.fn H (ds ++ gs) = { results := [.lit (.bool true)], args := ds, vars := gs }) (hb : Below W.heap.size W W') :
    s.post enc P f false true false false W args (.bool true) W' := by
  have hlt : ∀ x ∈ before, x.block < W.heap.size := fun x hx => hW.lt x hx
  obtain ⟨p, q, hA, hV, rfl, hz, hn⟩ := id hW
  refine ⟨ds, gs, p ++ q, [], p, q, hW, ?_, ?_, ?_, hb.frame _, fun h => by cases h⟩
  · rw [hfn, hrt]
    exact trodAll_cons_mk (shut_bool hu _) trodAll_mk0
  · rw [hfn]
    exact args_stay hl hb hr hA (fun x hx => hlt x (by simp [hx]))
  · rw [hfn]
    exact Below.trodVars hl hb hv hV

theorem ret_bool {a b : Bool} (h : a = b) : Ending.returned (.bool a) = .returned (.bool b) := by rw [h]
theorem ret_int {k : IntKind} {a b : Int} (h : a = b) : Ending.returned (.int k a) = .returned (.int k b) := by rw [h]
theorem ret_str {a b : ByteArray} (h : a = b) : Ending.returned (.string a) = .returned (.string b) := by rw [h]

/-- What lies below a block reads as it did: two rules for the walk. -/
theorem old_cells {B : Nat} {W w1 : World} (hb : Below B W w1) : (∀ b o, b < B → w1.cell? ⟨b, o, none⟩ = W.cell? ⟨b, o, none⟩) ∧ (∀ b o, b < B → w1.frozen? ⟨b, o, none⟩ = W.frozen? ⟨b, o, none⟩) :=
  ⟨fun b o h => hb.cell (p := ⟨b, o, none⟩) h, fun b o h => hb.frozen (p := ⟨b, o, none⟩) h⟩

def inB (lo hi n : Int) : Bool := decide (lo ≤ n) && decide (n ≤ hi)
theorem inB_t {lo hi n : Int} (h : inB lo hi n = true) : lo ≤ n ∧ n ≤ hi := by simpa [inB] using h
theorem inB_f {lo hi n : Int} (h : inB lo hi n = false) : n < lo ∨ hi < n := by
  simp [inB] at h; by_cases h0 : lo ≤ n
  · exact Or.inr (h h0)
  · exact Or.inl (by omega)
theorem inB_mk {lo hi n : Int} (h0 : lo ≤ n) (h1 : n ≤ hi) : true = inB lo hi n := by simp [inB, h0, h1]
theorem inB_no {lo hi n : Int} (h : n < lo ∨ hi < n) : false = inB lo hi n := by
  rcases h with h | h
  · simp [inB]; omega
  · simp [inB]; omega

theorem and7_fin : ∀ n : Fin 512, bits BinOp.and IntKind.i64 (n.val : Int) 7 = ((n.val % 8 : Nat) : Int) := by decide +kernel
theorem and7 (m : Int) (h0 : 0 ≤ m) (h1 : m ≤ 511) : bits BinOp.and IntKind.i64 m 7 = m % 8 := by
  have h := and7_fin ⟨m.toNat, by omega⟩
  simp only [] at h
  rw [show ((m.toNat : Nat) : Int) = m by omega] at h
  rw [h]; omega
end Go.Proofs.Ytknhacblialboaa


/-
  Plain facts on texts and paths as lists of bytes: cutting at slashes, good names and paths, cleaning. No program is named.
  Conditions: as each states.
-/
namespace Go.Proofs.Ytknhacblialboaa
open Go

/-- The text of some bytes. -/
def bs (l : List UInt8) : ByteArray := ⟨l.toArray⟩
theorem bs_list (l : List UInt8) : (bs l).data.toList = l := by simp [bs]
theorem bs_size (l : List UInt8) : (bs l).size = l.length := by simp [bs, ByteArray.size]
theorem bs_of (s : ByteArray) : bs s.data.toList = s := by cases s; simp [bs]
theorem bs_inj {a b : List UInt8} : bs a = bs b ↔ a = b := ⟨fun h => by have := congrArg (fun x : ByteArray => x.data.toList) h; simpa [bs] using this, fun h => by rw [h]⟩
theorem bs_app (a b : List UInt8) : bs a ++ bs b = bs (a ++ b) := by
  apply ByteArray.ext; simp [bs, ByteArray.data_append]
theorem len_size (s : ByteArray) : s.data.toList.length = s.size := Array.length_toList
theorem bs_ext (s : ByteArray) (a b : Nat) : s.extract a b = bs ((s.data.toList.take b).drop a) := by
  apply ByteArray.ext
  apply Array.toList_inj.1
  simp [bs, ByteArray.data_extract, Array.toList_extract, List.drop_take, List.extract_eq_take_drop]

/-- Cutting at slashes: what is cut off, and what is under way. -/
def spStep (st : List (List UInt8) × List UInt8) (c : UInt8) : List (List UInt8) × List UInt8 := if c = 47 then (st.1 ++ [st.2], []) else (st.1, st.2 ++ [c])
def sp (l : List UInt8) : List (List UInt8) × List UInt8 := l.foldl spStep ([], [])
def full (ps : List (List UInt8)) : List (List UInt8) := ps.filter fun p => !p.isEmpty
def parts (l : List UInt8) : List (List UInt8) := full ((sp l).1 ++ [(sp l).2])

theorem sp_snoc (l : List UInt8) (c : UInt8) : sp (l ++ [c]) = spStep (sp l) c := by simp [sp]
theorem sp_app (l m : List UInt8) (h : ∀ c ∈ m, c ≠ 47) : sp (l ++ m) = ((sp l).1, (sp l).2 ++ m) := by
  induction m generalizing l with
  | nil => simp
  | cons c m ih =>
    have : l ++ c :: m = (l ++ [c]) ++ m := by simp
    rw [this, ih _ (fun d hd => h d (by simp [hd])), sp_snoc, spStep, if_neg (h c (by simp))]
    simp
theorem full_app (a b : List (List UInt8)) : full (a ++ b) = full a ++ full b := by simp [full]
theorem sp_le (l : List UInt8) : (sp l).1.length + (sp l).2.length ≤ l.length := by
  have : ∀ (m : List UInt8) (st : List (List UInt8) × List UInt8), (m.foldl spStep st).1.length + (m.foldl spStep st).2.length ≤ st.1.length + st.2.length + m.length := by
    intro m
    induction m with
    | nil => intro st; simp
    | cons c m ih =>
      intro st
      have := ih (spStep st c)
      simp only [List.foldl_cons, List.length_cons]
      have h2 : (spStep st c).1.length + (spStep st c).2.length ≤ st.1.length + st.2.length + 1 := by
        unfold spStep; split <;> simp <;> omega
      omega
  simpa [sp] using this l ([], [])

/-- Signs of names. -/
def signN (n : Nat) : Bool := decide (97 ≤ n ∧ n ≤ 122 ∨ 48 ≤ n ∧ n ≤ 57 ∨ n = 46 ∨ n = 95 ∨ n = 45)
def signsB (l : List UInt8) : Bool := l.all fun c => signN c.toNat
def partB (l : List UInt8) : Bool := decide (1 ≤ l.length ∧ l.length ≤ 8) && signsB l
def nameB (l : List UInt8) : Bool := partB l && (!(l == [46]) && !(l == [46, 46]))
def goodB (l : List UInt8) : Bool := decide (1 ≤ l.length ∧ l.length ≤ 60) && (parts l).all partB
def wholeB (l : List UInt8) : Bool := l.head? == some 47

theorem signsB_snoc (l : List UInt8) (c : UInt8) : signsB (l ++ [c]) = (signsB l && signN c.toNat) := by simp [signsB]

/-- One part more on the way of a clean path. -/
def clStep (wh : Bool) (st : List (List UInt8)) (p : List UInt8) : List (List UInt8) :=
  if p = [46] then st
  else if p = [46, 46] then (if st ≠ [] ∧ st.getLast? ≠ some [46, 46] then st.dropLast else if wh then st else st ++ [p])
  else st ++ [p]
def clean (wh : Bool) (ps : List (List UInt8)) : List (List UInt8) := ps.foldl (clStep wh) []
theorem clean_snoc (wh : Bool) (ps : List (List UInt8)) (p : List UInt8) : clean wh (ps ++ [p]) = clStep wh (clean wh ps) p := by simp [clean]
def cleanOf (l : List UInt8) : List (List UInt8) := clean (wholeB l) (parts l)

def slashed (ps : List (List UInt8)) : List UInt8 := (ps.map fun p => 47 :: p).flatten
def pathL (ps : List (List UInt8)) : List UInt8 := if ps = [] then [47] else slashed ps
def cleanT (l : List UInt8) : List UInt8 := if wholeB l then pathL (cleanOf l) else if cleanOf l = [] then [46] else (slashed (cleanOf l)).drop 1

theorem slashed_snoc (ps : List (List UInt8)) (p : List UInt8) : slashed (ps ++ [p]) = slashed ps ++ 47 :: p := by simp [slashed]
theorem join_slashed : ∀ (ps : List (List UInt8)), ps ≠ [] → 47 :: Lib.join ps [47] = slashed ps
  | [], h => absurd rfl h
  | p :: r, _ => by rw [Lib.join_cons]; simp [slashed, Lib.joinTail]

/-! ### A rune's bytes -/

/-- A step of a range over a text goes over the byte at hand, and beyond it over bytes of 128 and more alone. -/
theorem decode_bytes (s : ByteArray) (pos : Nat) (h : pos < s.size) : pos + (Utf8.decode s pos).2 ≤ s.size ∧ 1 ≤ (Utf8.decode s pos).2 ∧ ∀ k (hk : k < s.size), pos < k → k < pos + (Utf8.decode s pos).2 → 128 ≤ (s[k]'hk).toNat := by
  have hb : ∀ k, (hk : k < s.size) → s.get! k = s[k]'hk := fun k hk => by simp [ByteArray.get!, getElem!_pos, hk]; rfl
  simp only [Utf8.decode]
  repeat' split
  all_goals simp only [ge_iff_le, Bool.and_eq_true, decide_eq_true_eq, beq_iff_eq] at *
  all_goals refine ⟨by omega, by omega, fun k hk h1 h2 => ?_⟩
  all_goals try omega
  · obtain rfl : k = pos + 1 := by omega
    rw [← hb _ hk]; omega
  · rcases (by omega : k = pos + 1 ∨ k = pos + 2) with rfl | rfl <;> (rw [← hb _ hk]; omega)
  · rcases (by omega : k = pos + 1 ∨ k = pos + 2 ∨ k = pos + 3) with rfl | rfl | rfl <;> (rw [← hb _ hk]; omega)

theorem decode_low (s : ByteArray) (pos : Nat) (h : pos < s.size) (hl : (Utf8.decode s pos).1 < 128) : (s[pos]'h).toNat = (Utf8.decode s pos).1 ∧ (Utf8.decode s pos).2 = 1 := by
  by_cases ha : (s[pos]'h).toNat < 128
  · rw [decode_ascii s pos h ha]; exact ⟨rfl, rfl⟩
  · have := (decode_high s pos h (by omega)).1; omega
theorem signN_lt {n : Nat} (h : signN n = true) : n < 128 := by simp [signN] at h; omega
theorem signN_hi {n : Nat} (h : 128 ≤ n) : signN n = false := by simp [signN]; omega

theorem take_snoc' (s : ByteArray) (k : Nat) (h : k < s.size) : s.data.toList.take (k + 1) = s.data.toList.take k ++ [s[k]] := by
  rw [List.take_succ_eq_append_getElem (by simpa using h)]; rfl

/-- Over a rune that is no slash. -/
theorem sp_rune (s : ByteArray) (pos : Nat) (h : pos < s.size) (hn : (Utf8.decode s pos).1 ≠ 47) :
    sp (s.data.toList.take (pos + (Utf8.decode s pos).2)) = ((sp (s.data.toList.take pos)).1, (sp (s.data.toList.take pos)).2 ++ (s.data.toList.take (pos + (Utf8.decode s pos).2)).drop pos) := by
  obtain ⟨hle, h1, hb⟩ := decode_bytes s pos h
  have hl : s.data.toList.length = s.size := len_size s
  have e : s.data.toList.take (pos + (Utf8.decode s pos).2) = s.data.toList.take pos ++ (s.data.toList.take (pos + (Utf8.decode s pos).2)).drop pos := by
    have e1 := (List.take_append_drop pos (s.data.toList.take (pos + (Utf8.decode s pos).2))).symm
    rw [List.take_take, Nat.min_eq_left (by omega)] at e1
    exact e1
  rw [e, sp_app]
  · rw [← e]
  · intro c hc e47
    subst e47
    obtain ⟨i, hi, he⟩ := List.getElem_of_mem hc
    simp only [List.length_drop, List.length_take, hl] at hi
    rw [List.getElem_drop, List.getElem_take] at he
    have hk : pos + i < s.size := by omega
    have he' : s[pos + i]'hk = 47 := he
    by_cases hi0 : i = 0
    · subst hi0
      have : (s[pos]'h).toNat = 47 := by have := congrArg UInt8.toNat he'; simpa using this
      have hlt : (s[pos]'h).toNat < 128 := by omega
      rw [decode_ascii s pos h hlt] at hn
      exact hn this
    · have := hb (pos + i) hk (by omega) (by omega)
      rw [he'] at this
      exact absurd this (by decide)

end Go.Proofs.Ytknhacblialboaa


/-
  File systems as plain data: entries, nodes, a list of nodes; how they read in memory.
  Conditions: as each states.
-/
namespace Go.Proofs.Ytknhacblialboaa
open Go.ChangeShapes Go.WideShapes Go.ChangeAt Go.RowKit Go.Joins
set_option linter.unusedVariables false

structure Ent where
  name : List UInt8
  node : Int
structure Nod where
  kind : Int
  mode : Int
  uid : Int
  gid : Int
  time : Int
  data : List UInt8
  list : List Ent
structure FsD where
  nodes : List Nod
  room : Int

theorem addBlock (a : Addr) (i : Nat) : (a.add i).block = a.block := by unfold Addr.add; split <;> rfl

/-- The value reads as a list of entries, wherever it lies. -/
def EntsA (w : World) (v : Value) (es : List Ent) : Prop :=
  ∃ o c, v = .slice o es.length c ∧ es.length ≤ maxLen ∧ ∀ i (h : i < es.length), ∃ g off, o = some ⟨g, off, none⟩ ∧ g < w.heap.size ∧ w.cell? ⟨g, off + i * 2, none⟩ = some (.string (bs es[i].name)) ∧ w.cell? ⟨g, off + i * 2 + 1, none⟩ = some (.int .i64 es[i].node) ∧ es[i].name.length ≤ maxLen

theorem EntsA.below {w w' : World} {v : Value} {es : List Ent} (h : EntsA w v es) (hb : Below w.heap.size w w') : EntsA w' v es := by
  obtain ⟨o, c, rfl, hm, hH⟩ := h
  refine ⟨o, c, rfl, hm, fun i hi => ?_⟩
  obtain ⟨g, off, e, hg, h1, h2, h3⟩ := hH i hi
  exact ⟨g, off, e, Nat.lt_of_lt_of_le hg hb.size, (hb.cell (p := ⟨g, off + i * 2, none⟩) hg).trans h1, (hb.cell (p := ⟨g, off + i * 2 + 1, none⟩) hg).trans h2, h3⟩

def lensE (es : List Ent) : Nat := (es.map fun e => e.name.length).sum
theorem lensE_take {es : List Ent} {k : Nat} (h : k < es.length) : lensE (es.take (k + 1)) = lensE (es.take k) + es[k].name.length := by
  unfold lensE; rw [List.take_succ_eq_append_getElem h]; simp only [List.map_append, List.sum_append, List.map_cons, List.map_nil, List.sum_cons, List.sum_nil, Nat.add_zero]
theorem lensE_pre (es : List Ent) (k : Nat) : lensE (es.take k) ≤ lensE es := by
  conv => rhs; rw [← List.take_append_drop k es]
  unfold lensE; rw [List.map_append, List.sum_append]; omega

/-- left without n, -1 where that is too much. -/
def lessR (n : Nat) (left : Int) : Int := if (n : Int) ≤ left then left - n else -1

set_option maxHeartbeats 1000000 in
theorem szEntry_any (x : ByteArray) (k : Int) (left : Int) (w : World) (h0 : 0 ≤ left) (h1 : left ≤ 1048576) (hx : x.size ≤ 9223372036854775807) :
    Calls Try.prog 93 #[.agg #[.string x, .int .i64 k], .int .i64 left] w fun e w' => e = .returned (.int .i64 (lessR x.size left)) ∧ Below w.heap.size w w' := by
  by_cases h : (x.size : Int) ≤ left
  · have HR : Hid (lessR x.size left = left - x.size) := Lib.hid (by unfold lessR; rw [if_pos h])
    have h2 : 0 ≤ left - (x.size : Int) := by omega
    go_enter Try.func93, Try.ntmps93
    go_wp2
    go_ret
    exact ⟨ret_int HR.out.symm, (Below.refl _ _).alloc (Nat.le_refl _) _⟩
  · have HR : Hid (lessR x.size left = -1) := Lib.hid (by unfold lessR; rw [if_neg h])
    have h2 : left - (x.size : Int) < 0 := by omega
    go_enter Try.func93, Try.ntmps93
    go_wp2
    go_ret
    exact ⟨ret_int HR.out.symm, (Below.refl _ _).alloc (Nat.le_refl _) _⟩

set_option maxHeartbeats 1000000 in
theorem szEntryS_any (es : List Ent) (v : Value) (w : World) (left : Int) (hR : EntsA w v es) (h0 : 0 ≤ left) (hl : left ≤ 1048576) : Calls Try.prog 74 #[v, .int .i64 left] w fun e w' => e = .returned (.int .i64 (lessR (es.length + lensE es) left)) ∧ Below w.heap.size w w' := by
  obtain ⟨o, c, rfl, hm, hH⟩ := hR
  have HH := Lib.hid hH
  clear hH
  unfold maxLen at hm
  by_cases hq : left < es.length
  · have HZ : Hid (lessR (es.length + lensE es) left = -1) := Lib.hid (by unfold lessR; rw [if_neg (by omega)])
    go_enter Try.func74, Try.ntmps74
    go_wp2
    go_ret
    exact ⟨ret_int HZ.out.symm, Below.refl _ _⟩
  · have h0' : (es.length : Int) ≤ left := by omega
    go_enter Try.func74, Try.ntmps74
    go_wp2
    go_loopw [1, 5] (fun t i wr => ∃ k : Nat, k ≤ es.length ∧ i = .int .i64 k ∧ (es.length : Int) + lensE (es.take k) ≤ left ∧ t = .int .i64 (left - es.length - lensE (es.take k)) ∧ Below w.heap.size w wr) (fun _ i _ => es.length - (intOf i).toNat)
    case atStart => exact ⟨0, Nat.zero_le _, rfl, by simpa [lensE] using h0', by simp [lensE], Below.refl _ _⟩
    case round =>
      obtain ⟨k, hk, rfl, hA, rfl, hB⟩ := hrel
      by_cases hlt : k < es.length
      · obtain ⟨g, off, rfl, hg, hc1, hc2, hml⟩ := HH.out k hlt
        have HS := Lib.hid (lensE_take hlt)
        have d1 : wr.cell? ⟨g, off + k * 2, none⟩ = some (.string (bs es[k].name)) := (hB.cell (p := ⟨g, off + k * 2, none⟩) hg).trans hc1
        have d2 : wr.cell? ⟨g, off + k * 2 + 1, none⟩ = some (.int .i64 es[k].node) := (hB.cell (p := ⟨g, off + k * 2 + 1, none⟩) hg).trans hc2
        have HZ : Hid ((bs es[k].name).size = es[k].name.length) := Lib.hid (bs_size _)
        have hx : (bs es[k].name).size ≤ 9223372036854775807 := by rw [HZ.out]; unfold maxLen at hml; omega
        obtain ⟨x, hxx⟩ : ∃ x, x = bs es[k].name := ⟨_, rfl⟩
        rw [← hxx] at d1 hx HZ
        clear hc1 hc2 hxx hml
        by_cases hlt2 : (x.size : Int) ≤ left - es.length - lensE (es.take k)
        · have HQ : Hid (lessR x.size (left - es.length - lensE (es.take k)) = left - es.length - lensE (es.take k) - x.size) := Lib.hid (by unfold lessR; rw [if_pos hlt2])
          have h3 : 0 ≤ left - (es.length : Int) - (lensE (es.take k) : Int) - (x.size : Int) := by omega
          go_wp2_with fail
          refine (szEntry_any _ _ _ _ (by omega) (by omega) hx).mono ?_
          rintro e w1 ⟨rfl, hb1⟩
          rw [HQ.out]
          go_wp2
          go_roundw
          case rel => exact ⟨k + 1, hlt, by go_num, by rw [HS.out, ← HZ.out]; omega, by rw [HS.out, ← HZ.out]; go_num, hB.trans (hb1.mono hB.size)⟩
          case measure => simp [intOf]; omega
        · have HQ : Hid (lessR x.size (left - es.length - lensE (es.take k)) = -1) := Lib.hid (by unfold lessR; rw [if_neg hlt2])
          have HR : Hid (lessR (es.length + lensE es) left = -1) := Lib.hid (by
            have h1 := lensE_pre es (k + 1)
            rw [HS.out, ← HZ.out] at h1
            unfold lessR; rw [if_neg (by omega)])
          go_wp2_with fail
          refine (szEntry_any _ _ _ _ (by omega) (by omega) hx).mono ?_
          rintro e w1 ⟨rfl, hb1⟩
          rw [HQ.out]
          go_wp2
          go_ret
          exact ⟨ret_int HR.out.symm, hB.trans (hb1.mono hB.size)⟩
      · have HT : Hid (es.take k = es) := Lib.hid (List.take_of_length_le (by omega))
        have HR : Hid (lessR (es.length + lensE es) left = left - es.length - lensE (es.take k)) := Lib.hid (by rw [HT.out] at hA ⊢; unfold lessR; rw [if_pos (by omega)]; omega)
        go_wp2
        go_ret
        exact ⟨ret_int HR.out.symm, hB⟩
end Go.Proofs.Ytknhacblialboaa


/-
  A block of cells as a function of the place: how it reads, how a store turns it, what leaves it alone. No function of the program is named.
  Conditions: as each states.
-/
namespace Go.Proofs.Ytknhacblialboaa
open Go.ChangeShapes Go.WideShapes Go.ChangeAt Go.RowKit Go.Joins
set_option linter.unusedVariables false

/-- The first n cells of block G (of elements of type T, none frozen) are F. -/
def RowAt (w : World) (G n : Nat) (T : TypeId) (F : Nat → Value) : Prop := ∃ cur, w.heap[G]? = some (.cells cur T (0, 0)) ∧ n ≤ cur.size ∧ ∀ j, j < n → cur[j]? = some (F j)

section
variable {w w' : World} {G n : Nat} {T : TypeId} {F : Nat → Value}
theorem RowAt.lt (h : RowAt w G n T F) : G < w.heap.size := by
  obtain ⟨cur, hg, _⟩ := h
  exact (Array.getElem?_eq_some_iff.1 hg).1
theorem RowAt.cell (h : RowAt w G n T F) {j : Nat} (hj : j < n) : w.cell? ⟨G, j, none⟩ = some (F j) := by
  obtain ⟨cur, hg, _, hF⟩ := h
  simp [World.cell?, hg, hF j hj]
theorem RowAt.frozen (h : RowAt w G n T F) (j : Nat) : w.frozen? ⟨G, j, none⟩ = false := by
  obtain ⟨cur, hg, _⟩ := h
  exact frozen_of_row w G j cur T hg
theorem RowAt.congr (h : RowAt w G n T F) {F' : Nat → Value} (e : ∀ j, j < n → F j = F' j) : RowAt w G n T F' := by
  obtain ⟨cur, hg, hs, hF⟩ := h
  exact ⟨cur, hg, hs, fun j hj => by rw [hF j hj, e j hj]⟩
theorem RowAt.of_block (h : RowAt w G n T F) (hb : w'.heap[G]? = w.heap[G]?) : RowAt w' G n T F := by
  obtain ⟨cur, hg, hs, hF⟩ := h
  exact ⟨cur, hb.trans hg, hs, hF⟩
theorem RowAt.below (h : RowAt w G n T F) {B : Nat} (hb : Below B w w') (hB : G < B) : RowAt w' G n T F := h.of_block (hb.block G hB)
theorem RowAt.alloc (h : RowAt w G n T F) (o : Obj) : RowAt (w.alloc o) G n T F := h.of_block (Below.heap_alloc w o G h.lt)
theorem RowAt.set (h : RowAt w G n T F) (j : Nat) (u : Value) : RowAt (w.setCell ⟨G, j, none⟩ u) G n T (fun i => if i = j then u else F i) := by
  obtain ⟨cur, hg, hs, hF⟩ := h
  refine ⟨cur.setIfInBounds j u, heap_setCell_same w G j cur T u hg, by simpa using hs, fun i hi => ?_⟩
  by_cases e : i = j
  · subst e
    simp only [if_true]
    rw [Array.getElem?_setIfInBounds_self_of_lt (by omega)]
  · simp only [if_neg e]
    rw [Array.getElem?_setIfInBounds_ne (fun x => e x.symm), hF i hi]
theorem RowAt.other (h : RowAt w G n T F) {p : Addr} (hp : p.block ≠ G) (u : Value) : RowAt (w.setCell p u) G n T F := h.of_block (Below.heap_setCell w p u G (fun e => hp e.symm))
theorem RowAt.less (h : RowAt w G n T F) {m : Nat} (hm : m ≤ n) : RowAt w G m T F := by
  obtain ⟨cur, hg, hs, hF⟩ := h
  exact ⟨cur, hg, by omega, fun j hj => hF j (by omega)⟩
/-- A row that make has laid. -/
theorem RowAt.made {size k B : Nat} {xs : List Value} (h : w.ownsRow B T size (.slice (some ⟨G, 0, none⟩) k k) k xs) (hF : ∀ j, j < k * size → xs[j]? = some (F j)) : RowAt w G (k * size) T F := by
  rcases h.2 with ⟨e, _⟩ | ⟨g, cap, cur, e, _, hg, _, _, hs, ht⟩
  · cases e
  · simp only [Value.slice.injEq, Option.some.injEq, Addr.mk.injEq, and_true, true_and] at e
    obtain ⟨rfl, rfl⟩ := e
    refine ⟨cur, hg, by omega, fun j hj => ?_⟩
    have h1 := hF j hj
    rw [← ht, List.getElem?_take, if_pos hj, Array.getElem?_toList] at h1
    exact h1
end
end Go.Proofs.Ytknhacblialboaa


/-
  Contracts of the laws' helpers on entries: toEntry, toEntryS.
  Conditions: lists of at most 2^20 entries.
-/
namespace Go.Proofs.Ytknhacblialboaa
open Go.ChangeShapes Go.WideShapes Go.ChangeAt Go.RowKit Go.Joins
set_option linter.unusedVariables false

theorem entInfo : (Try.prog.info? 93).map (fun i => (i.zero, i.size, i.bytes)) = some (some (.agg #[.string ⟨#[]⟩, .int .i64 0]), 2, 24) := by kernel_rfl

set_option maxHeartbeats 1000000 in
theorem toEntry_any (x : ByteArray) (k : Int) (w : World) : Calls Try.prog 98 #[.agg #[.string x, .int .i64 k]] w fun e w' => e = .returned (.agg #[.string x, .int .i64 k]) ∧ Below w.heap.size w w' := by
  go_enter Try.func98, Try.ntmps98
  go_wp2
  exact bodyPost_ret (v := .agg #[.string x, .int .i64 k]) (by simp [results, Try.results98, go_sem]) rfl ⟨rfl, (((Below.refl _ _).alloc (Nat.le_refl _) _).alloc (by simp) _).alloc (by simp; omega) _⟩

def entCell (e : Ent) (r : Nat) : Value := if r = 0 then .string (bs e.name) else .int .i64 e.node
def ent0 : Ent := ⟨[], 0⟩
/-- The cells of a list of entries; behind it zero values. -/
def entsF (es : List Ent) (j : Nat) : Value := entCell (es[j / 2]?.getD ent0) (j % 2)
/-- The value is a list of entries of the call's own, in a block from B on. -/
def EntsOwn (w : World) (B : Nat) (v : Value) (es : List Ent) : Prop := ∃ G c, v = .slice (some ⟨G, 0, none⟩) es.length c ∧ es.length ≤ c ∧ c ≤ maxLen ∧ B ≤ G ∧ RowAt w G (es.length * 2) 93 (entsF es)

theorem EntsOwn.below {w w' : World} {B : Nat} {v : Value} {es : List Ent} (h : EntsOwn w B v es) (hb : Below w.heap.size w w') : EntsOwn w' B v es := by
  obtain ⟨G, c, e, h1, h2, h3, hr⟩ := h
  exact ⟨G, c, e, h1, h2, h3, hr.below hb hr.lt⟩
theorem EntsOwn.read {w : World} {B : Nat} {v : Value} {es : List Ent} (h : EntsOwn w B v es) (hs : ∀ e ∈ es, e.name.length ≤ maxLen) : EntsA w v es := by
  obtain ⟨G, c, rfl, h1, h2, h3, hr⟩ := h
  refine ⟨_, c, rfl, by omega, fun i hi => ⟨G, 0, rfl, hr.lt, ?_, ?_, hs _ (List.getElem_mem hi)⟩⟩
  · have h4 := hr.cell (j := i * 2) (by omega)
    rw [Nat.zero_add, h4]
    have e1 : i * 2 / 2 = i := by omega
    have e2 : i * 2 % 2 = 0 := by omega
    simp [entsF, entCell, e1, e2, hi]
  · have h4 := hr.cell (j := i * 2 + 1) (by omega)
    rw [Nat.zero_add, h4]
    have e1 : (i * 2 + 1) / 2 = i := by omega
    have e2 : (i * 2 + 1) % 2 = 1 := by omega
    simp [entsF, entCell, e1, e2, hi]
theorem ents_step {es : List Ent} {k : Nat} (h : k < es.length) (j : Nat) : (if j = k * 2 + 1 then .int .i64 es[k].node else if j = k * 2 then .string (bs es[k].name) else entsF (es.take k) j) = entsF (es.take (k + 1)) j := by
  unfold entsF
  by_cases h1 : j = k * 2 + 1
  · subst h1
    have e1 : (k * 2 + 1) / 2 = k := by omega
    have e2 : (k * 2 + 1) % 2 = 1 := by omega
    rw [if_pos rfl, e1, e2, List.getElem?_take, if_pos (by omega), List.getElem?_eq_getElem h]; rfl
  · by_cases h2 : j = k * 2
    · subst h2
      have e1 : k * 2 / 2 = k := by omega
      have e2 : k * 2 % 2 = 0 := by omega
      rw [if_neg (by omega), if_pos rfl, e1, e2, List.getElem?_take, if_pos (by omega), List.getElem?_eq_getElem h]; rfl
    · rw [if_neg h1, if_neg h2, List.getElem?_take, List.getElem?_take]
      by_cases h3 : j / 2 < k
      · rw [if_pos h3, if_pos (by omega)]
      · rw [if_neg h3, if_neg (by omega)]

set_option maxHeartbeats 1000000 in
theorem toEntryS_any (es : List Ent) (v : Value) (w : World) (hR : EntsA w v es) (hl : es.length ≤ 1048576) : Calls Try.prog 80 #[v] w fun e w' => ∃ u, e = .returned u ∧ EntsOwn w' w.heap.size u es ∧ Below w.heap.size w w' := by
  obtain ⟨i0, hi, hz0, hz1, hz2⟩ := info_parts entInfo
  obtain ⟨o, c, rfl, hm, hH⟩ := hR
  have HH := Lib.hid hH
  clear hH
  unfold maxLen at hm
  go_enter Try.func80, Try.ntmps80
  go_wp2_with (at_make; refine wpList_make_full _ rfl _ _ 68 rfl w.heap.size 93 i0 (.agg #[.string ⟨#[]⟩, .int .i64 0]) 2 Try.underlying68 hi hz0 hz1 _ _ _ _ es.length rfl rfl rfl rfl (by rw [hz2]; omega) (by unfold maxLen; omega) (Nat.le_refl _) ?_)
  intro w1 hown hgrow
  have hb1 : Below w.heap.size w w1 := (Below.refl _ w).grown hgrow (Nat.le_refl _) (fun k e => by cases e)
  have hr1 : RowAt w1 w.heap.size (es.length * 2) 93 (entsF (es.take 0)) := by
    refine RowAt.made hown (fun j hj => ?_)
    have hj' : j < es.length * 2 := hj
    simp only [madeCells, entsF, entCell, ent0, List.take_zero, List.getElem?_nil, Option.getD_none]
    rcases Nat.mod_two_eq_zero_or_one j with h2 | h2
    · simp [hj', h2]; rfl
    · simp [hj', h2]
  clear hown hgrow
  go_wp2
  go_loopw [4] (fun i wr => ∃ k : Nat, k ≤ es.length ∧ i = .int .i64 k ∧ RowAt wr w.heap.size (es.length * 2) 93 (entsF (es.take k)) ∧ Below w.heap.size w wr) (fun i _ => es.length - (intOf i).toNat)
  case atStart => exact ⟨0, Nat.zero_le _, rfl, hr1, hb1⟩
  case round =>
    obtain ⟨k, hk, rfl, hr, hB⟩ := hrel
    by_cases hlt : k < es.length
    · obtain ⟨g, off, rfl, hg, hc1, hc2, hml⟩ := HH.out k hlt
      have d1 : wr.cell? ⟨g, off + k * 2, none⟩ = some (.string (bs es[k].name)) := (hB.cell (p := ⟨g, off + k * 2, none⟩) hg).trans hc1
      have d2 : wr.cell? ⟨g, off + k * 2 + 1, none⟩ = some (.int .i64 es[k].node) := (hB.cell (p := ⟨g, off + k * 2 + 1, none⟩) hg).trans hc2
      have HST := Lib.hid (ents_step hlt)
      have HRr := Lib.hid hr
      obtain ⟨x, hx⟩ : ∃ x, x = bs es[k].name := ⟨_, rfl⟩
      rw [← hx] at d1 HST
      clear hx hml hc1 hc2 hr hr1
      go_wp2_with fail
      refine (toEntry_any _ _ _).mono ?_
      rintro e w2 ⟨rfl, hb2⟩
      have hr2 := HRr.out.below hb2 HRr.out.lt
      have b0 := hr2.cell (j := k * 2) (by omega)
      have b1 := hr2.cell (j := k * 2 + 1) (by omega)
      have b2 := hr2.frozen (k * 2)
      have b3 := hr2.frozen (k * 2 + 1)
      have HR3 := Lib.hid (((hr2.set (k * 2) (.string x)).set (k * 2 + 1) (.int .i64 es[k].node)).congr (fun j _ => HST.out j))
      have HB3 := Lib.hid (((hB.trans (hb2.mono hB.size)).setCell (p := ⟨w.heap.size, k * 2, none⟩) (Nat.le_refl _) (.string x)).setCell (p := ⟨w.heap.size, k * 2 + 1, none⟩) (Nat.le_refl _) (.int .i64 es[k].node))
      clear hr2 hb2
      go_wp2
      go_roundw
      case rel => exact ⟨k + 1, hlt, by go_num, HR3.out, HB3.out⟩
      case measure => simp [intOf]; omega
    · have HT : Hid (es.take k = es) := Lib.hid (List.take_of_length_le (by omega))
      rw [HT.out] at hr
      go_wp2
      go_ret
      exact ⟨_, rfl, ⟨_, _, rfl, Nat.le_refl _, by unfold maxLen; omega, Nat.le_refl _, hr⟩, hB⟩
end Go.Proofs.Ytknhacblialboaa


/-
  Nodes in memory; contracts of the laws' helpers szNode, szNodeS, szFs, toNode, toNodeS, toFs.
  Conditions: at most 2^20 values and letters together for the copies.
-/
namespace Go.Proofs.Ytknhacblialboaa
open Go.ChangeShapes Go.WideShapes Go.ChangeAt Go.RowKit Go.Joins
set_option linter.unusedVariables false

/-- Seven cells from p on are a node whose list is lv. -/
structure NodC (w : World) (g p : Nat) (lv : Value) (n : Nod) : Prop where
  c0 : w.cell? ⟨g, p, none⟩ = some (.int .i64 n.kind)
  c1 : w.cell? ⟨g, p + 1, none⟩ = some (.int .i64 n.mode)
  c2 : w.cell? ⟨g, p + 2, none⟩ = some (.int .i64 n.uid)
  c3 : w.cell? ⟨g, p + 3, none⟩ = some (.int .i64 n.gid)
  c4 : w.cell? ⟨g, p + 4, none⟩ = some (.int .i64 n.time)
  c5 : w.cell? ⟨g, p + 5, none⟩ = some (.string (bs n.data))
  c6 : w.cell? ⟨g, p + 6, none⟩ = some lv
theorem NodC.below {w w' : World} {g p B : Nat} {lv : Value} {n : Nod} (h : NodC w g p lv n) (hb : Below B w w') (hg : g < B) : NodC w' g p lv n :=
  ⟨(hb.cell (p := ⟨g, p, none⟩) hg).trans h.c0, (hb.cell (p := ⟨g, p + 1, none⟩) hg).trans h.c1, (hb.cell (p := ⟨g, p + 2, none⟩) hg).trans h.c2, (hb.cell (p := ⟨g, p + 3, none⟩) hg).trans h.c3,
   (hb.cell (p := ⟨g, p + 4, none⟩) hg).trans h.c4, (hb.cell (p := ⟨g, p + 5, none⟩) hg).trans h.c5, (hb.cell (p := ⟨g, p + 6, none⟩) hg).trans h.c6⟩

/-- The value reads as a list of nodes. -/
def NodsA (w : World) (v : Value) (ns : List Nod) : Prop :=
  ∃ o c, v = .slice o ns.length c ∧ ns.length ≤ maxLen ∧ ∀ i (h : i < ns.length), ∃ g off lv, o = some ⟨g, off, none⟩ ∧ g < w.heap.size ∧ NodC w g (off + i * 7) lv ns[i] ∧ EntsA w lv ns[i].list ∧ ns[i].data.length ≤ maxLen
theorem NodsA.below {w w' : World} {v : Value} {ns : List Nod} (h : NodsA w v ns) (hb : Below w.heap.size w w') : NodsA w' v ns := by
  obtain ⟨o, c, rfl, hm, hH⟩ := h
  refine ⟨o, c, rfl, hm, fun i hi => ?_⟩
  obtain ⟨g, off, lv, e, hg, hc, he, hd⟩ := hH i hi
  exact ⟨g, off, lv, e, Nat.lt_of_lt_of_le hg hb.size, hc.below hb hg, he.below hb, hd⟩
/-- The value reads as a file system. -/
def FsA (w : World) (v : Value) (f : FsD) : Prop := ∃ nv, v = .agg #[nv, .int .i64 f.room] ∧ NodsA w nv f.nodes
theorem FsA.below {w w' : World} {v : Value} {f : FsD} (h : FsA w v f) (hb : Below w.heap.size w w') : FsA w' v f := by
  obtain ⟨nv, e, h1⟩ := h
  exact ⟨nv, e, h1.below hb⟩

def szN (n : Nod) : Nat := n.data.length + (n.list.length + lensE n.list)
def szNs (ns : List Nod) : Nat := (ns.map szN).sum
theorem szNs_take {ns : List Nod} {k : Nat} (h : k < ns.length) : szNs (ns.take (k + 1)) = szNs (ns.take k) + szN ns[k] := by
  unfold szNs; rw [List.take_succ_eq_append_getElem h]; simp only [List.map_append, List.sum_append, List.map_cons, List.map_nil, List.sum_cons, List.sum_nil, Nat.add_zero]
theorem szNs_pre (ns : List Nod) (k : Nat) : szNs (ns.take k) ≤ szNs ns := by
  conv => rhs; rw [← List.take_append_drop k ns]
  unfold szNs; rw [List.map_append, List.sum_append]; omega

theorem less_yes {n : Nat} {left : Int} (h : (n : Int) ≤ left) : lessR n left = left - n := by unfold lessR; rw [if_pos h]
theorem less_no {n : Nat} {left : Int} (h : ¬ (n : Int) ≤ left) : lessR n left = -1 := by unfold lessR; rw [if_neg h]

set_option maxHeartbeats 1000000 in
theorem szNode_any (k m u gi t : Int) (x : ByteArray) (lv : Value) (es : List Ent) (left : Int) (w : World) (hE : EntsA w lv es) (h0 : 0 ≤ left) (h1 : left ≤ 1048576) (hx : x.size ≤ 9223372036854775807) :
    Calls Try.prog 51 #[.agg #[.int .i64 k, .int .i64 m, .int .i64 u, .int .i64 gi, .int .i64 t, .string x, lv], .int .i64 left] w fun e w' => e = .returned (.int .i64 (lessR (x.size + (es.length + lensE es)) left)) ∧ Below w.heap.size w w' := by
  obtain ⟨o, c, rfl, _, _⟩ := id hE
  have HE := Lib.hid hE
  clear hE
  by_cases h : (x.size : Int) ≤ left
  · have h2 : 0 ≤ left - (x.size : Int) := by omega
    have hbw : Below w.heap.size w (w.alloc (.cells #[.int .i64 k, .int .i64 m, .int .i64 u, .int .i64 gi, .int .i64 t, .string x, .slice o es.length c] 84)) := (Below.refl _ _).alloc (Nat.le_refl _) _
    have HBW := Lib.hid hbw
    clear hbw
    by_cases h3 : ((es.length + lensE es : Nat) : Int) ≤ left - x.size
    · have HQ := Lib.hid (less_yes h3)
      have HR : Hid (lessR (x.size + (es.length + lensE es)) left = left - x.size - (es.length + lensE es : Nat)) := Lib.hid (by rw [less_yes (by omega)]; omega)
      have h4 : 0 ≤ left - (x.size : Int) - ((es.length + lensE es : Nat) : Int) := by omega
      go_enter Try.func51, Try.ntmps51
      go_wp2_with fail
      refine (szEntryS_any es _ _ _ (HE.out.below HBW.out) (by omega) (by omega)).mono ?_
      rintro e w1 ⟨rfl, hb1⟩
      rw [HQ.out]
      go_wp2
      go_ret
      exact ⟨ret_int HR.out.symm, HBW.out.trans (hb1.mono HBW.out.size)⟩
    · have HQ := Lib.hid (less_no h3)
      have HR : Hid (lessR (x.size + (es.length + lensE es)) left = -1) := Lib.hid (less_no (by omega))
      go_enter Try.func51, Try.ntmps51
      go_wp2_with fail
      refine (szEntryS_any es _ _ _ (HE.out.below HBW.out) (by omega) (by omega)).mono ?_
      rintro e w1 ⟨rfl, hb1⟩
      rw [HQ.out]
      go_wp2
      go_ret
      exact ⟨ret_int HR.out.symm, HBW.out.trans (hb1.mono HBW.out.size)⟩
  · have HR : Hid (lessR (x.size + (es.length + lensE es)) left = -1) := Lib.hid (less_no (by omega))
    have h2 : left - (x.size : Int) < 0 := by omega
    go_enter Try.func51, Try.ntmps51
    go_wp2
    go_ret
    exact ⟨ret_int HR.out.symm, (Below.refl _ _).alloc (Nat.le_refl _) _⟩

set_option maxHeartbeats 1000000 in
theorem szNodeS_any (ns : List Nod) (v : Value) (w : World) (left : Int) (hR : NodsA w v ns) (h0 : 0 ≤ left) (hl : left ≤ 1048576) : Calls Try.prog 27 #[v, .int .i64 left] w fun e w' => e = .returned (.int .i64 (lessR (ns.length + szNs ns) left)) ∧ Below w.heap.size w w' := by
  obtain ⟨o, c, rfl, hm, hH⟩ := hR
  have HH := Lib.hid hH
  clear hH
  unfold maxLen at hm
  by_cases hq : left < ns.length
  · have HZ : Hid (lessR (ns.length + szNs ns) left = -1) := Lib.hid (less_no (by omega))
    go_enter Try.func27, Try.ntmps27
    go_wp2
    go_ret
    exact ⟨ret_int HZ.out.symm, Below.refl _ _⟩
  · have h0' : (ns.length : Int) ≤ left := by omega
    go_enter Try.func27, Try.ntmps27
    go_wp2
    go_loopw [1, 5] (fun t i wr => ∃ k : Nat, k ≤ ns.length ∧ i = .int .i64 k ∧ (ns.length : Int) + szNs (ns.take k) ≤ left ∧ t = .int .i64 (left - ns.length - szNs (ns.take k)) ∧ Below w.heap.size w wr) (fun _ i _ => ns.length - (intOf i).toNat)
    case atStart => exact ⟨0, Nat.zero_le _, rfl, by simpa [szNs] using h0', by simp [szNs], Below.refl _ _⟩
    case round =>
      obtain ⟨k, hk, rfl, hA, rfl, hB⟩ := hrel
      by_cases hlt : k < ns.length
      · obtain ⟨g, off, lv, rfl, hg, hc, he, hml⟩ := HH.out k hlt
        have HS := Lib.hid (szNs_take hlt)
        obtain ⟨d0, d1, d2, d3, d4, d5, d6⟩ := hc.below hB hg
        obtain ⟨q, hqq⟩ : ∃ q, q = ns[k] := ⟨_, rfl⟩
        rw [← hqq] at d0 d1 d2 d3 d4 d5 he hml HS
        have HE := Lib.hid (he.below hB)
        obtain ⟨o2, c2, rfl, _, _⟩ := id he
        have HZ : Hid ((bs q.data).size = q.data.length) := Lib.hid (bs_size _)
        have hx : (bs q.data).size ≤ 9223372036854775807 := by rw [HZ.out]; unfold maxLen at hml; omega
        have HN : Hid (szN q = (bs q.data).size + (q.list.length + lensE q.list)) := Lib.hid (by rw [HZ.out]; rfl)
        obtain ⟨x, hxx⟩ : ∃ x, x = bs q.data := ⟨_, rfl⟩
        rw [← hxx] at d5 hx HN
        clear hc he hml hqq hxx HZ
        by_cases hlt2 : ((szN q : Nat) : Int) ≤ left - ns.length - szNs (ns.take k)
        · have HQ := Lib.hid (less_yes hlt2)
          have h3 : 0 ≤ left - (ns.length : Int) - (szNs (ns.take k) : Int) - (szN q : Int) := by omega
          go_wp2_with fail
          refine (szNode_any _ _ _ _ _ _ _ _ _ _ HE.out (by omega) (by omega) hx).mono ?_
          rintro e w1 ⟨rfl, hb1⟩
          rw [← HN.out, HQ.out]
          go_wp2
          go_roundw
          case rel => exact ⟨k + 1, hlt, by go_num, by rw [HS.out]; omega, by rw [HS.out]; go_num, hB.trans (hb1.mono hB.size)⟩
          case measure => simp [intOf]; omega
        · have HQ := Lib.hid (less_no hlt2)
          have HR : Hid (lessR (ns.length + szNs ns) left = -1) := Lib.hid (by
            have h1 := szNs_pre ns (k + 1)
            rw [HS.out] at h1
            exact less_no (by omega))
          go_wp2_with fail
          refine (szNode_any _ _ _ _ _ _ _ _ _ _ HE.out (by omega) (by omega) hx).mono ?_
          rintro e w1 ⟨rfl, hb1⟩
          rw [← HN.out, HQ.out]
          go_wp2
          go_ret
          exact ⟨ret_int HR.out.symm, hB.trans (hb1.mono hB.size)⟩
      · have HT : Hid (ns.take k = ns) := Lib.hid (List.take_of_length_le (by omega))
        have HR : Hid (lessR (ns.length + szNs ns) left = left - ns.length - szNs (ns.take k)) := Lib.hid (by rw [HT.out] at hA ⊢; rw [less_yes (by omega)]; omega)
        go_wp2
        go_ret
        exact ⟨ret_int HR.out.symm, hB⟩

def szF (f : FsD) : Nat := f.nodes.length + szNs f.nodes
set_option maxHeartbeats 1000000 in
theorem szFs_any (f : FsD) (v : Value) (w : World) (left : Int) (hR : FsA w v f) (h0 : 0 ≤ left) (hl : left ≤ 1048576) : Calls Try.prog 7 #[v, .int .i64 left] w fun e w' => e = .returned (.int .i64 (lessR (szF f) left)) ∧ Below w.heap.size w w' := by
  obtain ⟨nv, rfl, hN⟩ := hR
  obtain ⟨o, c, rfl, _, _⟩ := id hN
  have HN := Lib.hid hN
  have HBW : Hid (Below w.heap.size w (w.alloc (.cells #[.slice o f.nodes.length c, .int .i64 f.room] 24))) := Lib.hid ((Below.refl _ _).alloc (Nat.le_refl _) _)
  clear hN
  by_cases h : ((szF f : Nat) : Int) ≤ left
  · have HQ := Lib.hid (less_yes h)
    have h3 : 0 ≤ left - (szF f : Int) := by omega
    have HF : Hid (lessR (f.nodes.length + szNs f.nodes) left = left - (szF f : Int)) := Lib.hid HQ.out
    go_enter Try.func7, Try.ntmps7
    go_wp2_with fail
    refine (szNodeS_any f.nodes _ _ _ (HN.out.below HBW.out) h0 hl).mono ?_
    rintro e w1 ⟨rfl, hb1⟩
    rw [HF.out]
    go_wp2
    go_ret
    exact ⟨ret_int HQ.out.symm, HBW.out.trans (hb1.mono HBW.out.size)⟩
  · have HQ := Lib.hid (less_no h)
    have HF : Hid (lessR (f.nodes.length + szNs f.nodes) left = -1) := Lib.hid HQ.out
    go_enter Try.func7, Try.ntmps7
    go_wp2_with fail
    refine (szNodeS_any f.nodes _ _ _ (HN.out.below HBW.out) h0 hl).mono ?_
    rintro e w1 ⟨rfl, hb1⟩
    rw [HF.out]
    go_wp2
    go_ret
    exact ⟨ret_int HQ.out.symm, HBW.out.trans (hb1.mono HBW.out.size)⟩
end Go.Proofs.Ytknhacblialboaa


/-
  Contracts of the laws' helpers toNode, toNodeS, toFs: copies in memory of the call's own.
  Conditions: at most 2^20 values and letters together.
-/
namespace Go.Proofs.Ytknhacblialboaa
open Go.ChangeShapes Go.WideShapes Go.ChangeAt Go.RowKit Go.Joins
set_option linter.unusedVariables false

theorem cell_blk {w : World} {b : Nat} {cs : Array Value} {T : TypeId} (h : w.heap[b]? = some (.cells cs T (0, 0))) (j : Nat) : w.cell? ⟨b, j, none⟩ = cs[j]? := by simp [World.cell?, h]
theorem frozen_blk {w : World} {b : Nat} {cs : Array Value} {T : TypeId} (h : w.heap[b]? = some (.cells cs T (0, 0))) (j : Nat) : w.frozen? ⟨b, j, none⟩ = false := frozen_of_row w b j cs T h

set_option maxHeartbeats 2000000 in
theorem toNode_any (k m u gi t : Int) (x : ByteArray) (lv : Value) (es : List Ent) (w : World) (hE : EntsA w lv es) (hl : es.length ≤ 1048576) :
    Calls Try.prog 58 #[.agg #[.int .i64 k, .int .i64 m, .int .i64 u, .int .i64 gi, .int .i64 t, .string x, lv]] w fun e w' =>
      ∃ lv', e = .returned (.agg #[.int .i64 k, .int .i64 m, .int .i64 u, .int .i64 gi, .int .i64 t, .string x, lv']) ∧ EntsOwn w' w.heap.size lv' es ∧ Below w.heap.size w w' := by
  obtain ⟨o, c, rfl, -, -⟩ := id hE
  have HE := Lib.hid hE
  clear hE
  go_enter Try.func58, Try.ntmps58
  go_wp2_with fail
  have h2 := heap_alloc_new (w.alloc (.cells #[.int .i64 k, .int .i64 m, .int .i64 u, .int .i64 gi, .int .i64 t, .string x, .slice o es.length c] 84)) (.cells #[.int .i64 0, .int .i64 0, .int .i64 0, .int .i64 0, .int .i64 0, .string ⟨#[]⟩, .slice none 0 0] 70)
  have h3 := heap_alloc_new ((w.alloc (.cells #[.int .i64 k, .int .i64 m, .int .i64 u, .int .i64 gi, .int .i64 t, .string x, .slice o es.length c] 84)).alloc (.cells #[.int .i64 0, .int .i64 0, .int .i64 0, .int .i64 0, .int .i64 0, .string ⟨#[]⟩, .slice none 0 0] 70)) (.cells #[.int .i64 k, .int .i64 m, .int .i64 u, .int .i64 gi, .int .i64 t, .string x, .slice none 0 0] 70)
  have h23 := Below.heap_alloc ((w.alloc (.cells #[.int .i64 k, .int .i64 m, .int .i64 u, .int .i64 gi, .int .i64 t, .string x, .slice o es.length c] 84)).alloc (.cells #[.int .i64 0, .int .i64 0, .int .i64 0, .int .i64 0, .int .i64 0, .string ⟨#[]⟩, .slice none 0 0] 70)) (.cells #[.int .i64 k, .int .i64 m, .int .i64 u, .int .i64 gi, .int .i64 t, .string x, .slice none 0 0] 70) (w.heap.size + 1) (by simp)
  rw [World.size_alloc] at h2
  rw [World.size_alloc, World.size_alloc] at h3
  have hB3 : Below w.heap.size w (((w.alloc (.cells #[.int .i64 k, .int .i64 m, .int .i64 u, .int .i64 gi, .int .i64 t, .string x, .slice o es.length c] 84)).alloc (.cells #[.int .i64 0, .int .i64 0, .int .i64 0, .int .i64 0, .int .i64 0, .string ⟨#[]⟩, .slice none 0 0] 70)).alloc (.cells #[.int .i64 k, .int .i64 m, .int .i64 u, .int .i64 gi, .int .i64 t, .string x, .slice none 0 0] 70)) := (((Below.refl _ _).alloc (Nat.le_refl _) _).alloc (by simp) _).alloc (by simp; omega) _
  have hs3 : (((w.alloc (.cells #[.int .i64 k, .int .i64 m, .int .i64 u, .int .i64 gi, .int .i64 t, .string x, .slice o es.length c] 84)).alloc (.cells #[.int .i64 0, .int .i64 0, .int .i64 0, .int .i64 0, .int .i64 0, .string ⟨#[]⟩, .slice none 0 0] 70)).alloc (.cells #[.int .i64 k, .int .i64 m, .int .i64 u, .int .i64 gi, .int .i64 t, .string x, .slice none 0 0] 70)).heap.size = w.heap.size + 1 + 1 + 1 := by simp
  rw [h2] at h23
  obtain ⟨W3, hW3⟩ : ∃ W3, ((w.alloc (.cells #[.int .i64 k, .int .i64 m, .int .i64 u, .int .i64 gi, .int .i64 t, .string x, .slice o es.length c] 84)).alloc (.cells #[.int .i64 0, .int .i64 0, .int .i64 0, .int .i64 0, .int .i64 0, .string ⟨#[]⟩, .slice none 0 0] 70)).alloc (.cells #[.int .i64 k, .int .i64 m, .int .i64 u, .int .i64 gi, .int .i64 t, .string x, .slice none 0 0] 70) = W3 := ⟨_, rfl⟩
  rw [hW3] at h3 h23 hB3 hs3 ⊢
  clear h2 hW3
  refine (toEntryS_any es _ W3 (HE.out.below hB3) hl).mono ?_
  rintro e w4 ⟨lv', rfl, hO, hb4⟩
  have k2 := (hb4.block (w.heap.size + 1) (by omega)).trans h23
  have k3 := (hb4.block (w.heap.size + 1 + 1) (by omega)).trans h3
  have HB4 := Lib.hid (hB3.trans (hb4.mono hB3.size))
  have HO := Lib.hid hO
  obtain ⟨G, cc, rfl, _⟩ := hO
  have r0 := (cell_blk k2 0).trans rfl
  have r1 := (cell_blk k2 1).trans rfl
  have r2 := (cell_blk k2 2).trans rfl
  have r3 := (cell_blk k2 3).trans rfl
  have r4 := (cell_blk k2 4).trans rfl
  have r5 := (cell_blk k2 5).trans rfl
  have r6 := (cell_blk k2 6).trans rfl
  have o0 := (cell_blk k3 0).trans rfl
  have o1 := (cell_blk k3 1).trans rfl
  have o2 := (cell_blk k3 2).trans rfl
  have o3 := (cell_blk k3 3).trans rfl
  have o4 := (cell_blk k3 4).trans rfl
  have o5 := (cell_blk k3 5).trans rfl
  have o6 := (cell_blk k3 6).trans rfl
  have fr := frozen_blk k2
  have fo := frozen_blk k3
  clear h3 h23 hB3 hb4 k2 k3
  go_wp2
  refine bodyPost_ret (v := .agg #[.int .i64 k, .int .i64 m, .int .i64 u, .int .i64 gi, .int .i64 t, .string x, .slice (some ⟨G, 0, none⟩) es.length cc]) (by simp [results, Try.results58, go_sem, r0, r1, r2, r3, r4, r5, r6]) rfl ⟨_, rfl, ?_, ?_⟩
  · obtain ⟨G', c', e', h1, h2, h3, hr⟩ := HO.out
    simp only [Value.slice.injEq, Option.some.injEq, Addr.mk.injEq, and_true, true_and] at e'
    obtain ⟨rfl, rfl⟩ := e'
    refine ⟨G, cc, rfl, h1, h2, by omega, ?_⟩
    iterate 8 refine RowAt.other ?_ (by simp; omega) _
    exact hr
  · iterate 8 refine Below.setCell ?_ (by first | omega | (simp; done) | (simp; omega)) _
    exact HB4.out

/-- A node's cells. -/
def nodCell (n : Nod) (lv : Value) (r : Nat) : Value :=
  if r = 0 then .int .i64 n.kind else if r = 1 then .int .i64 n.mode else if r = 2 then .int .i64 n.uid else if r = 3 then .int .i64 n.gid else if r = 4 then .int .i64 n.time else if r = 5 then .string (bs n.data) else lv
def nod0 : Nod := ⟨0, 0, 0, 0, 0, [], []⟩
/-- The cells of a list of nodes with their lists' values; behind it zero values. -/
def nodsF (ps : List (Nod × Value)) (j : Nat) : Value := nodCell (ps[j / 7]?.getD (nod0, .slice none 0 0)).1 (ps[j / 7]?.getD (nod0, .slice none 0 0)).2 (j % 7)
/-- The value is a list of nodes of the call's own: their row in a block from B on, their lists in blocks behind it. -/
def NodsOwn (w : World) (B : Nat) (v : Value) (ns : List Nod) : Prop :=
  ∃ G c ps, v = .slice (some ⟨G, 0, none⟩) ns.length c ∧ ns.length ≤ c ∧ c ≤ maxLen ∧ B ≤ G ∧ ps.map Prod.fst = ns ∧ RowAt w G (ns.length * 7) 70 (nodsF ps) ∧ ∀ p ∈ ps, EntsOwn w (G + 1) p.2 p.1.list

theorem nods_step {ps : List (Nod × Value)} {n : Nod} {lv : Value} (j : Nat) :
    (if j = ps.length * 7 + 6 then lv else if j = ps.length * 7 + 5 then .string (bs n.data) else if j = ps.length * 7 + 4 then .int .i64 n.time else if j = ps.length * 7 + 3 then .int .i64 n.gid else if j = ps.length * 7 + 2 then .int .i64 n.uid else if j = ps.length * 7 + 1 then .int .i64 n.mode else if j = ps.length * 7 then .int .i64 n.kind else nodsF ps j) = nodsF (ps ++ [(n, lv)]) j := by
  unfold nodsF
  by_cases hj : j / 7 = ps.length
  · have hm : j = ps.length * 7 + j % 7 := by omega
    have hlt : j % 7 < 7 := Nat.mod_lt _ (by omega)
    rw [hj, List.getElem?_append_right (Nat.le_refl _)]
    obtain ⟨r, hr⟩ : ∃ r, r = j % 7 := ⟨_, rfl⟩
    rw [← hr] at hm hlt ⊢
    subst hm
    simp only [Nat.sub_self, List.getElem?_cons_zero, Option.getD_some, nodCell, Nat.add_right_inj, Nat.add_eq_left]
    rcases (show r = 0 ∨ r = 1 ∨ r = 2 ∨ r = 3 ∨ r = 4 ∨ r = 5 ∨ r = 6 by omega) with rfl | rfl | rfl | rfl | rfl | rfl | rfl <;> simp
  · rw [if_neg (by omega), if_neg (by omega), if_neg (by omega), if_neg (by omega), if_neg (by omega), if_neg (by omega), if_neg (by omega)]
    by_cases h1 : j / 7 < ps.length
    · rw [List.getElem?_append_left h1]
    · rw [List.getElem?_eq_none (by omega), List.getElem?_eq_none (by simp; omega)]

theorem EntsOwn.other {w : World} {B : Nat} {v : Value} {es : List Ent} (h : EntsOwn w B v es) {p : Addr} (hp : p.block < B) (u : Value) : EntsOwn (w.setCell p u) B v es := by
  obtain ⟨G, c, e, h1, h2, h3, hr⟩ := h
  exact ⟨G, c, e, h1, h2, h3, hr.other (by omega) u⟩
theorem EntsOwn.mono {w : World} {A B : Nat} {v : Value} {es : List Ent} (h : EntsOwn w B v es) (hAB : A ≤ B) : EntsOwn w A v es := by
  obtain ⟨G, c, e, h1, h2, h3, hr⟩ := h
  exact ⟨G, c, e, h1, h2, by omega, hr⟩

theorem nodInfo : (Try.prog.info? 70).map (fun i => (i.zero, i.size, i.bytes)) = some (some (.agg #[.int .i64 0, .int .i64 0, .int .i64 0, .int .i64 0, .int .i64 0, .string ⟨#[]⟩, .slice none 0 0]), 7, 80) := by kernel_rfl
theorem nods_zero (j : Nat) : (#[Value.int .i64 0, .int .i64 0, .int .i64 0, .int .i64 0, .int .i64 0, .string ⟨#[]⟩, .slice none 0 0] : Array Value)[j % 7]! = nodsF [] j := by
  unfold nodsF nodCell nod0
  obtain ⟨r, hr⟩ : ∃ r, r = j % 7 := ⟨_, rfl⟩
  have hlt : j % 7 < 7 := Nat.mod_lt _ (by omega)
  rw [← hr] at hlt ⊢
  rcases (show r = 0 ∨ r = 1 ∨ r = 2 ∨ r = 3 ∨ r = 4 ∨ r = 5 ∨ r = 6 by omega) with rfl | rfl | rfl | rfl | rfl | rfl | rfl <;> rfl

set_option maxHeartbeats 4000000 in
theorem toNodeS_any (ns : List Nod) (v : Value) (w : World) (hR : NodsA w v ns) (hl : ns.length ≤ 1048576) (hll : ∀ n ∈ ns, n.list.length ≤ 1048576) : Calls Try.prog 30 #[v] w fun e w' => ∃ u, e = .returned u ∧ NodsOwn w' w.heap.size u ns ∧ Below w.heap.size w w' := by
  obtain ⟨i0, hi, hz0, hz1, hz2⟩ := info_parts nodInfo
  obtain ⟨o, c, rfl, hm, hH⟩ := hR
  have HH := Lib.hid hH
  have HLL := Lib.hid hll
  clear hH hll
  unfold maxLen at hm
  go_enter Try.func30, Try.ntmps30
  go_wp2_with (at_make; refine wpList_make_full _ rfl _ _ 29 rfl w.heap.size 70 i0 (.agg #[.int .i64 0, .int .i64 0, .int .i64 0, .int .i64 0, .int .i64 0, .string ⟨#[]⟩, .slice none 0 0]) 7 Try.underlying29 hi hz0 hz1 _ _ _ _ ns.length rfl rfl rfl rfl (by rw [hz2]; omega) (by unfold maxLen; omega) (Nat.le_refl _) ?_)
  intro w1 hown hgrow
  have hb1 : Below w.heap.size w w1 := (Below.refl _ w).grown hgrow (Nat.le_refl _) (fun k e => by cases e)
  have hr1 : RowAt w1 w.heap.size (ns.length * 7) 70 (nodsF []) := by
    refine RowAt.made hown (fun j hj => ?_)
    have hj' : j < ns.length * 7 := hj
    rw [← nods_zero]
    simp [madeCells, hj']
  clear hown hgrow
  go_wp2
  go_loopw [4] (fun i wr => ∃ (k : Nat) (ps : List (Nod × Value)), k ≤ ns.length ∧ i = .int .i64 k ∧ ps.length = k ∧ ps.map Prod.fst = ns.take k ∧ RowAt wr w.heap.size (ns.length * 7) 70 (nodsF ps) ∧ (∀ p ∈ ps, EntsOwn wr (w.heap.size + 1) p.2 p.1.list) ∧ Below w.heap.size w wr) (fun i _ => ns.length - (intOf i).toNat)
  case atStart => exact ⟨0, [], Nat.zero_le _, rfl, rfl, rfl, hr1, by simp, hb1⟩
  case round =>
    obtain ⟨k, ps, hk, rfl, hpl, hps, hr, hE, hB⟩ := hrel
    have HPL := Lib.hid hpl
    have HPS := Lib.hid hps
    have HRr := Lib.hid hr
    have HEr := Lib.hid hE
    have hsr := hr.lt
    clear hpl hps hE hr1
    by_cases hlt : k < ns.length
    · obtain ⟨g, off, lv, rfl, hg, hc, he, hml⟩ := HH.out k hlt
      obtain ⟨d0, d1, d2, d3, d4, d5, d6⟩ := hc.below hB hg
      have HTK : Hid (ns.take (k + 1) = ns.take k ++ [ns[k]]) := Lib.hid (List.take_succ_eq_append_getElem hlt)
      have hql : ns[k].list.length ≤ 1048576 := HLL.out _ (List.getElem_mem hlt)
      obtain ⟨q, hqq⟩ : ∃ q, q = ns[k] := ⟨_, rfl⟩
      rw [← hqq] at d0 d1 d2 d3 d4 d5 he hml HTK hql
      have HE := Lib.hid (he.below hB)
      obtain ⟨o2, c2, rfl, -, -⟩ := id he
      have HST : Hid (∀ lv j, (if j = k * 7 + 6 then lv else if j = k * 7 + 5 then Value.string (bs q.data) else if j = k * 7 + 4 then .int .i64 q.time else if j = k * 7 + 3 then .int .i64 q.gid else if j = k * 7 + 2 then .int .i64 q.uid else if j = k * 7 + 1 then .int .i64 q.mode else if j = k * 7 then .int .i64 q.kind else nodsF ps j) = nodsF (ps ++ [(q, lv)]) j) := Lib.hid (fun lv j => by
        have := nods_step (ps := ps) (n := q) (lv := lv) j
        rw [HPL.out] at this
        exact this)
      obtain ⟨x, hxx⟩ : ∃ x, x = bs q.data := ⟨_, rfl⟩
      rw [← hxx] at d5 HST
      clear hc he hml hqq hxx hr
      go_wp2_with fail
      refine (toNode_any _ _ _ _ _ _ _ _ _ HE.out hql).mono ?_
      rintro e w2 ⟨lv', rfl, hO2, hb2⟩
      have HO2 := Lib.hid hO2
      obtain ⟨G2, cc2, rfl, -⟩ := hO2
      have hr2 := HRr.out.below hb2 HRr.out.lt
      have b0 := hr2.cell (j := k * 7) (by omega)
      have b1 := hr2.cell (j := k * 7 + 1) (by omega)
      have b2 := hr2.cell (j := k * 7 + 2) (by omega)
      have b3 := hr2.cell (j := k * 7 + 3) (by omega)
      have b4 := hr2.cell (j := k * 7 + 4) (by omega)
      have b5 := hr2.cell (j := k * 7 + 5) (by omega)
      have b6 := hr2.cell (j := k * 7 + 6) (by omega)
      have bf := hr2.frozen
      have HR3 := Lib.hid ((((((((hr2.set (k * 7) (.int .i64 q.kind)).set (k * 7 + 1) (.int .i64 q.mode)).set (k * 7 + 2) (.int .i64 q.uid)).set (k * 7 + 3) (.int .i64 q.gid)).set (k * 7 + 4) (.int .i64 q.time)).set (k * 7 + 5) (.string x)).set (k * 7 + 6) (.slice (some ⟨G2, 0, none⟩) q.list.length cc2)).congr (fun j _ => HST.out _ j))
      have HB2 := Lib.hid (hB.trans (hb2.mono hB.size))
      have HE2 := Lib.hid (fun p hp => (HEr.out p hp).below hb2)
      clear hr2 hb2
      go_wp2
      go_roundw
      case rel =>
        refine ⟨k + 1, ps ++ [(q, .slice (some ⟨G2, 0, none⟩) q.list.length cc2)], hlt, by go_num, by simp [HPL.out], by rw [List.map_append, HPS.out, HTK.out]; rfl, HR3.out, ?_, ?_⟩
        · intro p hp
          iterate 7 refine EntsOwn.other ?_ (by simp) _
          rcases List.mem_append.1 hp with h1 | h1
          · exact HE2.out p h1
          · simp only [List.mem_singleton] at h1
            subst h1
            exact HO2.out.mono (by omega)
        · iterate 7 refine Below.setCell ?_ (by first | omega | (simp; done) | (simp; omega)) _
          exact HB2.out
      case measure => simp [intOf]; omega
    · have HT : Hid (ns.take k = ns) := Lib.hid (List.take_of_length_le (by omega))
      clear hr
      go_wp2
      go_ret
      exact ⟨_, rfl, ⟨_, _, ps, rfl, Nat.le_refl _, by unfold maxLen; omega, Nat.le_refl _, by rw [HPS.out, HT.out], HRr.out, HEr.out⟩, hB⟩
end Go.Proofs.Ytknhacblialboaa


/-
  Contracts of the laws' helpers toFs, eqEntry, eqEntryS, eqNode, eqNodeS, eqFs (at the same data).
  Conditions: as each states.
-/
namespace Go.Proofs.Ytknhacblialboaa
open Go.ChangeShapes Go.WideShapes Go.ChangeAt Go.RowKit Go.Joins
set_option linter.unusedVariables false

/-- The value is a file system of the call's own. -/
def FsOwn (w : World) (B : Nat) (v : Value) (f : FsD) : Prop := ∃ nv, v = .agg #[nv, .int .i64 f.room] ∧ NodsOwn w B nv f.nodes

theorem NodsOwn.below {w w' : World} {B : Nat} {v : Value} {ns : List Nod} (h : NodsOwn w B v ns) (hb : Below w.heap.size w w') : NodsOwn w' B v ns := by
  obtain ⟨G, c, ps, e, h1, h2, h3, h4, hr, hE⟩ := h
  exact ⟨G, c, ps, e, h1, h2, h3, h4, hr.below hb hr.lt, fun p hp => (hE p hp).below hb⟩
theorem FsOwn.below {w w' : World} {B : Nat} {v : Value} {f : FsD} (h : FsOwn w B v f) (hb : Below w.heap.size w w') : FsOwn w' B v f := by
  obtain ⟨nv, e, h1⟩ := h
  exact ⟨nv, e, h1.below hb⟩

theorem NodsOwn.other {w : World} {B : Nat} {v : Value} {ns : List Nod} (h : NodsOwn w B v ns) {p : Addr} (hp : p.block < B) (u : Value) : NodsOwn (w.setCell p u) B v ns := by
  obtain ⟨G, c, ps, e, h1, h2, h3, h4, hr, hE⟩ := h
  exact ⟨G, c, ps, e, h1, h2, h3, h4, hr.other (by omega) u, fun q hq => (hE q hq).other (by omega) u⟩
theorem NodsOwn.mono {w : World} {A B : Nat} {v : Value} {ns : List Nod} (h : NodsOwn w B v ns) (hAB : A ≤ B) : NodsOwn w A v ns := by
  obtain ⟨G, c, ps, e, h1, h2, h3, rest⟩ := h
  exact ⟨G, c, ps, e, h1, h2, by omega, rest⟩

/-- All texts are texts. -/
def NodsFit (ns : List Nod) : Prop := ∀ n ∈ ns, n.data.length ≤ maxLen ∧ ∀ e ∈ n.list, e.name.length ≤ maxLen
theorem NodsOwn.read {w : World} {B : Nat} {v : Value} {ns : List Nod} (h : NodsOwn w B v ns) (hf : NodsFit ns) : NodsA w v ns := by
  obtain ⟨G, c, ps, rfl, h1, h2, h3, h4, hr, hE⟩ := h
  refine ⟨_, c, rfl, by omega, fun i hi => ?_⟩
  have hlp : ps.length = ns.length := by rw [← h4]; simp
  have hip : i < ps.length := by omega
  have hn : ns[i] = (ps[i]).1 := by
    have : (ps.map Prod.fst)[i]'(by simpa using hip) = ns[i] := by simp [h4]
    rw [← this]; simp
  have hcell : ∀ r, r < 7 → w.cell? ⟨G, 0 + i * 7 + r, none⟩ = some (nodCell ns[i] (ps[i]).2 r) := by
    intro r hr7
    have h5 := hr.cell (j := i * 7 + r) (by omega)
    have e1 : (i * 7 + r) / 7 = i := by omega
    have e2 : (i * 7 + r) % 7 = r := by omega
    rw [Nat.zero_add, h5]
    unfold nodsF
    rw [e1, e2, List.getElem?_eq_getElem hip, Option.getD_some, hn]
  refine ⟨G, 0, (ps[i]).2, rfl, hr.lt, ⟨hcell 0 (by omega), hcell 1 (by omega), hcell 2 (by omega), hcell 3 (by omega), hcell 4 (by omega), hcell 5 (by omega), hcell 6 (by omega)⟩, ?_, (hf _ (List.getElem_mem hi)).1⟩
  have h6 := hE _ (List.getElem_mem hip)
  rw [← hn] at h6
  exact h6.read (hf _ (List.getElem_mem hi)).2
theorem FsOwn.read {w : World} {B : Nat} {v : Value} {f : FsD} (h : FsOwn w B v f) (hf : NodsFit f.nodes) : FsA w v f := by
  obtain ⟨nv, e, h1⟩ := h
  exact ⟨nv, e, h1.read hf⟩
theorem NodsA.fit {w : World} {v : Value} {ns : List Nod} (h : NodsA w v ns) : NodsFit ns := by
  obtain ⟨o, c, rfl, hm, hH⟩ := h
  intro n hn
  obtain ⟨i, hi, rfl⟩ := List.getElem_of_mem hn
  obtain ⟨g, off, lv, _, _, _, he, hd⟩ := hH i hi
  refine ⟨hd, fun e hem => ?_⟩
  obtain ⟨o2, c2, rfl, _, hE⟩ := he
  obtain ⟨j, hj, rfl⟩ := List.getElem_of_mem hem
  obtain ⟨_, _, _, _, _, _, hl⟩ := hE j hj
  exact hl

theorem szN_mem {ns : List Nod} {n : Nod} (h : n ∈ ns) : szN n ≤ szNs ns := by
  induction ns with
  | nil => cases h
  | cons q r ih =>
    have e : szNs (q :: r) = szN q + szNs r := by simp [szNs]
    rcases List.mem_cons.1 h with rfl | h1
    · omega
    · have := ih h1; omega
theorem lists_small {f : FsD} (h : szF f ≤ 1048576) : f.nodes.length ≤ 1048576 ∧ ∀ n ∈ f.nodes, n.list.length ≤ 1048576 ∧ n.data.length ≤ 1048576 ∧ lensE n.list ≤ 1048576 := by
  unfold szF at h
  refine ⟨by omega, fun n hn => ?_⟩
  have := szN_mem hn
  unfold szN at this
  omega

set_option maxHeartbeats 2000000 in
theorem toFs_any (f : FsD) (v : Value) (w : World) (hR : FsA w v f) (hs : szF f ≤ 1048576) : Calls Try.prog 9 #[v] w fun e w' => ∃ u, e = .returned u ∧ FsOwn w' w.heap.size u f ∧ Below w.heap.size w w' := by
  obtain ⟨nv, rfl, hN⟩ := hR
  obtain ⟨o, c, rfl, -, -⟩ := id hN
  have HN := Lib.hid hN
  obtain ⟨s1, s2⟩ := lists_small hs
  have HS2 : Hid (∀ n ∈ f.nodes, n.list.length ≤ 1048576) := Lib.hid (fun n hn => (s2 n hn).1)
  clear hN s2
  go_enter Try.func9, Try.ntmps9
  go_wp2_with fail
  have h1 := heap_alloc_new w (.cells #[.slice o f.nodes.length c, .int .i64 f.room] 24)
  have h2 := heap_alloc_new (w.alloc (.cells #[.slice o f.nodes.length c, .int .i64 f.room] 24)) (.cells #[.slice none 0 0, .int .i64 0] 31)
  have h3 := heap_alloc_new ((w.alloc (.cells #[.slice o f.nodes.length c, .int .i64 f.room] 24)).alloc (.cells #[.slice none 0 0, .int .i64 0] 31)) (.cells #[.slice none 0 0, .int .i64 0] 31)
  have h12 := Below.heap_alloc (w.alloc (.cells #[.slice o f.nodes.length c, .int .i64 f.room] 24)) (.cells #[.slice none 0 0, .int .i64 0] 31) w.heap.size (by simp)
  have h13 := Below.heap_alloc ((w.alloc (.cells #[.slice o f.nodes.length c, .int .i64 f.room] 24)).alloc (.cells #[.slice none 0 0, .int .i64 0] 31)) (.cells #[.slice none 0 0, .int .i64 0] 31) w.heap.size (by simp; omega)
  have h23 := Below.heap_alloc ((w.alloc (.cells #[.slice o f.nodes.length c, .int .i64 f.room] 24)).alloc (.cells #[.slice none 0 0, .int .i64 0] 31)) (.cells #[.slice none 0 0, .int .i64 0] 31) (w.heap.size + 1) (by simp)
  rw [World.size_alloc] at h2
  rw [World.size_alloc, World.size_alloc] at h3
  have hB3 : Below w.heap.size w (((w.alloc (.cells #[.slice o f.nodes.length c, .int .i64 f.room] 24)).alloc (.cells #[.slice none 0 0, .int .i64 0] 31)).alloc (.cells #[.slice none 0 0, .int .i64 0] 31)) := (((Below.refl _ _).alloc (Nat.le_refl _) _).alloc (by simp) _).alloc (by simp; omega) _
  have hs3 : (((w.alloc (.cells #[.slice o f.nodes.length c, .int .i64 f.room] 24)).alloc (.cells #[.slice none 0 0, .int .i64 0] 31)).alloc (.cells #[.slice none 0 0, .int .i64 0] 31)).heap.size = w.heap.size + 1 + 1 + 1 := by simp
  rw [h2] at h23
  rw [h12, h1] at h13
  obtain ⟨W3, hW3⟩ : ∃ W3, ((w.alloc (.cells #[.slice o f.nodes.length c, .int .i64 f.room] 24)).alloc (.cells #[.slice none 0 0, .int .i64 0] 31)).alloc (.cells #[.slice none 0 0, .int .i64 0] 31) = W3 := ⟨_, rfl⟩
  rw [hW3] at h3 h13 h23 hB3 hs3 ⊢
  clear h1 h2 h12 hW3
  refine (toNodeS_any f.nodes _ W3 (HN.out.below hB3) s1 HS2.out).mono ?_
  rintro e w4 ⟨nv', rfl, hO, hb4⟩
  have k1 := (hb4.block w.heap.size (by omega)).trans h13
  have k2 := (hb4.block (w.heap.size + 1) (by omega)).trans h23
  have k3 := (hb4.block (w.heap.size + 1 + 1) (by omega)).trans h3
  have HB4 := Lib.hid (hB3.trans (hb4.mono hB3.size))
  have HO := Lib.hid hO
  obtain ⟨G, cc, ps, rfl, -⟩ := hO
  have a1 := (cell_blk k1 1).trans rfl
  have r0 := (cell_blk k2 0).trans rfl
  have r1 := (cell_blk k2 1).trans rfl
  have o0 := (cell_blk k3 0).trans rfl
  have o1 := (cell_blk k3 1).trans rfl
  have fr := frozen_blk k2
  have fo := frozen_blk k3
  clear h3 h13 h23 hB3 hb4 k1 k2 k3
  go_wp2
  refine bodyPost_ret (v := .agg #[.slice (some ⟨G, 0, none⟩) f.nodes.length cc, .int .i64 f.room]) (by simp [results, Try.results9, go_sem, r0, r1]) rfl ⟨_, rfl, ⟨_, rfl, ?_⟩, ?_⟩
  · have h0 : NodsOwn w4 (w.heap.size + 1 + 1 + 1) (.slice (some ⟨G, 0, none⟩) f.nodes.length cc) f.nodes := by rw [← hs3]; exact HO.out
    refine NodsOwn.mono (B := w.heap.size + 1 + 1 + 1) ?_ (by omega)
    iterate 4 refine NodsOwn.other ?_ (by simp; try omega) _
    exact h0
  · iterate 4 refine Below.setCell ?_ (by first | omega | (simp; done) | (simp; omega)) _
    exact HB4.out

set_option maxHeartbeats 1000000 in
theorem eqEntry_same (x : ByteArray) (k : Int) (w : World) : Calls Try.prog 104 #[.agg #[.string x, .int .i64 k], .agg #[.string x, .int .i64 k]] w fun e w' => e = .returned (.bool true) ∧ Below w.heap.size w w' := by
  go_enter Try.func104, Try.ntmps104
  go_wp2
  go_ret
  exact ⟨rfl, ((Below.refl _ _).alloc (Nat.le_refl _) _).alloc (by simp) _⟩

set_option maxHeartbeats 1000000 in
theorem eqEntryS_same (es : List Ent) (u v : Value) (w : World) (hU : EntsA w u es) (hV : EntsA w v es) : Calls Try.prog 87 #[u, v] w fun e w' => e = .returned (.bool true) ∧ Below w.heap.size w w' := by
  obtain ⟨o1, c1, rfl, hm1, hH1⟩ := hU
  obtain ⟨o2, c2, rfl, hm2, hH2⟩ := hV
  have HH1 := Lib.hid hH1
  have HH2 := Lib.hid hH2
  clear hH1 hH2
  unfold maxLen at hm1 hm2
  go_enter Try.func87, Try.ntmps87
  go_wp2
  go_loopw [5] (fun i wr => ∃ k : Nat, k ≤ es.length ∧ i = .int .i64 k ∧ Below w.heap.size w wr) (fun i _ => es.length - (intOf i).toNat)
  case atStart => exact ⟨0, Nat.zero_le _, rfl, Below.refl _ _⟩
  case round =>
    obtain ⟨k, hk, rfl, hB⟩ := hrel
    by_cases hlt : k < es.length
    · obtain ⟨g1, f1, rfl, q1, x1, y1, _⟩ := HH1.out k hlt
      obtain ⟨g2, f2, rfl, q2, x2, y2, _⟩ := HH2.out k hlt
      obtain ⟨x, hx⟩ : ∃ x, x = bs es[k].name := ⟨_, rfl⟩
      rw [← hx] at x1 x2
      have d1 := (hB.cell (p := ⟨g1, f1 + k * 2, none⟩) q1).trans x1
      have d2 := (hB.cell (p := ⟨g1, f1 + k * 2 + 1, none⟩) q1).trans y1
      have d3 := (hB.cell (p := ⟨g2, f2 + k * 2, none⟩) q2).trans x2
      have d4 := (hB.cell (p := ⟨g2, f2 + k * 2 + 1, none⟩) q2).trans y2
      clear hx x1 x2 y1 y2
      go_wp2
      have z0 := fun d os => cell_regrown (w := wr) d1 d os
      have z1 := fun d os => cell_regrown (w := wr) d2 d os
      have z2 := fun d os => cell_regrown (w := wr) d3 d os
      have z3 := fun d os => cell_regrown (w := wr) d4 d os
      refine wp_region_quiet_below (by kernel_rfl) (by kernel_rfl) ?_
      repeat (first | go_big_quiet_step ((go_at_call 104; exact Calls.regrown_of (eqEntry_same _ _ _))) | quiet_step ((go_at_call 104; exact Calls.regrown_of (eqEntry_same _ _ _))))
      refine wpQuiet_nil ?_
      intro w5 hwq
      have hb5 : Below wr.heap.size wr w5 := by
        obtain ⟨pp, rfl⟩ := hwq
        exact below_regrown _ _ _
      clear hwq z0 z1 z2 z3
      go_wp2
      go_roundw
      case rel => exact ⟨k + 1, hlt, by go_num, hB.trans (hb5.mono hB.size)⟩
      case measure => simp [intOf]; omega
    · go_wp2
      go_ret
      exact ⟨rfl, hB⟩
end Go.Proofs.Ytknhacblialboaa


/-
  Contracts of the laws' helpers eqNode, eqNodeS, eqFs on two that read the same.
  Conditions: both read as the same data.
-/
namespace Go.Proofs.Ytknhacblialboaa
open Go.ChangeShapes Go.WideShapes Go.ChangeAt Go.RowKit Go.Joins
set_option linter.unusedVariables false

set_option maxHeartbeats 1000000 in
theorem eqNode_same (k m u gi t : Int) (x : ByteArray) (es : List Ent) (l1 l2 : Value) (w : World) (hU : EntsA w l1 es) (hV : EntsA w l2 es) :
    Calls Try.prog 61 #[.agg #[.int .i64 k, .int .i64 m, .int .i64 u, .int .i64 gi, .int .i64 t, .string x, l1], .agg #[.int .i64 k, .int .i64 m, .int .i64 u, .int .i64 gi, .int .i64 t, .string x, l2]] w fun e w' => e = .returned (.bool true) ∧ Below w.heap.size w w' := by
  obtain ⟨o1, c1, rfl, _, _⟩ := id hU
  obtain ⟨o2, c2, rfl, _, _⟩ := id hV
  have HU := Lib.hid hU
  have HV := Lib.hid hV
  clear hU hV
  have HB : Hid (Below w.heap.size w ((w.alloc (.cells #[.int .i64 k, .int .i64 m, .int .i64 u, .int .i64 gi, .int .i64 t, .string x, .slice o1 es.length c1] 70)).alloc (.cells #[.int .i64 k, .int .i64 m, .int .i64 u, .int .i64 gi, .int .i64 t, .string x, .slice o2 es.length c2] 70))) := Lib.hid (((Below.refl _ _).alloc (Nat.le_refl _) _).alloc (by simp) _)
  go_enter Try.func61, Try.ntmps61
  go_wp2_with fail
  refine (eqEntryS_same es _ _ _ (HU.out.below HB.out) (HV.out.below HB.out)).mono ?_
  rintro e w1 ⟨rfl, hb1⟩
  go_wp2
  go_ret
  exact ⟨rfl, HB.out.trans (hb1.mono HB.out.size)⟩

set_option maxHeartbeats 2000000 in
theorem eqNodeS_same (ns : List Nod) (u v : Value) (w : World) (hU : NodsA w u ns) (hV : NodsA w v ns) : Calls Try.prog 36 #[u, v] w fun e w' => e = .returned (.bool true) ∧ Below w.heap.size w w' := by
  obtain ⟨o1, c1, rfl, hm1, hH1⟩ := hU
  obtain ⟨o2, c2, rfl, hm2, hH2⟩ := hV
  have HH1 := Lib.hid hH1
  have HH2 := Lib.hid hH2
  clear hH1 hH2
  unfold maxLen at hm1 hm2
  go_enter Try.func36, Try.ntmps36
  go_wp2
  go_loopw [5] (fun i wr => ∃ k : Nat, k ≤ ns.length ∧ i = .int .i64 k ∧ Below w.heap.size w wr) (fun i _ => ns.length - (intOf i).toNat)
  case atStart => exact ⟨0, Nat.zero_le _, rfl, Below.refl _ _⟩
  case round =>
    obtain ⟨k, hk, rfl, hB⟩ := hrel
    by_cases hlt : k < ns.length
    · obtain ⟨g1, f1, l1, rfl, q1, n1, e1, _⟩ := HH1.out k hlt
      obtain ⟨g2, f2, l2, rfl, q2, n2, e2, _⟩ := HH2.out k hlt
      obtain ⟨a0, a1, a2, a3, a4, a5, a6⟩ := n1.below hB q1
      obtain ⟨b0, b1, b2, b3, b4, b5, b6⟩ := n2.below hB q2
      obtain ⟨q, hqq⟩ : ∃ q, q = ns[k] := ⟨_, rfl⟩
      rw [← hqq] at a0 a1 a2 a3 a4 a5 e1 b0 b1 b2 b3 b4 b5 e2
      obtain ⟨x, hx⟩ : ∃ x, x = bs q.data := ⟨_, rfl⟩
      rw [← hx] at a5 b5
      have he1 := e1.below hB
      have he2 := e2.below hB
      have HE1 := Lib.hid he1
      have HE2 := Lib.hid he2
      obtain ⟨p1, d1, rfl, _, _⟩ := id he1
      obtain ⟨p2, d2, rfl, _, _⟩ := id he2
      clear n1 n2 e1 e2 he1 he2 hqq hx
      go_wp2
      have y0 := fun d os => cell_regrown (w := wr) a0 d os
      have y1 := fun d os => cell_regrown (w := wr) a1 d os
      have y2 := fun d os => cell_regrown (w := wr) a2 d os
      have y3 := fun d os => cell_regrown (w := wr) a3 d os
      have y4 := fun d os => cell_regrown (w := wr) a4 d os
      have y5 := fun d os => cell_regrown (w := wr) a5 d os
      have y6 := fun d os => cell_regrown (w := wr) a6 d os
      have z0 := fun d os => cell_regrown (w := wr) b0 d os
      have z1 := fun d os => cell_regrown (w := wr) b1 d os
      have z2 := fun d os => cell_regrown (w := wr) b2 d os
      have z3 := fun d os => cell_regrown (w := wr) b3 d os
      have z4 := fun d os => cell_regrown (w := wr) b4 d os
      have z5 := fun d os => cell_regrown (w := wr) b5 d os
      have z6 := fun d os => cell_regrown (w := wr) b6 d os
      refine wp_region_quiet_below (by kernel_rfl) (by kernel_rfl) ?_
      repeat (first | go_big_quiet_step ((go_at_call 61; exact Calls.regrown_of (eqNode_same _ _ _ _ _ _ _ _ _ _ (HE1.out.below (below_regrown _ _ _)) (HE2.out.below (below_regrown _ _ _))))) | quiet_step ((go_at_call 61; exact Calls.regrown_of (eqNode_same _ _ _ _ _ _ _ _ _ _ (HE1.out.below (below_regrown _ _ _)) (HE2.out.below (below_regrown _ _ _))))))
      refine wpQuiet_nil ?_
      intro w5 hwq
      have hb5 : Below wr.heap.size wr w5 := by
        obtain ⟨pp, rfl⟩ := hwq
        exact below_regrown _ _ _
      clear hwq y0 y1 y2 y3 y4 y5 y6 z0 z1 z2 z3 z4 z5 z6
      go_wp2
      go_roundw
      case rel => exact ⟨k + 1, hlt, by go_num, hB.trans (hb5.mono hB.size)⟩
      case measure => simp [intOf]; omega
    · go_wp2
      go_ret
      exact ⟨rfl, hB⟩

set_option maxHeartbeats 1000000 in
theorem eqFs_same (f : FsD) (u v : Value) (w : World) (hU : FsA w u f) (hV : FsA w v f) : Calls Try.prog 12 #[u, v] w fun e w' => e = .returned (.bool true) ∧ Below w.heap.size w w' := by
  obtain ⟨n1, rfl, hU⟩ := hU
  obtain ⟨n2, rfl, hV⟩ := hV
  obtain ⟨o1, c1, rfl, _, _⟩ := id hU
  obtain ⟨o2, c2, rfl, _, _⟩ := id hV
  have HU := Lib.hid hU
  have HV := Lib.hid hV
  clear hU hV
  have HB : Hid (Below w.heap.size w ((w.alloc (.cells #[.slice o1 f.nodes.length c1, .int .i64 f.room] 31)).alloc (.cells #[.slice o2 f.nodes.length c2, .int .i64 f.room] 31))) := Lib.hid (((Below.refl _ _).alloc (Nat.le_refl _) _).alloc (by simp) _)
  have k1 : ∀ w1, Below ((w.alloc (.cells #[.slice o1 f.nodes.length c1, .int .i64 f.room] 31)).alloc (.cells #[.slice o2 f.nodes.length c2, .int .i64 f.room] 31)).heap.size ((w.alloc (.cells #[.slice o1 f.nodes.length c1, .int .i64 f.room] 31)).alloc (.cells #[.slice o2 f.nodes.length c2, .int .i64 f.room] 31)) w1 →
      w1.cell? ⟨w.heap.size, 1, none⟩ = some (.int .i64 f.room) ∧ w1.cell? ⟨w.heap.size + 1, 1, none⟩ = some (.int .i64 f.room) := by
    intro w1 hb
    have h1 := heap_alloc_new w (.cells #[.slice o1 f.nodes.length c1, .int .i64 f.room] 31)
    have h2 := heap_alloc_new (w.alloc (.cells #[.slice o1 f.nodes.length c1, .int .i64 f.room] 31)) (.cells #[.slice o2 f.nodes.length c2, .int .i64 f.room] 31)
    have h3 := Below.heap_alloc (w.alloc (.cells #[.slice o1 f.nodes.length c1, .int .i64 f.room] 31)) (.cells #[.slice o2 f.nodes.length c2, .int .i64 f.room] 31) w.heap.size (by simp)
    rw [World.size_alloc] at h2
    exact ⟨(cell_blk ((hb.block w.heap.size (by simp; omega)).trans (h3.trans h1)) 1).trans rfl, (cell_blk ((hb.block (w.heap.size + 1) (by simp)).trans h2) 1).trans rfl⟩
  have HK := Lib.hid k1
  clear k1
  go_enter Try.func12, Try.ntmps12
  go_wp2_with fail
  refine (eqNodeS_same f.nodes _ _ _ (HU.out.below HB.out) (HV.out.below HB.out)).mono ?_
  rintro e w1 ⟨rfl, hb1⟩
  obtain ⟨r1, r2⟩ := HK.out w1 hb1
  have HB1 := Lib.hid (HB.out.trans (hb1.mono HB.out.size))
  clear hb1
  go_wp2
  go_ret
  exact ⟨rfl, HB1.out⟩
end Go.Proofs.Ytknhacblialboaa


/-
  What a file system that came in gives: it reads as plain data, its numbers in their range.
  Conditions: as it states.
-/
namespace Go.Proofs.Ytknhacblialboaa
open Go.ChangeShapes Go.WideShapes Go.ChangeAt Go.RowKit Go.Joins
set_option linter.unusedVariables false
set_option maxRecDepth 100000

def wf64 (n : Int) : Prop := (Lit.int .i64 n).wf = true
def EntW (e : Ent) : Prop := wf64 e.node
def NodW (n : Nod) : Prop := wf64 n.kind ∧ wf64 n.mode ∧ wf64 n.uid ∧ wf64 n.gid ∧ wf64 n.time ∧ ∀ e ∈ n.list, EntW e
def FsW (f : FsD) : Prop := wf64 f.room ∧ ∀ n ∈ f.nodes, NodW n

theorem spot_of_cell {w : World} {a : Addr} {v : Value} (h : w.cell? a = some v) : a.spot = none := by
  unfold World.cell? at h
  split at h
  · split at h
    · cases h
    · rename_i hs; cases hq : a.spot with
      | none => rfl
      | some y => rw [hq] at hs; exact absurd rfl hs
  · cases h
theorem add_plain (g off i : Nat) : (⟨g, off, none⟩ : Addr).add i = ⟨g, off + i, none⟩ := by
  unfold Addr.add; split
  · rename_i h; subst h; rfl
  · rfl
/-- An address where cells lie, in plain words. -/
theorem addr_plain {w : World} {a : Addr} {v : Value} (h : w.cell? a = some v) : a = ⟨a.block, a.off, none⟩ := by
  have := spot_of_cell h
  cases a; simp_all

theorem dataLe {s : ByteArray} {n : Nat} (h : s.size ≤ n) : s.data.toList.length ≤ n := by rw [Array.length_toList]; exact h

section
variable {H : Type} {enc : TypeId × Value → H} {W : World}

theorem cellsEnt : Try.prog.cellsOf 131 = 2 := by kernel_rfl
theorem cellsNod : Try.prog.cellsOf 84 = 7 := by kernel_rfl

theorem open_ents {fuel : Nat} {cs : List Value} {x : DataW H × List MemPlace} (h : DataW.trod enc Try.prog W 0 (fun _ => true) true fuel 82 cs = some x) :
    ∃ v es, cs = [v] ∧ EntsA W v es ∧ ∀ e ∈ es, EntW e := by
  rcases Go.Deep.open_slice_pairs Try.underlying82 Try.underlying131 cellsEnt rfl rfl (by kernel_rfl) (by kernel_rfl) h with ⟨rfl, -⟩ | ⟨a, len, cap, m, n, V0, V1, D0, D1, P0, P1, rfl, -, hl, hm, hmm, -, hx⟩
  · exact ⟨_, [], rfl, ⟨none, 0, rfl, Nat.zero_le _, fun i hi => absurd hi (by simp)⟩, by simp⟩
  · simp only [if_true] at hmm
    subst hmm
    have each : ∀ i, i < len → ∃ e : Ent, a = ⟨a.block, a.off, none⟩ ∧ a.block < W.heap.size ∧ W.cell? ⟨a.block, a.off + i * 2, none⟩ = some (.string (bs e.name)) ∧ W.cell? ⟨a.block, a.off + i * 2 + 1, none⟩ = some (.int .i64 e.node) ∧ e.name.length ≤ maxLen ∧ EntW e := by
      intro i hi
      have hp := addr_plain (hx 0 (by omega)).1
      obtain ⟨h0, h1, t0, t1⟩ := hx i (by omega)
      obtain ⟨s, e0, -, hs⟩ := DataW.trod_string Try.underlying9 t0
      obtain ⟨k, e1, -, hk⟩ := DataW.trod_int Try.underlying3 t1
      simp only [List.cons.injEq, and_true] at e0 e1
      rw [e0] at h0
      rw [e1] at h1
      have hb := World.block_lt_of_cell? W _ h0
      rw [addBlock] at hb
      have hpz : a = ⟨a.block, a.off, none⟩ := by simpa [Addr.add] using hp
      rw [hpz, add_plain] at h0 h1
      exact ⟨⟨s.data.toList, k⟩, hpz, hb, by simpa [bs_of] using h0, h1, dataLe hs, hk⟩
    haveI : Inhabited Ent := ⟨⟨[], 0⟩⟩
    obtain ⟨E, hE⟩ := Go.Deep.choose_lt each
    refine ⟨_, (List.range len).map E, rfl, ⟨some a, m, by simp, by simp; omega, fun i hi => ?_⟩, ?_⟩
    · simp at hi
      obtain ⟨h1, h2, h3, h4, h5, h6⟩ := hE i hi
      exact ⟨a.block, a.off, by rw [← h1], h2, by simpa using h3, by simpa using h4, by simpa using h5⟩
    · intro e he
      simp at he
      obtain ⟨i, hi, rfl⟩ := he
      exact (hE i hi).2.2.2.2.2

theorem open_nods {fuel : Nat} {cs : List Value} {x : DataW H × List MemPlace} (h : DataW.trod enc Try.prog W 0 (fun _ => true) true fuel 22 cs = some x) :
    ∃ v ns, cs = [v] ∧ NodsA W v ns ∧ ∀ n ∈ ns, NodW n := by
  rcases Go.Deep.open_slice Try.underlying22 h with ⟨rfl, -⟩ | ⟨a, len, cap, m, n, D, Pl, rfl, -, hl, hm, hmm, -, hx⟩
  · exact ⟨_, [], rfl, ⟨none, 0, rfl, Nat.zero_le _, fun i hi => absurd hi (by simp)⟩, by simp⟩
  · simp only [if_true] at hmm
    subst hmm
    have each : ∀ i, i < len → ∃ q : Nod, a = ⟨a.block, a.off, none⟩ ∧ a.block < W.heap.size ∧ (∃ lv, NodC W a.block (a.off + i * 7) lv q ∧ EntsA W lv q.list) ∧ q.data.length ≤ maxLen ∧ NodW q := by
      intro i hi
      have hp : a = ⟨a.block, a.off, none⟩ := by
        obtain ⟨c, h1, -⟩ := hx 0 (by omega)
        rw [cellsNod] at h1
        obtain ⟨_, hlen, hcell⟩ := World.cells?_some h1
        have h2 := hcell 0 (by omega)
        have h3 : ∃ v, c[0]? = some v := ⟨c[0], List.getElem?_eq_getElem (by omega)⟩
        obtain ⟨v, h3⟩ := h3
        rw [h3] at h2
        simpa [Addr.add] using addr_plain h2
      obtain ⟨c, h1, h2⟩ := hx i (by omega)
      rw [cellsNod] at h1
      obtain ⟨_, hlen, hcell⟩ := World.cells?_some h1
      obtain ⟨xs, k, -, -, -, hxl, hf⟩ := DataW.trod_struct Try.underlying84 h2
      match xs, hxl, c, hlen with
      | [y0, y1, y2, y3, y4, y5, y6], _, [v0, v1, v2, v3, v4, v5, v6], _ =>
        have g0 := hf 0 _ rfl
        have g1 := hf 1 _ rfl
        have g2 := hf 2 _ rfl
        have g3 := hf 3 _ rfl
        have g4 := hf 4 _ rfl
        have g5 := hf 5 _ rfl
        have g6 := hf 6 _ rfl
        have ci : Try.prog.cellsOf 3 = 1 := by kernel_rfl
        have cS : Try.prog.cellsOf 9 = 1 := by kernel_rfl
        have cL : Try.prog.cellsOf 82 = 1 := by kernel_rfl
        simp [ci, cS, cL] at g0 g1 g2 g3 g4 g5 g6
        obtain ⟨n0, e0, -, w0⟩ := DataW.trod_int Try.underlying3 g0
        obtain ⟨n1, e1, -, w1⟩ := DataW.trod_int Try.underlying3 g1
        obtain ⟨n2, e2, -, w2⟩ := DataW.trod_int Try.underlying3 g2
        obtain ⟨n3, e3, -, w3⟩ := DataW.trod_int Try.underlying3 g3
        obtain ⟨n4, e4, -, w4⟩ := DataW.trod_int Try.underlying3 g4
        obtain ⟨s, e5, -, hs⟩ := DataW.trod_string Try.underlying9 g5
        obtain ⟨lv, es, e6, hE, hW⟩ := open_ents g6
        simp only [List.cons.injEq, and_true] at e0 e1 e2 e3 e4 e5 e6
        subst e0 e1 e2 e3 e4 e5 e6
        rw [hp] at hcell
        simp only [add_plain] at hcell
        have c0 := hcell 0 (by omega)
        have hb := World.block_lt_of_cell? W _ c0
        exact ⟨⟨n0, n1, n2, n3, n4, s.data.toList, es⟩, hp, hb, ⟨v6, ⟨c0, hcell 1 (by omega), hcell 2 (by omega), hcell 3 (by omega), hcell 4 (by omega), by rw [bs_of]; exact hcell 5 (by omega), hcell 6 (by omega)⟩, hE⟩, dataLe hs, w0, w1, w2, w3, w4, hW⟩
    haveI : Inhabited Nod := ⟨⟨0, 0, 0, 0, 0, [], []⟩⟩
    obtain ⟨E, hE⟩ := Go.Deep.choose_lt each
    refine ⟨_, (List.range len).map E, rfl, ⟨some a, m, by simp, by simp; omega, fun i hi => ?_⟩, ?_⟩
    · simp at hi
      obtain ⟨h1, h2, ⟨lv, h3, h4⟩, h5, h6⟩ := hE i hi
      exact ⟨a.block, a.off, lv, by rw [← h1], h2, by simpa using h3, by simpa using h4, by simpa using h5⟩
    · intro e he
      simp at he
      obtain ⟨i, hi, rfl⟩ := he
      exact (hE i hi).2.2.2.2

theorem open_fsA {base : Nat} {v : Value} {d : DataW H} {p : List MemPlace} (hval : Value.okWide Try.prog W .any base 24 v) (h : DataW.Trod enc Try.prog W 0 (fun _ => true) true 24 v d p) :
    ∃ f, FsA W v f ∧ FsW f := by
  obtain ⟨v0, v1, y0, y1, m, rfl, -, -, h0, h1⟩ := open_agg2 Try.underlying24 (by kernel_rfl) (by kernel_rfl) hval h
  obtain ⟨nv, ns, e0, hN, hW⟩ := open_nods h0
  obtain ⟨r, e1, -, hr⟩ := DataW.trod_int Try.underlying3 h1
  simp only [List.cons.injEq, and_true] at e0 e1
  subst e0 e1
  exact ⟨⟨ns, r⟩, ⟨_, rfl, hN⟩, hr, hW⟩
end
end Go.Proofs.Ytknhacblialboaa


/-
  The model's plain counts over a file system: l3Bytes, l3Links, l3Parent, l3Free.
  Conditions: at most 2^20 values and letters together.
-/
namespace Go.Proofs.Ytknhacblialboaa
open Go.ChangeShapes Go.WideShapes Go.ChangeAt Go.RowKit Go.Joins
set_option linter.unusedVariables false

def sumD (ns : List Nod) : Nat := (ns.map fun n => n.data.length).sum
theorem sumD_take {ns : List Nod} {k : Nat} (h : k < ns.length) : sumD (ns.take (k + 1)) = sumD (ns.take k) + ns[k].data.length := by
  unfold sumD; rw [List.take_succ_eq_append_getElem h]; simp only [List.map_append, List.sum_append, List.map_cons, List.map_nil, List.sum_cons, List.sum_nil, Nat.add_zero]
theorem sumD_pre (ns : List Nod) (k : Nat) : sumD (ns.take k) ≤ sumD ns := by
  conv => rhs; rw [← List.take_append_drop k ns]
  unfold sumD; rw [List.map_append, List.sum_append]; omega
theorem sumD_le (ns : List Nod) : sumD ns ≤ szNs ns := by
  unfold sumD szNs szN
  induction ns with
  | nil => simp
  | cons a r ih => simp only [List.map_cons, List.sum_cons]; omega

set_option maxHeartbeats 2000000 in
theorem l3Bytes_any (f : FsD) (v : Value) (w : World) (hR : FsA w v f) (hs : szF f ≤ 1048576) : Calls Try.prog 42 #[v] w fun e w' => e = .returned (.int .i64 (sumD f.nodes : Nat)) ∧ Below w.heap.size w w' := by
  obtain ⟨nv, rfl, hN⟩ := hR
  obtain ⟨o, c, rfl, hm, hH⟩ := hN
  have HH := Lib.hid hH
  clear hH
  unfold maxLen at hm
  have hT : sumD f.nodes ≤ 1048576 := by have := sumD_le f.nodes; unfold szF at hs; omega
  have hl : f.nodes.length ≤ 1048576 := by unfold szF at hs; omega
  clear hs
  go_enter Try.func42, Try.ntmps42
  go_wp2
  have hbw : Below w.heap.size w (w.alloc (.cells #[.slice o f.nodes.length c, .int .i64 f.room] 31)) := (Below.refl _ _).alloc (Nat.le_refl _) _
  go_loopw [3, 9] (fun t i wr => ∃ k : Nat, k ≤ f.nodes.length ∧ i = .int .i64 k ∧ t = .int .i64 (sumD (f.nodes.take k) : Nat) ∧ Below w.heap.size w wr) (fun _ i _ => f.nodes.length - (intOf i).toNat)
  case atStart => exact ⟨0, Nat.zero_le _, rfl, rfl, hbw⟩
  case round =>
    obtain ⟨k, hk, rfl, rfl, hB⟩ := hrel
    by_cases hlt : k < f.nodes.length
    · obtain ⟨g, off, lv, rfl, hg, hc, he, hml⟩ := HH.out k hlt
      have HS := Lib.hid (sumD_take hlt)
      have hle := sumD_pre f.nodes (k + 1)
      obtain ⟨d0, d1, d2, d3, d4, d5, d6⟩ := hc.below hB hg
      obtain ⟨q, hqq⟩ : ∃ q, q = f.nodes[k] := ⟨_, rfl⟩
      rw [← hqq] at d0 d1 d2 d3 d4 d5 he hml HS
      obtain ⟨o2, c2, rfl, _, _⟩ := id he
      have HZ : Hid ((bs q.data).size = q.data.length) := Lib.hid (bs_size _)
      have hT2 : sumD (f.nodes.take k) + q.data.length ≤ 1048576 := by rw [HS.out] at hle; omega
      have hx : (bs q.data).size + sumD (f.nodes.take k) ≤ 1048576 := by rw [HZ.out]; omega
      obtain ⟨x, hxx⟩ : ∃ x, x = bs q.data := ⟨_, rfl⟩
      rw [← hxx] at d5 hx HZ
      have HX := Lib.hid hxx
      clear hc he hml hqq hxx hle
      go_wp2
      go_roundw
      case rel =>
        refine ⟨k + 1, hlt, by go_num, by rw [HS.out, ← HZ.out]; go_num, ?_⟩
        exact hB.alloc hB.size _
      case measure => simp [intOf]; omega
    · have HT : Hid (f.nodes.take k = f.nodes) := Lib.hid (List.take_of_length_le (by omega))
      go_wp2
      go_ret
      exact ⟨ret_int (by rw [HT.out]), hB⟩

def tot {α : Type} (g : α → Nat) (l : List α) : Nat := (l.map g).sum
theorem tot_take {α : Type} (g : α → Nat) {l : List α} {k : Nat} (h : k < l.length) : tot g (l.take (k + 1)) = tot g (l.take k) + g l[k] := by
  unfold tot; rw [List.take_succ_eq_append_getElem h]; simp only [List.map_append, List.sum_append, List.map_cons, List.map_nil, List.sum_cons, List.sum_nil, Nat.add_zero]
theorem tot_pre {α : Type} (g : α → Nat) (l : List α) (k : Nat) : tot g (l.take k) ≤ tot g l := by
  conv => rhs; rw [← List.take_append_drop k l]
  unfold tot; rw [List.map_append, List.sum_append]; omega
theorem tot_le {α : Type} {g g' : α → Nat} (h : ∀ a, g a ≤ g' a) (l : List α) : tot g l ≤ tot g' l := by
  unfold tot
  induction l with
  | nil => simp
  | cons a r ih => simp only [List.map_cons, List.sum_cons]; have := h a; omega

def one (node : Int) (e : Ent) : Nat := if e.node = node then 1 else 0
def linksE (node : Int) (es : List Ent) : Nat := tot (one node) es
def links (node : Int) (ns : List Nod) : Nat := tot (fun n => linksE node n.list) ns
theorem linksE_le (node : Int) (es : List Ent) : linksE node es ≤ es.length := by
  unfold linksE tot
  induction es with
  | nil => simp
  | cons a r ih => 
    have : one node a ≤ 1 := by unfold one; split <;> omega
    simp only [List.map_cons, List.sum_cons, List.length_cons]; omega
theorem links_le (node : Int) (ns : List Nod) : links node ns ≤ szNs ns := by
  unfold links szNs
  exact tot_le (g' := szN) (fun n => by have := linksE_le node n.list; unfold szN; omega) ns

set_option maxHeartbeats 4000000 in
theorem l3Links_any (f : FsD) (node : Int) (v : Value) (w : World) (hR : FsA w v f) (hs : szF f ≤ 1048576) : Calls Try.prog 77 #[v, .int .i64 node] w fun e w' => e = .returned (.int .i64 (links node f.nodes : Nat)) ∧ Below w.heap.size w w' := by
  obtain ⟨nv, rfl, hN⟩ := hR
  obtain ⟨o, c, rfl, hm, hH⟩ := hN
  have HH := Lib.hid hH
  clear hH
  unfold maxLen at hm
  have hT : links node f.nodes ≤ 1048576 := by have := links_le node f.nodes; unfold szF at hs; omega
  have hl : f.nodes.length ≤ 1048576 := by unfold szF at hs; omega
  have hL : ∀ n ∈ f.nodes, n.list.length ≤ 1048576 := fun n hn => ((lists_small hs).2 n hn).1
  have HL := Lib.hid hL
  clear hs hL
  go_enter Try.func77, Try.ntmps77
  go_wp2
  have hbw : Below w.heap.size w (w.alloc (.cells #[.slice o f.nodes.length c, .int .i64 f.room] 31)) := (Below.refl _ _).alloc (Nat.le_refl _) _
  go_loopw [5, 13] (fun t i wr => ∃ k : Nat, k ≤ f.nodes.length ∧ i = .int .i64 k ∧ t = .int .i64 (links node (f.nodes.take k) : Nat) ∧ Below w.heap.size w wr) (fun _ i _ => f.nodes.length - (intOf i).toNat)
  case atStart => exact ⟨0, Nat.zero_le _, rfl, rfl, hbw⟩
  case round =>
    obtain ⟨k, hk, rfl, rfl, hB⟩ := hrel
    by_cases hlt : k < f.nodes.length
    · obtain ⟨g, off, lv, rfl, hg, hc, he, hml⟩ := HH.out k hlt
      have HS : Hid (links node (f.nodes.take (k + 1)) = links node (f.nodes.take k) + linksE node f.nodes[k].list) := Lib.hid (tot_take _ hlt)
      have hle : links node (f.nodes.take (k + 1)) ≤ links node f.nodes := tot_pre _ f.nodes (k + 1)
      obtain ⟨d0, d1, d2, d3, d4, d5, d6⟩ := hc.below hB hg
      have hq2 := HL.out f.nodes[k] (List.getElem_mem hlt)
      obtain ⟨q, hqq⟩ : ∃ q, q = f.nodes[k] := ⟨_, rfl⟩
      rw [← hqq] at d0 d1 d2 d3 d4 d5 he hml HS hq2
      obtain ⟨o2, c2, rfl, -, hE⟩ := id he
      have HE := Lib.hid hE
      have hT2 : links node (f.nodes.take k) + linksE node q.list ≤ 1048576 := by rw [HS.out] at hle; omega
      obtain ⟨x, hxx⟩ : ∃ x, x = bs q.data := ⟨_, rfl⟩
      rw [← hxx] at d5
      clear hc he hml hqq hxx hle hE
      go_wp2
      go_loopw [5, 20] (fun t i wi => ∃ j : Nat, j ≤ q.list.length ∧ i = .int .i64 j ∧ t = .int .i64 ((links node (f.nodes.take k) + linksE node (q.list.take j) : Nat) : Int) ∧ Below w.heap.size w wi) (fun _ i _ => q.list.length - (intOf i).toNat)
      case atStart =>
        exact ⟨0, Nat.zero_le _, rfl, rfl, hB.alloc hB.size _⟩
      case round =>
        obtain ⟨j, hj, rfl, rfl, hB2⟩ := hrel
        by_cases hlt2 : j < q.list.length
        · obtain ⟨g2, f2, rfl, q2, x2, y2, _⟩ := HE.out j hlt2
          have HS2 : Hid (linksE node (q.list.take (j + 1)) = linksE node (q.list.take j) + one node q.list[j]) := Lib.hid (tot_take _ hlt2)
          have hle2 : linksE node (q.list.take (j + 1)) ≤ linksE node q.list := tot_pre _ q.list (j + 1)
          have a1 := (hB2.cell (p := ⟨g2, f2 + j * 2, none⟩) q2).trans x2
          have a2 := (hB2.cell (p := ⟨g2, f2 + j * 2 + 1, none⟩) q2).trans y2
          obtain ⟨z, hzz⟩ : ∃ z, z = q.list[j] := ⟨_, rfl⟩
          rw [← hzz] at a1 a2 HS2
          obtain ⟨y, hyy⟩ : ∃ y, y = bs z.name := ⟨_, rfl⟩
          rw [← hyy] at a1
          obtain ⟨r, hr⟩ : ∃ r, r = z.node := ⟨_, rfl⟩
          rw [← hr] at a2
          have HZ : Hid (one node z = if r = node then 1 else 0) := Lib.hid (by rw [hr]; rfl)
          clear x2 y2 hzz hyy hr
          by_cases hrn : r = node
          · have HO : Hid (one node z = 1) := Lib.hid (by rw [HZ.out, if_pos hrn])
            have hx3 : links node (f.nodes.take k) + linksE node (q.list.take j) + 1 ≤ 1048576 := by rw [HS2.out, HO.out] at hle2; omega
            clear HZ hle2
            go_wp2
            go_roundw
            case rel =>
              exact ⟨j + 1, hlt2, by go_num, by rw [HS2.out, HO.out]; go_num, hB2.alloc hB2.size _⟩
            case measure => simp [intOf]; omega
          · have HO : Hid (one node z = 0) := Lib.hid (by rw [HZ.out, if_neg hrn])
            clear HZ hle2
            go_wp2
            go_roundw
            case rel =>
              exact ⟨j + 1, hlt2, by go_num, by rw [HS2.out, HO.out]; go_num, hB2.alloc hB2.size _⟩
            case measure => simp [intOf]; omega
        · have HT : Hid (q.list.take j = q.list) := Lib.hid (List.take_of_length_le (by omega))
          go_wp2
          go_roundw
          case rel => exact ⟨k + 1, hlt, by go_num, by rw [HS.out, HT.out], hB2⟩
          case measure => simp [intOf]; omega
    · have HT : Hid (f.nodes.take k = f.nodes) := Lib.hid (List.take_of_length_le (by omega))
      go_wp2
      go_ret
      exact ⟨ret_int (by rw [HT.out]), hB⟩

theorem lt_of_heap {w : World} {b : Nat} {o : Obj} (h : w.heap[b]? = some o) : b < w.heap.size := (Array.getElem?_eq_some_iff.1 h).1
def freeAt (ns : List Nod) : Int := match ns.findIdx? (fun n => n.kind == 0) with
  | some k => k
  | none => if ns.length = 40 then -1 else ns.length
theorem findIdx_is {α : Type} {p : α → Bool} {l : List α} {k : Nat} (h : k < l.length) (hp : p l[k] = true) (hn : ∀ j (hj : j < l.length), j < k → p l[j] = false) : l.findIdx? p = some k :=
  List.findIdx?_eq_some_iff_getElem.2 ⟨h, hp, fun j hj => by rw [hn j (by omega) hj]; simp⟩
theorem findIdx_not {α : Type} {p : α → Bool} {l : List α} (hn : ∀ j (hj : j < l.length), p l[j] = false) : l.findIdx? p = none := by
  rw [List.findIdx?_eq_none_iff]
  intro x hx
  obtain ⟨j, hj, rfl⟩ := List.getElem_of_mem hx
  exact hn j hj

def hasE (node : Int) (es : List Ent) : Bool := es.any fun e => e.node == node
def parentOf (node : Int) (ns : List Nod) : Nat := match ns.findIdx? (fun n => hasE node n.list) with
  | some k => k
  | none => 0

end Go.Proofs.Ytknhacblialboaa


/-
  The contract of the model's range test l1In.
  Conditions: none.
-/
namespace Go.Proofs.Ytknhacblialboaa
open Go.ChangeShapes Go.WideShapes Go.ChangeAt Go.RowKit Go.Joins
set_option linter.unusedVariables false

set_option maxHeartbeats 400000 in
theorem l1In_any (n lo hi : Int) (w : World) : Calls Try.prog 75 #[.int .i64 n, .int .i64 lo, .int .i64 hi] w fun e w' => e = .returned (.bool (inB lo hi n)) ∧ w = w' := by
  by_cases h0 : lo ≤ n
  · by_cases h1 : n ≤ hi
    · go_enter Try.func75, Try.ntmps75
      go_wp2
      go_ret
      exact ⟨ret_bool (inB_mk h0 h1), rfl⟩
    · go_enter Try.func75, Try.ntmps75
      go_wp2
      go_ret
      exact ⟨ret_bool (inB_no (by omega)), rfl⟩
  · go_enter Try.func75, Try.ntmps75
    go_wp2
    go_ret
    exact ⟨ret_bool (inB_no (by omega)), rfl⟩
end Go.Proofs.Ytknhacblialboaa


/-
  Contracts of the tests of a name on both sides: impl.isNameSign, impl.isPart, impl.GoodName, spec.l1In, spec.l2Name, spec.GoodName.
  Conditions: a rune is a number of 32 bits; a text's length is a length.
-/
namespace Go.Proofs.Ytknhacblialboaa
open Go.ChangeShapes Go.WideShapes Go.ChangeAt Go.RowKit Go.Joins
set_option linter.unusedVariables false

theorem sign_yes {n : Nat} (h : 97 ≤ n ∧ n ≤ 122 ∨ 48 ≤ n ∧ n ≤ 57 ∨ n = 46 ∨ n = 95 ∨ n = 45) : true = signN n := by simp [signN, h]

set_option maxHeartbeats 1000000 in
theorem sign_any (n : Nat) (w : World) (h : n ≤ 2147483647) : Calls Try.prog 168 #[.int .i32 (n : Int)] w fun e w' => e = .returned (.bool (signN n)) ∧ w = w' := by
  go_enter Try.func168, Try.ntmps168
  go_wp2
  all_goals
    go_ret
    exact ⟨ret_bool (by rw [Bool.eq_iff_iff]; simp [signN]; omega), rfl⟩

theorem below_iter (w : World) (s : ByteArray) (p : Nat) : Below w.heap.size w (w.iter s p) := (Below.refl _ _).alloc (Nat.le_refl _) _

theorem part_no {l : List UInt8} (h : ¬ (1 ≤ l.length ∧ l.length ≤ 8)) : false = partB l := by simp [partB, h]
theorem part_in {l : List UInt8} (h : 1 ≤ l.length ∧ l.length ≤ 8) : partB l = signsB l := by simp [partB, h]
theorem signs_bad {s : ByteArray} {k : Nat} (h : k < s.size) (hb : signN (s[k]'h).toNat = false) : signsB s.data.toList = false := by
  unfold signsB
  rw [List.all_eq_false]
  exact ⟨s[k]'h, List.getElem_mem (by simpa using h), by simp [hb]⟩

set_option maxHeartbeats 1000000 in
theorem isPart_any (s : ByteArray) (w : World) : Calls Try.prog 167 #[.string s] w fun e w' => e = .returned (.bool (partB s.data.toList)) ∧ Below w.heap.size w w' := by
  have hl : s.data.toList.length = s.size := len_size s
  by_cases h1 : 1 ≤ s.size
  · by_cases h8 : s.size ≤ 8
    · have e0 : ¬ ((s.size : Int) < 1) := by omega
      have e8 : ¬ (8 < (s.size : Int)) := by omega
      have HP := Lib.hid (part_in (l := s.data.toList) (by omega))
      have HL := Lib.hid hl
      clear hl
      go_enter Try.func167, Try.ntmps167
      go_wp2
      go_loopw [] (fun wr => ∃ k : Nat, wr = w.iter s k ∧ k ≤ s.size ∧ signsB (s.data.toList.take k) = true) (fun wr => s.size - wr.iterPos w.heap.size)
      case atStart => exact ⟨0, rfl, Nat.zero_le _, rfl⟩
      case round =>
        obtain ⟨k, rfl, hk, hs⟩ := hrel
        have HS := Lib.hid hs
        clear hs
        by_cases hlt : k < s.size
        · by_cases hg : signN (s[k]'hlt).toNat = true
          · have HG := Lib.hid hg
            have hnx := fun ty => run_next_ascii (P := Try.prog) w s k ty hlt (signN_lt hg)
            clear hg
            go_wp2_with (go_at_call 168; refine (sign_any _ _ (by have := (s[k]'hlt).toNat_lt; omega)).mono ?_; rintro e w' ⟨rfl, rfl⟩; rw [HG.out])
            go_roundw
            case rel => exact ⟨k + 1, rfl, hlt, by rw [take_snoc' s k hlt, signsB_snoc, HS.out, HG.out]; rfl⟩
            case measure => simp; omega
          · have hr : signN (Utf8.decode s k).1 = false := by
              by_cases ha : (s[k]'hlt).toNat < 128
              · rw [decode_ascii s k hlt ha]; simpa using hg
              · exact signN_hi (decode_high s k hlt (by omega)).1
            have HR := Lib.hid hr
            have HB := Lib.hid (signs_bad hlt (by simpa using hg))
            have hnx := fun ty => run_next_any (P := Try.prog) w s k ty hlt
            have hdl := decode_le s k
            clear hg hr
            go_wp2_with (go_at_call 168; refine (sign_any _ _ hdl).mono ?_; rintro e w' ⟨rfl, rfl⟩; rw [HR.out])
            go_ret
            exact ⟨ret_bool (by rw [HP.out, HB.out]), below_iter _ _ _⟩
        · have hnx := fun ty => run_next_end (P := Try.prog) w s k ty hlt
          go_wp2
          go_ret
          refine ⟨ret_bool ?_, below_iter _ _ _⟩
          rw [HP.out, ← HS.out, List.take_of_length_le (by rw [HL.out]; omega)]
    · have e0 : ¬ ((s.size : Int) < 1) := by omega
      have HP := Lib.hid (part_no (l := s.data.toList) (by omega))
      clear hl
      go_enter Try.func167, Try.ntmps167
      go_wp2
      go_ret
      exact ⟨ret_bool HP.out, Below.refl _ _⟩
  · have HP := Lib.hid (part_no (l := s.data.toList) (by omega))
    clear hl
    go_enter Try.func167, Try.ntmps167
    go_wp2
    go_ret
    exact ⟨ret_bool HP.out, Below.refl _ _⟩
end Go.Proofs.Ytknhacblialboaa


/-
  Contracts of impl.GoodName, spec.l2Name, spec.GoodName.
  Conditions: a text's length is a length.
-/
namespace Go.Proofs.Ytknhacblialboaa
open Go.ChangeShapes Go.WideShapes Go.ChangeAt Go.RowKit Go.Joins
set_option linter.unusedVariables false

set_option maxHeartbeats 1000000 in
theorem goodName_any (s : ByteArray) (w : World) : Calls Try.prog 166 #[.string s] w fun e w' => e = .returned (.bool (nameB s.data.toList)) ∧ Below w.heap.size w w' := by
  go_enter Try.func166, Try.ntmps166
  go_wp2_with fail
  refine (isPart_any _ _).mono ?_
  rintro e w' ⟨rfl, hb⟩
  go_wp2
  all_goals
    go_ret
    refine ⟨ret_bool ?_, hb⟩
    try simp only [ByteArray.toList_eq] at *
    simp [nameB, *]

theorem name_no {l : List UInt8} (h : signsB l = false) : false = nameB l := by simp [nameB, partB, h]
theorem name_in {l : List UInt8} (h : signsB l = true) : nameB l = (inB 1 8 l.length && (!(l == [46]) && !(l == [46, 46]))) := by
  have : decide (1 ≤ l.length ∧ l.length ≤ 8) = inB 1 8 l.length := by
    rw [Bool.eq_iff_iff]; simp [inB]; omega
  simp only [nameB, partB, h, this, Bool.and_true]

set_option maxHeartbeats 1000000 in
theorem l2Name_any (s : ByteArray) (w : World) (hs : s.size ≤ maxLen) : Calls Try.prog 125 #[.string s] w fun e w' => e = .returned (.bool (nameB s.data.toList)) ∧ w = w' := by
  unfold maxLen at hs
  go_enter Try.func125, Try.ntmps125
  go_wp2
  go_loop [3] (fun i => ∃ k : Nat, k ≤ s.size ∧ i = .int .i64 k ∧ signsB (s.data.toList.take k) = true) (fun i => s.size - (intOf i).toNat)
  case atStart => exact ⟨0, Nat.zero_le _, rfl, rfl⟩
  case round =>
    obtain ⟨k, hk, rfl, hg⟩ := hrel
    have HG := Lib.hid hg
    clear hg
    by_cases hlt : k < s.size
    · go_wp2
      all_goals first
        | (go_round
           case rel => exact ⟨k + 1, hlt, by go_num, by rw [take_snoc' s k hlt, signsB_snoc, HG.out]; simp at *; simp [signN]; omega⟩
           case measure => simp [intOf]; omega)
        | (go_ret
           refine ⟨ret_bool (name_no (signs_bad hlt ?_)), rfl⟩
           simp at *; simp [signN]; omega)
    · have HN := Lib.hid (name_in (l := s.data.toList) (by rw [← HG.out, List.take_of_length_le (by rw [len_size]; omega)]))
      go_wp2_with (go_at_call 75; refine (l1In_any _ _ _ _).mono ?_; rintro e w' ⟨rfl, rfl⟩)
      all_goals
        go_ret
        refine ⟨ret_bool ?_, rfl⟩
        rw [HN.out]
        simp only [ByteArray.toList_eq, len_size] at *
        simp [*]

end Go.Proofs.Ytknhacblialboaa
