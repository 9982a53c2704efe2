/-
  Joined: Base PathM FsM RowC FsN FsO FsQ FsR AppS.
  Conditions: as each states.
-/
import Derived.WalkKit
import Derived.ProofKit
import Derived.OpenShut
import Derived.Handy
import Derived.OpenVars
import Derived.Lib.SmallJoins
import Derived.Lib.Hide
import Derived.Laws.RangeAny
import Derived.Lib.Join
import Derived.Laws.OwnMore
import Derived.OwnWalk
import Derived.BigQuiet
import Derived.Deep.QuietTactic
import Derived.Lib.QuietBelow
import Derived.Maps.AppendAt
import Derived.Laws.Rows
import Derived.RegionTactic
import Derived.Deep.RegionLaw
import Derived.Test.YtknhacblialboaaGreatDoorRows
namespace Go.Proofs.YtknhacblialboaaGreatDoor
open Go.ChangeShapes Go.WideShapes Go.ChangeAt Go.RowKit Go.Joins
set_option linter.unusedVariables false
set_option linter.unusedSimpArgs false
set_option maxHeartbeats 16000000
theorem qhZ {p : Prop} (h : p) : Hid p := Lib.hid h
theorem args_stay {H : Type} {enc : TypeId × Value → H} {P : Program} (hl : laidOutB P = true) {W W' : World} (hb : Below W.heap.size W W') :
   ∀ {ts : List TypeId} {vs : List Value} {ds : List (DataW H)} {ps : List MemPlace}, (ts.all fun t => P.readableRec t && decide (t < P.types.size)) = true →
     DataW.TrodAll enc P W 0 (fun _ => true) true ts vs ds ps → (∀ x ∈ ps, x.block < W.heap.size) → DataW.TrodAll enc P W' 0 (fun b => decide (b < W.heap.size)) true ts vs ds ps
 | [], [], [], _, _, h, _ => h
 | t :: ts, v :: vs, d :: ds, ps, ht, h, hlt => by
   obtain ⟨p, q, h1, h2, rfl⟩ := h
   simp only [List.all_cons, Bool.and_eq_true] at ht
   refine ⟨p, q, Below.trod hl ht.1.1 (of_decide_eq_true ht.1.2) h1 hb (fun x hx => hlt x (by simp [hx])), args_stay hl hb (by simpa using ht.2) h2 (fun x hx => hlt x (by simp [hx])), rfl⟩
 | [], _ :: _, _, _, _, h, _ => by simp [DataW.TrodAll] at h
 | [], [], _ :: _, _, _, h, _ => by simp [DataW.TrodAll] at h
 | _ :: _, [], _, _, _, h, _ => by simp [DataW.TrodAll] at h
 | _ :: _, _ :: _, [], _, _, h, _ => by simp [DataW.TrodAll] at h
theorem law_post {H : Type} {enc : TypeId × Value → H} {P : Program} {f : Func} {s : ChangeSpec} {W W' : World} {args : Array Value} {ds gs : List (DataW H)} {before : List MemPlace} {tb : TypeId}
   (hl : laidOutB P = true) (hr : (f.params.toList.all fun t => P.readableRec t && decide (t < P.types.size)) = true) (hv : varsRowed P s.vars = true) (hrt : f.resultTypes = #[tb]) (hu : P.underlying tb = some .bool)
   (hW : DataW.Whole enc P f.params.toList s.vars false W args.toList ds gs before)
   (hfn : s.fn H (ds ++ gs) = { results := [.lit (.bool true)], args := ds, vars := gs }) (hb : Below W.heap.size W W') :
   s.post enc P f false true false false W args (.bool true) W' := by
 have hlt : ∀ x ∈ before, x.block < W.heap.size := fun x hx => hW.lt x hx
 obtain ⟨p, q, hA, hV, rfl, hz, hn⟩ := id hW
 refine ⟨ds, gs, p ++ q, [], p, q, hW, ?_, ?_, ?_, hb.frame _, fun h => by cases h⟩
 · rw [hfn, hrt]
   exact trodAll_cons_mk (shut_bool hu _) trodAll_mk0
 · rw [hfn]
   exact args_stay hl hb hr hA (fun x hx => hlt x (by simp [hx]))
 · rw [hfn]
   exact Below.trodVars hl hb hv hV
theorem aK9 {a b : Bool} (h : a = b) : Ending.returned (.bool a) = .returned (.bool b) := by rw [h]
theorem ret_int {k : IntKind} {a b : Int} (h : a = b) : Ending.returned (.int k a) = .returned (.int k b) := by rw [h]
theorem ret_str {a b : ByteArray} (h : a = b) : Ending.returned (.string a) = .returned (.string b) := by rw [h]
theorem old_cells {B : Nat} {W w1 : World} (hb : Below B W w1) : (∀ b o, b < B → w1.cell? ⟨b, o, none⟩ = W.cell? ⟨b, o, none⟩) ∧ (∀ b o, b < B → w1.frozen? ⟨b, o, none⟩ = W.frozen? ⟨b, o, none⟩) :=
 ⟨fun b o h => hb.cell (p := ⟨b, o, none⟩) h, fun b o h => hb.frozen (p := ⟨b, o, none⟩) h⟩
def inB (lo hi n : Int) : Bool := decide (lo ≤ n) && decide (n ≤ hi)
theorem inB_t {lo hi n : Int} (h : inB lo hi n = true) : lo ≤ n ∧ n ≤ hi := by simpa [inB] using h
theorem inB_mk {lo hi n : Int} (h0 : lo ≤ n) (h1 : n ≤ hi) : true = inB lo hi n := by simp [inB, h0, h1]
theorem inB_no {lo hi n : Int} (h : n < lo ∨ hi < n) : false = inB lo hi n := by
 rcases h with h | h
 · simp [inB]; omega
 · simp [inB]; omega
theorem and7_fin : ∀ n : Fin 512, bits BinOp.and IntKind.i64 (n.val : Int) 7 = ((n.val % 8 : Nat) : Int) := by decide +kernel
theorem and7 (m : Int) (h0 : 0 ≤ m) (h1 : m ≤ 511) : bits BinOp.and IntKind.i64 m 7 = m % 8 := by
 have h := and7_fin ⟨m.toNat, by omega⟩
 simp only [] at h
 rw [show ((m.toNat : Nat) : Int) = m by omega] at h
 rw [h]; omega
end Go.Proofs.YtknhacblialboaaGreatDoor
namespace Go.Proofs.YtknhacblialboaaGreatDoor
open Go
set_option linter.unusedVariables false
set_option linter.unusedSimpArgs false
set_option maxHeartbeats 16000000
def bs (l : List UInt8) : ByteArray := ⟨l.toArray⟩
theorem aY9 (l : List UInt8) : (bs l).data.toList = l := by simp [bs]
theorem bs_size (l : List UInt8) : (bs l).size = l.length := by simp [bs, ByteArray.size]
theorem bs_of (s : ByteArray) : bs s.data.toList = s := by cases s; simp [bs]
theorem bs_app (a b : List UInt8) : bs a ++ bs b = bs (a ++ b) := by
 apply ByteArray.ext; simp [bs, ByteArray.data_append]
theorem aW9 (s : ByteArray) : s.data.toList.length = s.size := Array.length_toList
theorem bs_ext (s : ByteArray) (a b : Nat) : s.extract a b = bs ((s.data.toList.take b).drop a) := by
 apply ByteArray.ext
 apply Array.toList_inj.1
 simp [bs, ByteArray.data_extract, Array.toList_extract, List.drop_take, List.extract_eq_take_drop]
def spStep (st : List (List UInt8) × List UInt8) (c : UInt8) : List (List UInt8) × List UInt8 := if c = 47 then (st.1 ++ [st.2], []) else (st.1, st.2 ++ [c])
def sp (l : List UInt8) : List (List UInt8) × List UInt8 := l.foldl spStep ([], [])
def full (ps : List (List UInt8)) : List (List UInt8) := ps.filter fun p => !p.isEmpty
def parts (l : List UInt8) : List (List UInt8) := full ((sp l).1 ++ [(sp l).2])
theorem sp_snoc (l : List UInt8) (c : UInt8) : sp (l ++ [c]) = spStep (sp l) c := by simp [sp]
theorem sp_app (l m : List UInt8) (h : ∀ c ∈ m, c ≠ 47) : sp (l ++ m) = ((sp l).1, (sp l).2 ++ m) := by
 induction m generalizing l with
 | nil => simp
 | cons c m ih =>
   have : l ++ c :: m = (l ++ [c]) ++ m := by simp
   rw [this, ih _ (fun d hd => h d (by simp [hd])), sp_snoc, spStep, if_neg (h c (by simp))]
   simp
theorem full_app (a b : List (List UInt8)) : full (a ++ b) = full a ++ full b := by simp [full]
theorem sp_le (l : List UInt8) : (sp l).1.length + (sp l).2.length ≤ l.length := by
 have : ∀ (m : List UInt8) (st : List (List UInt8) × List UInt8), (m.foldl spStep st).1.length + (m.foldl spStep st).2.length ≤ st.1.length + st.2.length + m.length := by
   intro m
   induction m with
   | nil => intro st; simp
   | cons c m ih =>
     intro st
     have := ih (spStep st c)
     simp only [List.foldl_cons, List.length_cons]
     have h2 : (spStep st c).1.length + (spStep st c).2.length ≤ st.1.length + st.2.length + 1 := by
       unfold spStep; split <;> simp <;> omega
     omega
 simpa [sp] using this l ([], [])
def signN (n : Nat) : Bool := decide (97 ≤ n ∧ n ≤ 122 ∨ 48 ≤ n ∧ n ≤ 57 ∨ n = 46 ∨ n = 95 ∨ n = 45)
def signsB (l : List UInt8) : Bool := l.all fun c => signN c.toNat
def partB (l : List UInt8) : Bool := decide (1 ≤ l.length ∧ l.length ≤ 8) && signsB l
def nameB (l : List UInt8) : Bool := partB l && (!(l == [46]) && !(l == [46, 46]))
def goodB (l : List UInt8) : Bool := decide (1 ≤ l.length ∧ l.length ≤ 60) && (parts l).all partB
def wholeB (l : List UInt8) : Bool := l.head? == some 47
theorem signsB_snoc (l : List UInt8) (c : UInt8) : signsB (l ++ [c]) = (signsB l && signN c.toNat) := by simp [signsB]
def clStep (wh : Bool) (st : List (List UInt8)) (p : List UInt8) : List (List UInt8) :=
 if p = [46] then st
 else if p = [46, 46] then (if st ≠ [] ∧ st.getLast? ≠ some [46, 46] then st.dropLast else if wh then st else st ++ [p])
 else st ++ [p]
def clean (wh : Bool) (ps : List (List UInt8)) : List (List UInt8) := ps.foldl (clStep wh) []
theorem clean_snoc (wh : Bool) (ps : List (List UInt8)) (p : List UInt8) : clean wh (ps ++ [p]) = clStep wh (clean wh ps) p := by simp [clean]
def cleanOf (l : List UInt8) : List (List UInt8) := clean (wholeB l) (parts l)
theorem decode_bytes (s : ByteArray) (pos : Nat) (h : pos < s.size) : pos + (Utf8.decode s pos).2 ≤ s.size ∧ 1 ≤ (Utf8.decode s pos).2 ∧ ∀ k (hk : k < s.size), pos < k → k < pos + (Utf8.decode s pos).2 → 128 ≤ (s[k]'hk).toNat := by
 have hb : ∀ k, (hk : k < s.size) → s.get! k = s[k]'hk := fun k hk => by simp [ByteArray.get!, getElem!_pos, hk]; rfl
 simp only [Utf8.decode]
 repeat' split
 all_goals simp only [ge_iff_le, Bool.and_eq_true, decide_eq_true_eq, beq_iff_eq] at *
 all_goals refine ⟨by omega, by omega, fun k hk h1 h2 => ?_⟩
 all_goals try omega
 · obtain rfl : k = pos + 1 := by omega
   rw [← hb _ hk]; omega
 · rcases (by omega : k = pos + 1 ∨ k = pos + 2) with rfl | rfl <;> (rw [← hb _ hk]; omega)
 · rcases (by omega : k = pos + 1 ∨ k = pos + 2 ∨ k = pos + 3) with rfl | rfl | rfl <;> (rw [← hb _ hk]; omega)
theorem decode_low (s : ByteArray) (pos : Nat) (h : pos < s.size) (hl : (Utf8.decode s pos).1 < 128) : (s[pos]'h).toNat = (Utf8.decode s pos).1 ∧ (Utf8.decode s pos).2 = 1 := by
 by_cases ha : (s[pos]'h).toNat < 128
 · rw [decode_ascii s pos h ha]; exact ⟨rfl, rfl⟩
 · have := (decode_high s pos h (by omega)).1; omega
theorem signN_lt {n : Nat} (h : signN n = true) : n < 128 := by simp [signN] at h; omega
theorem signN_hi {n : Nat} (h : 128 ≤ n) : signN n = false := by simp [signN]; omega
theorem take_snoc' (s : ByteArray) (k : Nat) (h : k < s.size) : s.data.toList.take (k + 1) = s.data.toList.take k ++ [s[k]] := by
 rw [List.take_succ_eq_append_getElem (by simpa using h)]; rfl
theorem sp_rune (s : ByteArray) (pos : Nat) (h : pos < s.size) (hn : (Utf8.decode s pos).1 ≠ 47) :
   sp (s.data.toList.take (pos + (Utf8.decode s pos).2)) = ((sp (s.data.toList.take pos)).1, (sp (s.data.toList.take pos)).2 ++ (s.data.toList.take (pos + (Utf8.decode s pos).2)).drop pos) := by
 obtain ⟨hle, h1, hb⟩ := decode_bytes s pos h
 have hl : s.data.toList.length = s.size := aW9 s
 have e : s.data.toList.take (pos + (Utf8.decode s pos).2) = s.data.toList.take pos ++ (s.data.toList.take (pos + (Utf8.decode s pos).2)).drop pos := by
   have e1 := (List.take_append_drop pos (s.data.toList.take (pos + (Utf8.decode s pos).2))).symm
   rw [List.take_take, Nat.min_eq_left (by omega)] at e1
   exact e1
 rw [e, sp_app]
 · rw [← e]
 · intro c hc e47
   subst e47
   obtain ⟨i, hi, he⟩ := List.getElem_of_mem hc
   simp only [List.length_drop, List.length_take, hl] at hi
   rw [List.getElem_drop, List.getElem_take] at he
   have hk : pos + i < s.size := by omega
   have he' : s[pos + i]'hk = 47 := he
   by_cases hi0 : i = 0
   · subst hi0
     have : (s[pos]'h).toNat = 47 := by have := congrArg UInt8.toNat he'; simpa using this
     have hlt : (s[pos]'h).toNat < 128 := by omega
     rw [decode_ascii s pos h hlt] at hn
     exact hn this
   · have := hb (pos + i) hk (by omega) (by omega)
     rw [he'] at this
     exact absurd this (by decide)
end Go.Proofs.YtknhacblialboaaGreatDoor
namespace Go.Proofs.YtknhacblialboaaGreatDoor
open Go.ChangeShapes Go.WideShapes Go.ChangeAt Go.RowKit Go.Joins
set_option linter.unusedVariables false
set_option linter.unusedSimpArgs false
set_option maxHeartbeats 16000000
structure Ent where
 name : List UInt8
 node : Int
structure Nod where
 kind : Int
 mode : Int
 uid : Int
 gid : Int
 time : Int
 data : List UInt8
 list : List Ent
structure FsD where
 nodes : List Nod
 room : Int
theorem addBlock (a : Addr) (i : Nat) : (a.add i).block = a.block := by unfold Addr.add; split <;> rfl
def EntsA (w : World) (v : Value) (es : List Ent) : Prop :=
 ∃ o c, v = .slice o es.length c ∧ es.length ≤ maxLen ∧ ∀ i (h : i < es.length), ∃ g off, o = some ⟨g, off, none⟩ ∧ g < w.heap.size ∧ w.cell? ⟨g, off + i * 2, none⟩ = some (.string (bs es[i].name)) ∧ w.cell? ⟨g, off + i * 2 + 1, none⟩ = some (.int .i64 es[i].node) ∧ es[i].name.length ≤ maxLen
theorem EntsA.below {w w' : World} {v : Value} {es : List Ent} (h : EntsA w v es) (hb : Below w.heap.size w w') : EntsA w' v es := by
 obtain ⟨o, c, rfl, hm, hH⟩ := h
 refine ⟨o, c, rfl, hm, fun i hi => ?_⟩
 obtain ⟨g, off, e, hg, h1, h2, h3⟩ := hH i hi
 exact ⟨g, off, e, Nat.lt_of_lt_of_le hg hb.size, (hb.cell (p := ⟨g, off + i * 2, none⟩) hg).trans h1, (hb.cell (p := ⟨g, off + i * 2 + 1, none⟩) hg).trans h2, h3⟩
def lensE (es : List Ent) : Nat := (es.map fun e => e.name.length).sum
theorem lensE_take {es : List Ent} {k : Nat} (h : k < es.length) : lensE (es.take (k + 1)) = lensE (es.take k) + es[k].name.length := by
 unfold lensE; rw [List.take_succ_eq_append_getElem h]; simp only [List.map_append, List.sum_append, List.map_cons, List.map_nil, List.sum_cons, List.sum_nil, Nat.add_zero]
theorem lensE_pre (es : List Ent) (k : Nat) : lensE (es.take k) ≤ lensE es := by
 conv => rhs; rw [← List.take_append_drop k es]
 unfold lensE; rw [List.map_append, List.sum_append]; omega
def lessR (n : Nat) (left : Int) : Int := if (n : Int) ≤ left then left - n else -1
theorem szEntry_any (x : ByteArray) (k : Int) (left : Int) (w : World) (h0 : 0 ≤ left) (h1 : left ≤ 1048576) (hx : x.size ≤ 9223372036854775807) :
   Calls Tryz.prog 140 #[.agg #[.string x, .int .i64 k], .int .i64 left] w fun e w' => e = .returned (.int .i64 (lessR x.size left)) ∧ Below w.heap.size w w' := by
 by_cases h : (x.size : Int) ≤ left
 · have HR : Hid (lessR x.size left = left - x.size) := qhZ (by unfold lessR; rw [if_pos h])
   have h2 : 0 ≤ left - (x.size : Int) := by omega
   go_enter Tryz.func140, Tryz.ntmps140
   go_wp2
   go_ret
   exact ⟨ret_int HR.out.symm, (Below.refl _ _).alloc (Nat.le_refl _) _⟩
 · have HR : Hid (lessR x.size left = -1) := qhZ (by unfold lessR; rw [if_neg h])
   have h2 : left - (x.size : Int) < 0 := by omega
   go_enter Tryz.func140, Tryz.ntmps140
   go_wp2
   go_ret
   exact ⟨ret_int HR.out.symm, (Below.refl _ _).alloc (Nat.le_refl _) _⟩
theorem szEntryS_any (es : List Ent) (v : Value) (w : World) (left : Int) (hR : EntsA w v es) (h0 : 0 ≤ left) (hl : left ≤ 1048576) : Calls Tryz.prog 101 #[v, .int .i64 left] w fun e w' => e = .returned (.int .i64 (lessR (es.length + lensE es) left)) ∧ Below w.heap.size w w' := by
 obtain ⟨o, c, rfl, hm, hH⟩ := hR
 have HH := qhZ hH
 clear hH
 unfold maxLen at hm
 by_cases hq : left < es.length
 · have HZ : Hid (lessR (es.length + lensE es) left = -1) := qhZ (by unfold lessR; rw [if_neg (by omega)])
   go_enter Tryz.func101, Tryz.ntmps101
   go_wp2
   go_ret
   exact ⟨ret_int HZ.out.symm, Below.refl _ _⟩
 · have h0' : (es.length : Int) ≤ left := by omega
   go_enter Tryz.func101, Tryz.ntmps101
   go_wp2
   go_loopw [1, 5] (fun t i wr => ∃ k : Nat, k ≤ es.length ∧ i = .int .i64 k ∧ (es.length : Int) + lensE (es.take k) ≤ left ∧ t = .int .i64 (left - es.length - lensE (es.take k)) ∧ Below w.heap.size w wr) (fun _ i _ => es.length - (intOf i).toNat)
   case atStart => exact ⟨0, Nat.zero_le _, rfl, by simpa [lensE] using h0', by simp [lensE], Below.refl _ _⟩
   case round =>
     obtain ⟨k, hk, rfl, hA, rfl, hB⟩ := hrel
     by_cases hlt : k < es.length
     · obtain ⟨g, off, rfl, hg, hc1, hc2, hml⟩ := HH.out k hlt
       have HS := qhZ (lensE_take hlt)
       have d1 : wr.cell? ⟨g, off + k * 2, none⟩ = some (.string (bs es[k].name)) := (hB.cell (p := ⟨g, off + k * 2, none⟩) hg).trans hc1
       have d2 : wr.cell? ⟨g, off + k * 2 + 1, none⟩ = some (.int .i64 es[k].node) := (hB.cell (p := ⟨g, off + k * 2 + 1, none⟩) hg).trans hc2
       have HZ : Hid ((bs es[k].name).size = es[k].name.length) := qhZ (bs_size _)
       have hx : (bs es[k].name).size ≤ 9223372036854775807 := by rw [HZ.out]; unfold maxLen at hml; omega
       obtain ⟨x, hxx⟩ : ∃ x, x = bs es[k].name := ⟨_, rfl⟩
       rw [← hxx] at d1 hx HZ
       clear hc1 hc2 hxx hml
       by_cases hlt2 : (x.size : Int) ≤ left - es.length - lensE (es.take k)
       · have HQ : Hid (lessR x.size (left - es.length - lensE (es.take k)) = left - es.length - lensE (es.take k) - x.size) := qhZ (by unfold lessR; rw [if_pos hlt2])
         have h3 : 0 ≤ left - (es.length : Int) - (lensE (es.take k) : Int) - (x.size : Int) := by omega
         go_wp2_with fail
         refine (szEntry_any _ _ _ _ (by omega) (by omega) hx).mono ?_
         rintro e w1 ⟨rfl, hb1⟩
         rw [HQ.out]
         go_wp2
         go_roundw
         case rel => exact ⟨k + 1, hlt, by go_num, by rw [HS.out, ← HZ.out]; omega, by rw [HS.out, ← HZ.out]; go_num, hB.trans (hb1.mono hB.size)⟩
         case measure => simp [intOf]; omega
       · have HQ : Hid (lessR x.size (left - es.length - lensE (es.take k)) = -1) := qhZ (by unfold lessR; rw [if_neg hlt2])
         have HR : Hid (lessR (es.length + lensE es) left = -1) := qhZ (by
           have h1 := lensE_pre es (k + 1)
           rw [HS.out, ← HZ.out] at h1
           unfold lessR; rw [if_neg (by omega)])
         go_wp2_with fail
         refine (szEntry_any _ _ _ _ (by omega) (by omega) hx).mono ?_
         rintro e w1 ⟨rfl, hb1⟩
         rw [HQ.out]
         go_wp2
         go_ret
         exact ⟨ret_int HR.out.symm, hB.trans (hb1.mono hB.size)⟩
     · have HT : Hid (es.take k = es) := qhZ (List.take_of_length_le (by omega))
       have HR : Hid (lessR (es.length + lensE es) left = left - es.length - lensE (es.take k)) := qhZ (by rw [HT.out] at hA ⊢; unfold lessR; rw [if_pos (by omega)]; omega)
       go_wp2
       go_ret
       exact ⟨ret_int HR.out.symm, hB⟩
end Go.Proofs.YtknhacblialboaaGreatDoor
namespace Go.Proofs.YtknhacblialboaaGreatDoor
open Go.ChangeShapes Go.WideShapes Go.ChangeAt Go.RowKit Go.Joins
set_option linter.unusedVariables false
set_option linter.unusedSimpArgs false
set_option maxHeartbeats 16000000
def RowAt (w : World) (G n : Nat) (T : TypeId) (F : Nat → Value) : Prop := ∃ cur, w.heap[G]? = some (.cells cur T (0, 0)) ∧ n ≤ cur.size ∧ ∀ j, j < n → cur[j]? = some (F j)
section
variable {w w' : World} {G n : Nat} {T : TypeId} {F : Nat → Value}
theorem RowAt.lt (h : RowAt w G n T F) : G < w.heap.size := by
 obtain ⟨cur, hg, _⟩ := h
 exact (Array.getElem?_eq_some_iff.1 hg).1
theorem RowAt.cell (h : RowAt w G n T F) {j : Nat} (hj : j < n) : w.cell? ⟨G, j, none⟩ = some (F j) := by
 obtain ⟨cur, hg, _, hF⟩ := h
 simp [World.cell?, hg, hF j hj]
theorem RowAt.frozen (h : RowAt w G n T F) (j : Nat) : w.frozen? ⟨G, j, none⟩ = false := by
 obtain ⟨cur, hg, _⟩ := h
 exact frozen_of_row w G j cur T hg
theorem RowAt.congr (h : RowAt w G n T F) {F' : Nat → Value} (e : ∀ j, j < n → F j = F' j) : RowAt w G n T F' := by
 obtain ⟨cur, hg, hs, hF⟩ := h
 exact ⟨cur, hg, hs, fun j hj => by rw [hF j hj, e j hj]⟩
theorem RowAt.of_block (h : RowAt w G n T F) (hb : w'.heap[G]? = w.heap[G]?) : RowAt w' G n T F := by
 obtain ⟨cur, hg, hs, hF⟩ := h
 exact ⟨cur, hb.trans hg, hs, hF⟩
theorem RowAt.below (h : RowAt w G n T F) {B : Nat} (hb : Below B w w') (hB : G < B) : RowAt w' G n T F := h.of_block (hb.block G hB)
theorem RowAt.alloc (h : RowAt w G n T F) (o : Obj) : RowAt (w.alloc o) G n T F := h.of_block (Below.heap_alloc w o G h.lt)
theorem RowAt.set (h : RowAt w G n T F) (j : Nat) (u : Value) : RowAt (w.setCell ⟨G, j, none⟩ u) G n T (fun i => if i = j then u else F i) := by
 obtain ⟨cur, hg, hs, hF⟩ := h
 refine ⟨cur.setIfInBounds j u, heap_setCell_same w G j cur T u hg, by simpa using hs, fun i hi => ?_⟩
 by_cases e : i = j
 · subst e
   simp only [if_true]
   rw [Array.getElem?_setIfInBounds_self_of_lt (by omega)]
 · simp only [if_neg e]
   rw [Array.getElem?_setIfInBounds_ne (fun x => e x.symm), hF i hi]
theorem RowAt.other (h : RowAt w G n T F) {p : Addr} (hp : p.block ≠ G) (u : Value) : RowAt (w.setCell p u) G n T F := h.of_block (Below.heap_setCell w p u G (fun e => hp e.symm))
theorem RowAt.made {size k B : Nat} {xs : List Value} (h : w.ownsRow B T size (.slice (some ⟨G, 0, none⟩) k k) k xs) (hF : ∀ j, j < k * size → xs[j]? = some (F j)) : RowAt w G (k * size) T F := by
 rcases h.2 with ⟨e, _⟩ | ⟨g, cap, cur, e, _, hg, _, _, hs, ht⟩
 · cases e
 · simp only [Value.slice.injEq, Option.some.injEq, Addr.mk.injEq, and_true, true_and] at e
   obtain ⟨rfl, rfl⟩ := e
   refine ⟨cur, hg, by omega, fun j hj => ?_⟩
   have h1 := hF j hj
   rw [← ht, List.getElem?_take, if_pos hj, Array.getElem?_toList] at h1
   exact h1
end
end Go.Proofs.YtknhacblialboaaGreatDoor
namespace Go.Proofs.YtknhacblialboaaGreatDoor
open Go.ChangeShapes Go.WideShapes Go.ChangeAt Go.RowKit Go.Joins
set_option linter.unusedVariables false
set_option linter.unusedSimpArgs false
set_option maxHeartbeats 16000000
theorem entInfo : (Tryz.prog.info? 126).map (fun i => (i.zero, i.size, i.bytes)) = some (some (.agg #[.string ⟨#[]⟩, .int .i64 0]), 2, 24) := by kernel_rfl
theorem toEntry_any (x : ByteArray) (k : Int) (w : World) : Calls Tryz.prog 143 #[.agg #[.string x, .int .i64 k]] w fun e w' => e = .returned (.agg #[.string x, .int .i64 k]) ∧ Below w.heap.size w w' := by
 go_enter Tryz.func143, Tryz.ntmps143
 go_wp2
 exact bodyPost_ret (v := .agg #[.string x, .int .i64 k]) (by simp [results, Tryz.results143, go_sem]) rfl ⟨rfl, (((Below.refl _ _).alloc (Nat.le_refl _) _).alloc (by simp) _).alloc (by simp; omega) _⟩
def entCell (e : Ent) (r : Nat) : Value := if r = 0 then .string (bs e.name) else .int .i64 e.node
def ent0 : Ent := ⟨[], 0⟩
def entsF (es : List Ent) (j : Nat) : Value := entCell (es[j / 2]?.getD ent0) (j % 2)
def EntsOwn (w : World) (B : Nat) (v : Value) (es : List Ent) : Prop := ∃ G c, v = .slice (some ⟨G, 0, none⟩) es.length c ∧ es.length ≤ c ∧ c ≤ maxLen ∧ B ≤ G ∧ RowAt w G (es.length * 2) 126 (entsF es)
theorem EntsOwn.below {w w' : World} {B : Nat} {v : Value} {es : List Ent} (h : EntsOwn w B v es) (hb : Below w.heap.size w w') : EntsOwn w' B v es := by
 obtain ⟨G, c, e, h1, h2, h3, hr⟩ := h
 exact ⟨G, c, e, h1, h2, h3, hr.below hb hr.lt⟩
theorem EntsOwn.read {w : World} {B : Nat} {v : Value} {es : List Ent} (h : EntsOwn w B v es) (hs : ∀ e ∈ es, e.name.length ≤ maxLen) : EntsA w v es := by
 obtain ⟨G, c, rfl, h1, h2, h3, hr⟩ := h
 refine ⟨_, c, rfl, by omega, fun i hi => ⟨G, 0, rfl, hr.lt, ?_, ?_, hs _ (List.getElem_mem hi)⟩⟩
 · have h4 := hr.cell (j := i * 2) (by omega)
   rw [Nat.zero_add, h4]
   have e1 : i * 2 / 2 = i := by omega
   have e2 : i * 2 % 2 = 0 := by omega
   simp [entsF, entCell, e1, e2, hi]
 · have h4 := hr.cell (j := i * 2 + 1) (by omega)
   rw [Nat.zero_add, h4]
   have e1 : (i * 2 + 1) / 2 = i := by omega
   have e2 : (i * 2 + 1) % 2 = 1 := by omega
   simp [entsF, entCell, e1, e2, hi]
theorem ents_step {es : List Ent} {k : Nat} (h : k < es.length) (j : Nat) : (if j = k * 2 + 1 then .int .i64 es[k].node else if j = k * 2 then .string (bs es[k].name) else entsF (es.take k) j) = entsF (es.take (k + 1)) j := by
 unfold entsF
 by_cases h1 : j = k * 2 + 1
 · subst h1
   have e1 : (k * 2 + 1) / 2 = k := by omega
   have e2 : (k * 2 + 1) % 2 = 1 := by omega
   rw [if_pos rfl, e1, e2, List.getElem?_take, if_pos (by omega), List.getElem?_eq_getElem h]; rfl
 · by_cases h2 : j = k * 2
   · subst h2
     have e1 : k * 2 / 2 = k := by omega
     have e2 : k * 2 % 2 = 0 := by omega
     rw [if_neg (by omega), if_pos rfl, e1, e2, List.getElem?_take, if_pos (by omega), List.getElem?_eq_getElem h]; rfl
   · rw [if_neg h1, if_neg h2, List.getElem?_take, List.getElem?_take]
     by_cases h3 : j / 2 < k
     · rw [if_pos h3, if_pos (by omega)]
     · rw [if_neg h3, if_neg (by omega)]
theorem toEntryS_any (es : List Ent) (v : Value) (w : World) (hR : EntsA w v es) (hl : es.length ≤ 1048576) : Calls Tryz.prog 107 #[v] w fun e w' => ∃ u, e = .returned u ∧ EntsOwn w' w.heap.size u es ∧ Below w.heap.size w w' := by
 obtain ⟨i0, hi, hz0, hz1, hz2⟩ := info_parts entInfo
 obtain ⟨o, c, rfl, hm, hH⟩ := hR
 have HH := qhZ hH
 clear hH
 unfold maxLen at hm
 go_enter Tryz.func107, Tryz.ntmps107
 go_wp2_with (at_make; refine wpList_make_full _ rfl _ _ 53 rfl w.heap.size 126 i0 (.agg #[.string ⟨#[]⟩, .int .i64 0]) 2 Tryz.underlying53 hi hz0 hz1 _ _ _ _ es.length rfl rfl rfl rfl (by rw [hz2]; omega) (by unfold maxLen; omega) (Nat.le_refl _) ?_)
 intro w1 hown hgrow
 have hb1 : Below w.heap.size w w1 := (Below.refl _ w).grown hgrow (Nat.le_refl _) (fun k e => by cases e)
 have hr1 : RowAt w1 w.heap.size (es.length * 2) 126 (entsF (es.take 0)) := by
   refine RowAt.made hown (fun j hj => ?_)
   have hj' : j < es.length * 2 := hj
   simp only [madeCells, entsF, entCell, ent0, List.take_zero, List.getElem?_nil, Option.getD_none]
   rcases Nat.mod_two_eq_zero_or_one j with h2 | h2
   · simp [hj', h2]; rfl
   · simp [hj', h2]
 clear hown hgrow
 go_wp2
 go_loopw [4] (fun i wr => ∃ k : Nat, k ≤ es.length ∧ i = .int .i64 k ∧ RowAt wr w.heap.size (es.length * 2) 126 (entsF (es.take k)) ∧ Below w.heap.size w wr) (fun i _ => es.length - (intOf i).toNat)
 case atStart => exact ⟨0, Nat.zero_le _, rfl, hr1, hb1⟩
 case round =>
   obtain ⟨k, hk, rfl, hr, hB⟩ := hrel
   by_cases hlt : k < es.length
   · obtain ⟨g, off, rfl, hg, hc1, hc2, hml⟩ := HH.out k hlt
     have d1 : wr.cell? ⟨g, off + k * 2, none⟩ = some (.string (bs es[k].name)) := (hB.cell (p := ⟨g, off + k * 2, none⟩) hg).trans hc1
     have d2 : wr.cell? ⟨g, off + k * 2 + 1, none⟩ = some (.int .i64 es[k].node) := (hB.cell (p := ⟨g, off + k * 2 + 1, none⟩) hg).trans hc2
     have HST := qhZ (ents_step hlt)
     have HRr := qhZ hr
     obtain ⟨x, hx⟩ : ∃ x, x = bs es[k].name := ⟨_, rfl⟩
     rw [← hx] at d1 HST
     clear hx hml hc1 hc2 hr hr1
     go_wp2_with fail
     refine (toEntry_any _ _ _).mono ?_
     rintro e w2 ⟨rfl, hb2⟩
     have hr2 := HRr.out.below hb2 HRr.out.lt
     have b0 := hr2.cell (j := k * 2) (by omega)
     have b1 := hr2.cell (j := k * 2 + 1) (by omega)
     have b2 := hr2.frozen (k * 2)
     have b3 := hr2.frozen (k * 2 + 1)
     have HR3 := qhZ (((hr2.set (k * 2) (.string x)).set (k * 2 + 1) (.int .i64 es[k].node)).congr (fun j _ => HST.out j))
     have HB3 := qhZ (((hB.trans (hb2.mono hB.size)).setCell (p := ⟨w.heap.size, k * 2, none⟩) (Nat.le_refl _) (.string x)).setCell (p := ⟨w.heap.size, k * 2 + 1, none⟩) (Nat.le_refl _) (.int .i64 es[k].node))
     clear hr2 hb2
     go_wp2
     go_roundw
     case rel => exact ⟨k + 1, hlt, by go_num, HR3.out, HB3.out⟩
     case measure => simp [intOf]; omega
   · have HT : Hid (es.take k = es) := qhZ (List.take_of_length_le (by omega))
     rw [HT.out] at hr
     go_wp2
     go_ret
     exact ⟨_, rfl, ⟨_, _, rfl, Nat.le_refl _, by unfold maxLen; omega, Nat.le_refl _, hr⟩, hB⟩
structure NodC (w : World) (g p : Nat) (lv : Value) (n : Nod) : Prop where
 c0 : w.cell? ⟨g, p, none⟩ = some (.int .i64 n.kind)
 c1 : w.cell? ⟨g, p + 1, none⟩ = some (.int .i64 n.mode)
 c2 : w.cell? ⟨g, p + 2, none⟩ = some (.int .i64 n.uid)
 c3 : w.cell? ⟨g, p + 3, none⟩ = some (.int .i64 n.gid)
 c4 : w.cell? ⟨g, p + 4, none⟩ = some (.int .i64 n.time)
 c5 : w.cell? ⟨g, p + 5, none⟩ = some (.string (bs n.data))
 c6 : w.cell? ⟨g, p + 6, none⟩ = some lv
theorem NodC.below {w w' : World} {g p B : Nat} {lv : Value} {n : Nod} (h : NodC w g p lv n) (hb : Below B w w') (hg : g < B) : NodC w' g p lv n :=
 ⟨(hb.cell (p := ⟨g, p, none⟩) hg).trans h.c0, (hb.cell (p := ⟨g, p + 1, none⟩) hg).trans h.c1, (hb.cell (p := ⟨g, p + 2, none⟩) hg).trans h.c2, (hb.cell (p := ⟨g, p + 3, none⟩) hg).trans h.c3,
  (hb.cell (p := ⟨g, p + 4, none⟩) hg).trans h.c4, (hb.cell (p := ⟨g, p + 5, none⟩) hg).trans h.c5, (hb.cell (p := ⟨g, p + 6, none⟩) hg).trans h.c6⟩
def NodsA (w : World) (v : Value) (ns : List Nod) : Prop :=
 ∃ o c, v = .slice o ns.length c ∧ ns.length ≤ maxLen ∧ ∀ i (h : i < ns.length), ∃ g off lv, o = some ⟨g, off, none⟩ ∧ g < w.heap.size ∧ NodC w g (off + i * 7) lv ns[i] ∧ EntsA w lv ns[i].list ∧ ns[i].data.length ≤ maxLen
theorem NodsA.below {w w' : World} {v : Value} {ns : List Nod} (h : NodsA w v ns) (hb : Below w.heap.size w w') : NodsA w' v ns := by
 obtain ⟨o, c, rfl, hm, hH⟩ := h
 refine ⟨o, c, rfl, hm, fun i hi => ?_⟩
 obtain ⟨g, off, lv, e, hg, hc, he, hd⟩ := hH i hi
 exact ⟨g, off, lv, e, Nat.lt_of_lt_of_le hg hb.size, hc.below hb hg, he.below hb, hd⟩
def FsA (w : World) (v : Value) (f : FsD) : Prop := ∃ nv, v = .agg #[nv, .int .i64 f.room] ∧ NodsA w nv f.nodes
theorem FsA.below {w w' : World} {v : Value} {f : FsD} (h : FsA w v f) (hb : Below w.heap.size w w') : FsA w' v f := by
 obtain ⟨nv, e, h1⟩ := h
 exact ⟨nv, e, h1.below hb⟩
def szN (n : Nod) : Nat := n.data.length + (n.list.length + lensE n.list)
def szNs (ns : List Nod) : Nat := (ns.map szN).sum
theorem szNs_take {ns : List Nod} {k : Nat} (h : k < ns.length) : szNs (ns.take (k + 1)) = szNs (ns.take k) + szN ns[k] := by
 unfold szNs; rw [List.take_succ_eq_append_getElem h]; simp only [List.map_append, List.sum_append, List.map_cons, List.map_nil, List.sum_cons, List.sum_nil, Nat.add_zero]
theorem szNs_pre (ns : List Nod) (k : Nat) : szNs (ns.take k) ≤ szNs ns := by
 conv => rhs; rw [← List.take_append_drop k ns]
 unfold szNs; rw [List.map_append, List.sum_append]; omega
theorem less_yes {n : Nat} {left : Int} (h : (n : Int) ≤ left) : lessR n left = left - n := by unfold lessR; rw [if_pos h]
theorem less_no {n : Nat} {left : Int} (h : ¬ (n : Int) ≤ left) : lessR n left = -1 := by unfold lessR; rw [if_neg h]
theorem szNode_any (k m u gi t : Int) (x : ByteArray) (lv : Value) (es : List Ent) (left : Int) (w : World) (hE : EntsA w lv es) (h0 : 0 ≤ left) (h1 : left ≤ 1048576) (hx : x.size ≤ 9223372036854775807) :
   Calls Tryz.prog 60 #[.agg #[.int .i64 k, .int .i64 m, .int .i64 u, .int .i64 gi, .int .i64 t, .string x, lv], .int .i64 left] w fun e w' => e = .returned (.int .i64 (lessR (x.size + (es.length + lensE es)) left)) ∧ Below w.heap.size w w' := by
 obtain ⟨o, c, rfl, _, _⟩ := id hE
 have HE := qhZ hE
 clear hE
 by_cases h : (x.size : Int) ≤ left
 · have h2 : 0 ≤ left - (x.size : Int) := by omega
   have hbw : Below w.heap.size w (w.alloc (.cells #[.int .i64 k, .int .i64 m, .int .i64 u, .int .i64 gi, .int .i64 t, .string x, .slice o es.length c] 85)) := (Below.refl _ _).alloc (Nat.le_refl _) _
   have HBW := qhZ hbw
   clear hbw
   by_cases h3 : ((es.length + lensE es : Nat) : Int) ≤ left - x.size
   · have HQ := qhZ (less_yes h3)
     have HR : Hid (lessR (x.size + (es.length + lensE es)) left = left - x.size - (es.length + lensE es : Nat)) := qhZ (by rw [less_yes (by omega)]; omega)
     have h4 : 0 ≤ left - (x.size : Int) - ((es.length + lensE es : Nat) : Int) := by omega
     go_enter Tryz.func60, Tryz.ntmps60
     go_wp2_with fail
     refine (szEntryS_any es _ _ _ (HE.out.below HBW.out) (by omega) (by omega)).mono ?_
     rintro e w1 ⟨rfl, hb1⟩
     rw [HQ.out]
     go_wp2
     go_ret
     exact ⟨ret_int HR.out.symm, HBW.out.trans (hb1.mono HBW.out.size)⟩
   · have HQ := qhZ (less_no h3)
     have HR : Hid (lessR (x.size + (es.length + lensE es)) left = -1) := qhZ (less_no (by omega))
     go_enter Tryz.func60, Tryz.ntmps60
     go_wp2_with fail
     refine (szEntryS_any es _ _ _ (HE.out.below HBW.out) (by omega) (by omega)).mono ?_
     rintro e w1 ⟨rfl, hb1⟩
     rw [HQ.out]
     go_wp2
     go_ret
     exact ⟨ret_int HR.out.symm, HBW.out.trans (hb1.mono HBW.out.size)⟩
 · have HR : Hid (lessR (x.size + (es.length + lensE es)) left = -1) := qhZ (less_no (by omega))
   have h2 : left - (x.size : Int) < 0 := by omega
   go_enter Tryz.func60, Tryz.ntmps60
   go_wp2
   go_ret
   exact ⟨ret_int HR.out.symm, (Below.refl _ _).alloc (Nat.le_refl _) _⟩
theorem szNodeS_any (ns : List Nod) (v : Value) (w : World) (left : Int) (hR : NodsA w v ns) (h0 : 0 ≤ left) (hl : left ≤ 1048576) : Calls Tryz.prog 33 #[v, .int .i64 left] w fun e w' => e = .returned (.int .i64 (lessR (ns.length + szNs ns) left)) ∧ Below w.heap.size w w' := by
 obtain ⟨o, c, rfl, hm, hH⟩ := hR
 have HH := qhZ hH
 clear hH
 unfold maxLen at hm
 by_cases hq : left < ns.length
 · have HZ : Hid (lessR (ns.length + szNs ns) left = -1) := qhZ (less_no (by omega))
   go_enter Tryz.func33, Tryz.ntmps33
   go_wp2
   go_ret
   exact ⟨ret_int HZ.out.symm, Below.refl _ _⟩
 · have h0' : (ns.length : Int) ≤ left := by omega
   go_enter Tryz.func33, Tryz.ntmps33
   go_wp2
   go_loopw [1, 5] (fun t i wr => ∃ k : Nat, k ≤ ns.length ∧ i = .int .i64 k ∧ (ns.length : Int) + szNs (ns.take k) ≤ left ∧ t = .int .i64 (left - ns.length - szNs (ns.take k)) ∧ Below w.heap.size w wr) (fun _ i _ => ns.length - (intOf i).toNat)
   case atStart => exact ⟨0, Nat.zero_le _, rfl, by simpa [szNs] using h0', by simp [szNs], Below.refl _ _⟩
   case round =>
     obtain ⟨k, hk, rfl, hA, rfl, hB⟩ := hrel
     by_cases hlt : k < ns.length
     · obtain ⟨g, off, lv, rfl, hg, hc, he, hml⟩ := HH.out k hlt
       have HS := qhZ (szNs_take hlt)
       obtain ⟨d0, d1, d2, d3, d4, d5, d6⟩ := hc.below hB hg
       obtain ⟨q, hqq⟩ : ∃ q, q = ns[k] := ⟨_, rfl⟩
       rw [← hqq] at d0 d1 d2 d3 d4 d5 he hml HS
       have HE := qhZ (he.below hB)
       obtain ⟨o2, c2, rfl, _, _⟩ := id he
       have HZ : Hid ((bs q.data).size = q.data.length) := qhZ (bs_size _)
       have hx : (bs q.data).size ≤ 9223372036854775807 := by rw [HZ.out]; unfold maxLen at hml; omega
       have HN : Hid (szN q = (bs q.data).size + (q.list.length + lensE q.list)) := qhZ (by rw [HZ.out]; rfl)
       obtain ⟨x, hxx⟩ : ∃ x, x = bs q.data := ⟨_, rfl⟩
       rw [← hxx] at d5 hx HN
       clear hc he hml hqq hxx HZ
       by_cases hlt2 : ((szN q : Nat) : Int) ≤ left - ns.length - szNs (ns.take k)
       · have HQ := qhZ (less_yes hlt2)
         have h3 : 0 ≤ left - (ns.length : Int) - (szNs (ns.take k) : Int) - (szN q : Int) := by omega
         go_wp2_with fail
         refine (szNode_any _ _ _ _ _ _ _ _ _ _ HE.out (by omega) (by omega) hx).mono ?_
         rintro e w1 ⟨rfl, hb1⟩
         rw [← HN.out, HQ.out]
         go_wp2
         go_roundw
         case rel => exact ⟨k + 1, hlt, by go_num, by rw [HS.out]; omega, by rw [HS.out]; go_num, hB.trans (hb1.mono hB.size)⟩
         case measure => simp [intOf]; omega
       · have HQ := qhZ (less_no hlt2)
         have HR : Hid (lessR (ns.length + szNs ns) left = -1) := qhZ (by
           have h1 := szNs_pre ns (k + 1)
           rw [HS.out] at h1
           exact less_no (by omega))
         go_wp2_with fail
         refine (szNode_any _ _ _ _ _ _ _ _ _ _ HE.out (by omega) (by omega) hx).mono ?_
         rintro e w1 ⟨rfl, hb1⟩
         rw [← HN.out, HQ.out]
         go_wp2
         go_ret
         exact ⟨ret_int HR.out.symm, hB.trans (hb1.mono hB.size)⟩
     · have HT : Hid (ns.take k = ns) := qhZ (List.take_of_length_le (by omega))
       have HR : Hid (lessR (ns.length + szNs ns) left = left - ns.length - szNs (ns.take k)) := qhZ (by rw [HT.out] at hA ⊢; rw [less_yes (by omega)]; omega)
       go_wp2
       go_ret
       exact ⟨ret_int HR.out.symm, hB⟩
def szF (f : FsD) : Nat := f.nodes.length + szNs f.nodes
theorem szFs_any (f : FsD) (v : Value) (w : World) (left : Int) (hR : FsA w v f) (h0 : 0 ≤ left) (hl : left ≤ 1048576) : Calls Tryz.prog 11 #[v, .int .i64 left] w fun e w' => e = .returned (.int .i64 (lessR (szF f) left)) ∧ Below w.heap.size w w' := by
 obtain ⟨nv, rfl, hN⟩ := hR
 obtain ⟨o, c, rfl, _, _⟩ := id hN
 have HN := qhZ hN
 have HBW : Hid (Below w.heap.size w (w.alloc (.cells #[.slice o f.nodes.length c, .int .i64 f.room] 24))) := qhZ ((Below.refl _ _).alloc (Nat.le_refl _) _)
 clear hN
 by_cases h : ((szF f : Nat) : Int) ≤ left
 · have HQ := qhZ (less_yes h)
   have h3 : 0 ≤ left - (szF f : Int) := by omega
   have HF : Hid (lessR (f.nodes.length + szNs f.nodes) left = left - (szF f : Int)) := qhZ HQ.out
   go_enter Tryz.func11, Tryz.ntmps11
   go_wp2_with fail
   refine (szNodeS_any f.nodes _ _ _ (HN.out.below HBW.out) h0 hl).mono ?_
   rintro e w1 ⟨rfl, hb1⟩
   rw [HF.out]
   go_wp2
   go_ret
   exact ⟨ret_int HQ.out.symm, HBW.out.trans (hb1.mono HBW.out.size)⟩
 · have HQ := qhZ (less_no h)
   have HF : Hid (lessR (f.nodes.length + szNs f.nodes) left = -1) := qhZ HQ.out
   go_enter Tryz.func11, Tryz.ntmps11
   go_wp2_with fail
   refine (szNodeS_any f.nodes _ _ _ (HN.out.below HBW.out) h0 hl).mono ?_
   rintro e w1 ⟨rfl, hb1⟩
   rw [HF.out]
   go_wp2
   go_ret
   exact ⟨ret_int HQ.out.symm, HBW.out.trans (hb1.mono HBW.out.size)⟩
theorem aA9 {w : World} {b : Nat} {cs : Array Value} {T : TypeId} (h : w.heap[b]? = some (.cells cs T (0, 0))) (j : Nat) : w.cell? ⟨b, j, none⟩ = cs[j]? := by simp [World.cell?, h]
theorem aE9 {w : World} {b : Nat} {cs : Array Value} {T : TypeId} (h : w.heap[b]? = some (.cells cs T (0, 0))) (j : Nat) : w.frozen? ⟨b, j, none⟩ = false := frozen_of_row w b j cs T h
theorem toNode_any (k m u gi t : Int) (x : ByteArray) (lv : Value) (es : List Ent) (w : World) (hE : EntsA w lv es) (hl : es.length ≤ 1048576) :
   Calls Tryz.prog 68 #[.agg #[.int .i64 k, .int .i64 m, .int .i64 u, .int .i64 gi, .int .i64 t, .string x, lv]] w fun e w' =>
     ∃ lv', e = .returned (.agg #[.int .i64 k, .int .i64 m, .int .i64 u, .int .i64 gi, .int .i64 t, .string x, lv']) ∧ EntsOwn w' w.heap.size lv' es ∧ Below w.heap.size w w' := by
 obtain ⟨o, c, rfl, -, -⟩ := id hE
 have HE := qhZ hE
 clear hE
 go_enter Tryz.func68, Tryz.ntmps68
 go_wp2_with fail
 have h2 := heap_alloc_new (w.alloc (.cells #[.int .i64 k, .int .i64 m, .int .i64 u, .int .i64 gi, .int .i64 t, .string x, .slice o es.length c] 85)) (.cells #[.int .i64 0, .int .i64 0, .int .i64 0, .int .i64 0, .int .i64 0, .string ⟨#[]⟩, .slice none 0 0] 55)
 have h3 := heap_alloc_new ((w.alloc (.cells #[.int .i64 k, .int .i64 m, .int .i64 u, .int .i64 gi, .int .i64 t, .string x, .slice o es.length c] 85)).alloc (.cells #[.int .i64 0, .int .i64 0, .int .i64 0, .int .i64 0, .int .i64 0, .string ⟨#[]⟩, .slice none 0 0] 55)) (.cells #[.int .i64 k, .int .i64 m, .int .i64 u, .int .i64 gi, .int .i64 t, .string x, .slice none 0 0] 55)
 have h23 := Below.heap_alloc ((w.alloc (.cells #[.int .i64 k, .int .i64 m, .int .i64 u, .int .i64 gi, .int .i64 t, .string x, .slice o es.length c] 85)).alloc (.cells #[.int .i64 0, .int .i64 0, .int .i64 0, .int .i64 0, .int .i64 0, .string ⟨#[]⟩, .slice none 0 0] 55)) (.cells #[.int .i64 k, .int .i64 m, .int .i64 u, .int .i64 gi, .int .i64 t, .string x, .slice none 0 0] 55) (w.heap.size + 1) (by simp)
 rw [World.size_alloc] at h2
 rw [World.size_alloc, World.size_alloc] at h3
 have hB3 : Below w.heap.size w (((w.alloc (.cells #[.int .i64 k, .int .i64 m, .int .i64 u, .int .i64 gi, .int .i64 t, .string x, .slice o es.length c] 85)).alloc (.cells #[.int .i64 0, .int .i64 0, .int .i64 0, .int .i64 0, .int .i64 0, .string ⟨#[]⟩, .slice none 0 0] 55)).alloc (.cells #[.int .i64 k, .int .i64 m, .int .i64 u, .int .i64 gi, .int .i64 t, .string x, .slice none 0 0] 55)) := (((Below.refl _ _).alloc (Nat.le_refl _) _).alloc (by simp) _).alloc (by simp; omega) _
 have hs3 : (((w.alloc (.cells #[.int .i64 k, .int .i64 m, .int .i64 u, .int .i64 gi, .int .i64 t, .string x, .slice o es.length c] 85)).alloc (.cells #[.int .i64 0, .int .i64 0, .int .i64 0, .int .i64 0, .int .i64 0, .string ⟨#[]⟩, .slice none 0 0] 55)).alloc (.cells #[.int .i64 k, .int .i64 m, .int .i64 u, .int .i64 gi, .int .i64 t, .string x, .slice none 0 0] 55)).heap.size = w.heap.size + 1 + 1 + 1 := by simp
 rw [h2] at h23
 obtain ⟨W3, hW3⟩ : ∃ W3, ((w.alloc (.cells #[.int .i64 k, .int .i64 m, .int .i64 u, .int .i64 gi, .int .i64 t, .string x, .slice o es.length c] 85)).alloc (.cells #[.int .i64 0, .int .i64 0, .int .i64 0, .int .i64 0, .int .i64 0, .string ⟨#[]⟩, .slice none 0 0] 55)).alloc (.cells #[.int .i64 k, .int .i64 m, .int .i64 u, .int .i64 gi, .int .i64 t, .string x, .slice none 0 0] 55) = W3 := ⟨_, rfl⟩
 rw [hW3] at h3 h23 hB3 hs3 ⊢
 clear h2 hW3
 refine (toEntryS_any es _ W3 (HE.out.below hB3) hl).mono ?_
 rintro e w4 ⟨lv', rfl, hO, hb4⟩
 have k2 := (hb4.block (w.heap.size + 1) (by omega)).trans h23
 have k3 := (hb4.block (w.heap.size + 1 + 1) (by omega)).trans h3
 have HB4 := qhZ (hB3.trans (hb4.mono hB3.size))
 have HO := qhZ hO
 obtain ⟨G, cc, rfl, _⟩ := hO
 have r0 := (aA9 k2 0).trans rfl
 have r1 := (aA9 k2 1).trans rfl
 have r2 := (aA9 k2 2).trans rfl
 have r3 := (aA9 k2 3).trans rfl
 have r4 := (aA9 k2 4).trans rfl
 have r5 := (aA9 k2 5).trans rfl
 have r6 := (aA9 k2 6).trans rfl
 have o0 := (aA9 k3 0).trans rfl
 have o1 := (aA9 k3 1).trans rfl
 have o2 := (aA9 k3 2).trans rfl
 have o3 := (aA9 k3 3).trans rfl
 have o4 := (aA9 k3 4).trans rfl
 have o5 := (aA9 k3 5).trans rfl
 have o6 := (aA9 k3 6).trans rfl
 have fr := aE9 k2
 have fo := aE9 k3
 clear h3 h23 hB3 hb4 k2 k3
 go_wp2
 refine bodyPost_ret (v := .agg #[.int .i64 k, .int .i64 m, .int .i64 u, .int .i64 gi, .int .i64 t, .string x, .slice (some ⟨G, 0, none⟩) es.length cc]) (by simp [results, Tryz.results68, go_sem, r0, r1, r2, r3, r4, r5, r6]) rfl ⟨_, rfl, ?_, ?_⟩
 · obtain ⟨G', c', e', h1, h2, h3, hr⟩ := HO.out
   simp only [Value.slice.injEq, Option.some.injEq, Addr.mk.injEq, and_true, true_and] at e'
   obtain ⟨rfl, rfl⟩ := e'
   refine ⟨G, cc, rfl, h1, h2, by omega, ?_⟩
   iterate 8 refine RowAt.other ?_ (by simp; omega) _
   exact hr
 · iterate 8 refine Below.setCell ?_ (by first | omega | (simp; done) | (simp; omega)) _
   exact HB4.out
def nodCell (n : Nod) (lv : Value) (r : Nat) : Value :=
 if r = 0 then .int .i64 n.kind else if r = 1 then .int .i64 n.mode else if r = 2 then .int .i64 n.uid else if r = 3 then .int .i64 n.gid else if r = 4 then .int .i64 n.time else if r = 5 then .string (bs n.data) else lv
def nod0 : Nod := ⟨0, 0, 0, 0, 0, [], []⟩
def nodsF (ps : List (Nod × Value)) (j : Nat) : Value := nodCell (ps[j / 7]?.getD (nod0, .slice none 0 0)).1 (ps[j / 7]?.getD (nod0, .slice none 0 0)).2 (j % 7)
def NodsOwn (w : World) (B : Nat) (v : Value) (ns : List Nod) : Prop :=
 ∃ G c ps, v = .slice (some ⟨G, 0, none⟩) ns.length c ∧ ns.length ≤ c ∧ c ≤ maxLen ∧ B ≤ G ∧ ps.map Prod.fst = ns ∧ RowAt w G (ns.length * 7) 55 (nodsF ps) ∧ ∀ p ∈ ps, EntsOwn w (G + 1) p.2 p.1.list
theorem nods_step {ps : List (Nod × Value)} {n : Nod} {lv : Value} (j : Nat) :
   (if j = ps.length * 7 + 6 then lv else if j = ps.length * 7 + 5 then .string (bs n.data) else if j = ps.length * 7 + 4 then .int .i64 n.time else if j = ps.length * 7 + 3 then .int .i64 n.gid else if j = ps.length * 7 + 2 then .int .i64 n.uid else if j = ps.length * 7 + 1 then .int .i64 n.mode else if j = ps.length * 7 then .int .i64 n.kind else nodsF ps j) = nodsF (ps ++ [(n, lv)]) j := by
 unfold nodsF
 by_cases hj : j / 7 = ps.length
 · have hm : j = ps.length * 7 + j % 7 := by omega
   have hlt : j % 7 < 7 := Nat.mod_lt _ (by omega)
   rw [hj, List.getElem?_append_right (Nat.le_refl _)]
   obtain ⟨r, hr⟩ : ∃ r, r = j % 7 := ⟨_, rfl⟩
   rw [← hr] at hm hlt ⊢
   subst hm
   simp only [Nat.sub_self, List.getElem?_cons_zero, Option.getD_some, nodCell, Nat.add_right_inj, Nat.add_eq_left]
   rcases (show r = 0 ∨ r = 1 ∨ r = 2 ∨ r = 3 ∨ r = 4 ∨ r = 5 ∨ r = 6 by omega) with rfl | rfl | rfl | rfl | rfl | rfl | rfl <;> simp
 · rw [if_neg (by omega), if_neg (by omega), if_neg (by omega), if_neg (by omega), if_neg (by omega), if_neg (by omega), if_neg (by omega)]
   by_cases h1 : j / 7 < ps.length
   · rw [List.getElem?_append_left h1]
   · rw [List.getElem?_eq_none (by omega), List.getElem?_eq_none (by simp; omega)]
theorem EntsOwn.other {w : World} {B : Nat} {v : Value} {es : List Ent} (h : EntsOwn w B v es) {p : Addr} (hp : p.block < B) (u : Value) : EntsOwn (w.setCell p u) B v es := by
 obtain ⟨G, c, e, h1, h2, h3, hr⟩ := h
 exact ⟨G, c, e, h1, h2, h3, hr.other (by omega) u⟩
theorem EntsOwn.mono {w : World} {A B : Nat} {v : Value} {es : List Ent} (h : EntsOwn w B v es) (hAB : A ≤ B) : EntsOwn w A v es := by
 obtain ⟨G, c, e, h1, h2, h3, hr⟩ := h
 exact ⟨G, c, e, h1, h2, by omega, hr⟩
theorem nodInfo : (Tryz.prog.info? 55).map (fun i => (i.zero, i.size, i.bytes)) = some (some (.agg #[.int .i64 0, .int .i64 0, .int .i64 0, .int .i64 0, .int .i64 0, .string ⟨#[]⟩, .slice none 0 0]), 7, 80) := by kernel_rfl
theorem nods_zero (j : Nat) : (#[Value.int .i64 0, .int .i64 0, .int .i64 0, .int .i64 0, .int .i64 0, .string ⟨#[]⟩, .slice none 0 0] : Array Value)[j % 7]! = nodsF [] j := by
 unfold nodsF nodCell nod0
 obtain ⟨r, hr⟩ : ∃ r, r = j % 7 := ⟨_, rfl⟩
 have hlt : j % 7 < 7 := Nat.mod_lt _ (by omega)
 rw [← hr] at hlt ⊢
 rcases (show r = 0 ∨ r = 1 ∨ r = 2 ∨ r = 3 ∨ r = 4 ∨ r = 5 ∨ r = 6 by omega) with rfl | rfl | rfl | rfl | rfl | rfl | rfl <;> rfl
theorem toNodeS_any (ns : List Nod) (v : Value) (w : World) (hR : NodsA w v ns) (hl : ns.length ≤ 1048576) (hll : ∀ n ∈ ns, n.list.length ≤ 1048576) : Calls Tryz.prog 38 #[v] w fun e w' => ∃ u, e = .returned u ∧ NodsOwn w' w.heap.size u ns ∧ Below w.heap.size w w' := by
 obtain ⟨i0, hi, hz0, hz1, hz2⟩ := info_parts nodInfo
 obtain ⟨o, c, rfl, hm, hH⟩ := hR
 have HH := qhZ hH
 have HLL := qhZ hll
 clear hH hll
 unfold maxLen at hm
 go_enter Tryz.func38, Tryz.ntmps38
 go_wp2_with (at_make; refine wpList_make_full _ rfl _ _ 28 rfl w.heap.size 55 i0 (.agg #[.int .i64 0, .int .i64 0, .int .i64 0, .int .i64 0, .int .i64 0, .string ⟨#[]⟩, .slice none 0 0]) 7 Tryz.underlying28 hi hz0 hz1 _ _ _ _ ns.length rfl rfl rfl rfl (by rw [hz2]; omega) (by unfold maxLen; omega) (Nat.le_refl _) ?_)
 intro w1 hown hgrow
 have hb1 : Below w.heap.size w w1 := (Below.refl _ w).grown hgrow (Nat.le_refl _) (fun k e => by cases e)
 have hr1 : RowAt w1 w.heap.size (ns.length * 7) 55 (nodsF []) := by
   refine RowAt.made hown (fun j hj => ?_)
   have hj' : j < ns.length * 7 := hj
   rw [← nods_zero]
   simp [madeCells, hj']
 clear hown hgrow
 go_wp2
 go_loopw [4] (fun i wr => ∃ (k : Nat) (ps : List (Nod × Value)), k ≤ ns.length ∧ i = .int .i64 k ∧ ps.length = k ∧ ps.map Prod.fst = ns.take k ∧ RowAt wr w.heap.size (ns.length * 7) 55 (nodsF ps) ∧ (∀ p ∈ ps, EntsOwn wr (w.heap.size + 1) p.2 p.1.list) ∧ Below w.heap.size w wr) (fun i _ => ns.length - (intOf i).toNat)
 case atStart => exact ⟨0, [], Nat.zero_le _, rfl, rfl, rfl, hr1, by simp, hb1⟩
 case round =>
   obtain ⟨k, ps, hk, rfl, hpl, hps, hr, hE, hB⟩ := hrel
   have HPL := qhZ hpl
   have HPS := qhZ hps
   have HRr := qhZ hr
   have HEr := qhZ hE
   have hsr := hr.lt
   clear hpl hps hE hr1
   by_cases hlt : k < ns.length
   · obtain ⟨g, off, lv, rfl, hg, hc, he, hml⟩ := HH.out k hlt
     obtain ⟨d0, d1, d2, d3, d4, d5, d6⟩ := hc.below hB hg
     have HTK : Hid (ns.take (k + 1) = ns.take k ++ [ns[k]]) := qhZ (List.take_succ_eq_append_getElem hlt)
     have hql : ns[k].list.length ≤ 1048576 := HLL.out _ (List.getElem_mem hlt)
     obtain ⟨q, hqq⟩ : ∃ q, q = ns[k] := ⟨_, rfl⟩
     rw [← hqq] at d0 d1 d2 d3 d4 d5 he hml HTK hql
     have HE := qhZ (he.below hB)
     obtain ⟨o2, c2, rfl, -, -⟩ := id he
     have HST : Hid (∀ lv j, (if j = k * 7 + 6 then lv else if j = k * 7 + 5 then Value.string (bs q.data) else if j = k * 7 + 4 then .int .i64 q.time else if j = k * 7 + 3 then .int .i64 q.gid else if j = k * 7 + 2 then .int .i64 q.uid else if j = k * 7 + 1 then .int .i64 q.mode else if j = k * 7 then .int .i64 q.kind else nodsF ps j) = nodsF (ps ++ [(q, lv)]) j) := qhZ (fun lv j => by
       have := nods_step (ps := ps) (n := q) (lv := lv) j
       rw [HPL.out] at this
       exact this)
     obtain ⟨x, hxx⟩ : ∃ x, x = bs q.data := ⟨_, rfl⟩
     rw [← hxx] at d5 HST
     clear hc he hml hqq hxx hr
     go_wp2_with fail
     refine (toNode_any _ _ _ _ _ _ _ _ _ HE.out hql).mono ?_
     rintro e w2 ⟨lv', rfl, hO2, hb2⟩
     have HO2 := qhZ hO2
     obtain ⟨G2, cc2, rfl, -⟩ := hO2
     have hr2 := HRr.out.below hb2 HRr.out.lt
     have b0 := hr2.cell (j := k * 7) (by omega)
     have b1 := hr2.cell (j := k * 7 + 1) (by omega)
     have b2 := hr2.cell (j := k * 7 + 2) (by omega)
     have b3 := hr2.cell (j := k * 7 + 3) (by omega)
     have b4 := hr2.cell (j := k * 7 + 4) (by omega)
     have b5 := hr2.cell (j := k * 7 + 5) (by omega)
     have b6 := hr2.cell (j := k * 7 + 6) (by omega)
     have bf := hr2.frozen
     have HR3 := qhZ ((((((((hr2.set (k * 7) (.int .i64 q.kind)).set (k * 7 + 1) (.int .i64 q.mode)).set (k * 7 + 2) (.int .i64 q.uid)).set (k * 7 + 3) (.int .i64 q.gid)).set (k * 7 + 4) (.int .i64 q.time)).set (k * 7 + 5) (.string x)).set (k * 7 + 6) (.slice (some ⟨G2, 0, none⟩) q.list.length cc2)).congr (fun j _ => HST.out _ j))
     have HB2 := qhZ (hB.trans (hb2.mono hB.size))
     have HE2 := qhZ (fun p hp => (HEr.out p hp).below hb2)
     clear hr2 hb2
     go_wp2
     go_roundw
     case rel =>
       refine ⟨k + 1, ps ++ [(q, .slice (some ⟨G2, 0, none⟩) q.list.length cc2)], hlt, by go_num, by simp [HPL.out], by rw [List.map_append, HPS.out, HTK.out]; rfl, HR3.out, ?_, ?_⟩
       · intro p hp
         iterate 7 refine EntsOwn.other ?_ (by simp) _
         rcases List.mem_append.1 hp with h1 | h1
         · exact HE2.out p h1
         · simp only [List.mem_singleton] at h1
           subst h1
           exact HO2.out.mono (by omega)
       · iterate 7 refine Below.setCell ?_ (by first | omega | (simp; done) | (simp; omega)) _
         exact HB2.out
     case measure => simp [intOf]; omega
   · have HT : Hid (ns.take k = ns) := qhZ (List.take_of_length_le (by omega))
     clear hr
     go_wp2
     go_ret
     exact ⟨_, rfl, ⟨_, _, ps, rfl, Nat.le_refl _, by unfold maxLen; omega, Nat.le_refl _, by rw [HPS.out, HT.out], HRr.out, HEr.out⟩, hB⟩
def FsOwn (w : World) (B : Nat) (v : Value) (f : FsD) : Prop := ∃ nv, v = .agg #[nv, .int .i64 f.room] ∧ NodsOwn w B nv f.nodes
theorem NodsOwn.below {w w' : World} {B : Nat} {v : Value} {ns : List Nod} (h : NodsOwn w B v ns) (hb : Below w.heap.size w w') : NodsOwn w' B v ns := by
 obtain ⟨G, c, ps, e, h1, h2, h3, h4, hr, hE⟩ := h
 exact ⟨G, c, ps, e, h1, h2, h3, h4, hr.below hb hr.lt, fun p hp => (hE p hp).below hb⟩
theorem FsOwn.below {w w' : World} {B : Nat} {v : Value} {f : FsD} (h : FsOwn w B v f) (hb : Below w.heap.size w w') : FsOwn w' B v f := by
 obtain ⟨nv, e, h1⟩ := h
 exact ⟨nv, e, h1.below hb⟩
theorem NodsOwn.other {w : World} {B : Nat} {v : Value} {ns : List Nod} (h : NodsOwn w B v ns) {p : Addr} (hp : p.block < B) (u : Value) : NodsOwn (w.setCell p u) B v ns := by
 obtain ⟨G, c, ps, e, h1, h2, h3, h4, hr, hE⟩ := h
 exact ⟨G, c, ps, e, h1, h2, h3, h4, hr.other (by omega) u, fun q hq => (hE q hq).other (by omega) u⟩
theorem NodsOwn.mono {w : World} {A B : Nat} {v : Value} {ns : List Nod} (h : NodsOwn w B v ns) (hAB : A ≤ B) : NodsOwn w A v ns := by
 obtain ⟨G, c, ps, e, h1, h2, h3, rest⟩ := h
 exact ⟨G, c, ps, e, h1, h2, by omega, rest⟩
def aV9 (ns : List Nod) : Prop := ∀ n ∈ ns, n.data.length ≤ maxLen ∧ ∀ e ∈ n.list, e.name.length ≤ maxLen
theorem NodsOwn.read {w : World} {B : Nat} {v : Value} {ns : List Nod} (h : NodsOwn w B v ns) (hf : aV9 ns) : NodsA w v ns := by
 obtain ⟨G, c, ps, rfl, h1, h2, h3, h4, hr, hE⟩ := h
 refine ⟨_, c, rfl, by omega, fun i hi => ?_⟩
 have hlp : ps.length = ns.length := by rw [← h4]; simp
 have hip : i < ps.length := by omega
 have hn : ns[i] = (ps[i]).1 := by
   have : (ps.map Prod.fst)[i]'(by simpa using hip) = ns[i] := by simp [h4]
   rw [← this]; simp
 have hcell : ∀ r, r < 7 → w.cell? ⟨G, 0 + i * 7 + r, none⟩ = some (nodCell ns[i] (ps[i]).2 r) := by
   intro r hr7
   have h5 := hr.cell (j := i * 7 + r) (by omega)
   have e1 : (i * 7 + r) / 7 = i := by omega
   have e2 : (i * 7 + r) % 7 = r := by omega
   rw [Nat.zero_add, h5]
   unfold nodsF
   rw [e1, e2, List.getElem?_eq_getElem hip, Option.getD_some, hn]
 refine ⟨G, 0, (ps[i]).2, rfl, hr.lt, ⟨hcell 0 (by omega), hcell 1 (by omega), hcell 2 (by omega), hcell 3 (by omega), hcell 4 (by omega), hcell 5 (by omega), hcell 6 (by omega)⟩, ?_, (hf _ (List.getElem_mem hi)).1⟩
 have h6 := hE _ (List.getElem_mem hip)
 rw [← hn] at h6
 exact h6.read (hf _ (List.getElem_mem hi)).2
theorem FsOwn.read {w : World} {B : Nat} {v : Value} {f : FsD} (h : FsOwn w B v f) (hf : aV9 f.nodes) : FsA w v f := by
 obtain ⟨nv, e, h1⟩ := h
 exact ⟨nv, e, h1.read hf⟩
theorem NodsA.fit {w : World} {v : Value} {ns : List Nod} (h : NodsA w v ns) : aV9 ns := by
 obtain ⟨o, c, rfl, hm, hH⟩ := h
 intro n hn
 obtain ⟨i, hi, rfl⟩ := List.getElem_of_mem hn
 obtain ⟨g, off, lv, _, _, _, he, hd⟩ := hH i hi
 refine ⟨hd, fun e hem => ?_⟩
 obtain ⟨o2, c2, rfl, _, hE⟩ := he
 obtain ⟨j, hj, rfl⟩ := List.getElem_of_mem hem
 obtain ⟨_, _, _, _, _, _, hl⟩ := hE j hj
 exact hl
theorem szN_mem {ns : List Nod} {n : Nod} (h : n ∈ ns) : szN n ≤ szNs ns := by
 induction ns with
 | nil => cases h
 | cons q r ih =>
   have e : szNs (q :: r) = szN q + szNs r := by simp [szNs]
   rcases List.mem_cons.1 h with rfl | h1
   · omega
   · have := ih h1; omega
theorem aG9 {f : FsD} (h : szF f ≤ 1048576) : f.nodes.length ≤ 1048576 ∧ ∀ n ∈ f.nodes, n.list.length ≤ 1048576 ∧ n.data.length ≤ 1048576 ∧ lensE n.list ≤ 1048576 := by
 unfold szF at h
 refine ⟨by omega, fun n hn => ?_⟩
 have := szN_mem hn
 unfold szN at this
 omega
theorem toFs_any (f : FsD) (v : Value) (w : World) (hR : FsA w v f) (hs : szF f ≤ 1048576) : Calls Tryz.prog 13 #[v] w fun e w' => ∃ u, e = .returned u ∧ FsOwn w' w.heap.size u f ∧ Below w.heap.size w w' := by
 obtain ⟨nv, rfl, hN⟩ := hR
 obtain ⟨o, c, rfl, -, -⟩ := id hN
 have HN := qhZ hN
 obtain ⟨s1, s2⟩ := aG9 hs
 have HS2 : Hid (∀ n ∈ f.nodes, n.list.length ≤ 1048576) := qhZ (fun n hn => (s2 n hn).1)
 clear hN s2
 go_enter Tryz.func13, Tryz.ntmps13
 go_wp2_with fail
 have h1 := heap_alloc_new w (.cells #[.slice o f.nodes.length c, .int .i64 f.room] 24)
 have h2 := heap_alloc_new (w.alloc (.cells #[.slice o f.nodes.length c, .int .i64 f.room] 24)) (.cells #[.slice none 0 0, .int .i64 0] 30)
 have h3 := heap_alloc_new ((w.alloc (.cells #[.slice o f.nodes.length c, .int .i64 f.room] 24)).alloc (.cells #[.slice none 0 0, .int .i64 0] 30)) (.cells #[.slice none 0 0, .int .i64 0] 30)
 have h12 := Below.heap_alloc (w.alloc (.cells #[.slice o f.nodes.length c, .int .i64 f.room] 24)) (.cells #[.slice none 0 0, .int .i64 0] 30) w.heap.size (by simp)
 have h13 := Below.heap_alloc ((w.alloc (.cells #[.slice o f.nodes.length c, .int .i64 f.room] 24)).alloc (.cells #[.slice none 0 0, .int .i64 0] 30)) (.cells #[.slice none 0 0, .int .i64 0] 30) w.heap.size (by simp; omega)
 have h23 := Below.heap_alloc ((w.alloc (.cells #[.slice o f.nodes.length c, .int .i64 f.room] 24)).alloc (.cells #[.slice none 0 0, .int .i64 0] 30)) (.cells #[.slice none 0 0, .int .i64 0] 30) (w.heap.size + 1) (by simp)
 rw [World.size_alloc] at h2
 rw [World.size_alloc, World.size_alloc] at h3
 have hB3 : Below w.heap.size w (((w.alloc (.cells #[.slice o f.nodes.length c, .int .i64 f.room] 24)).alloc (.cells #[.slice none 0 0, .int .i64 0] 30)).alloc (.cells #[.slice none 0 0, .int .i64 0] 30)) := (((Below.refl _ _).alloc (Nat.le_refl _) _).alloc (by simp) _).alloc (by simp; omega) _
 have hs3 : (((w.alloc (.cells #[.slice o f.nodes.length c, .int .i64 f.room] 24)).alloc (.cells #[.slice none 0 0, .int .i64 0] 30)).alloc (.cells #[.slice none 0 0, .int .i64 0] 30)).heap.size = w.heap.size + 1 + 1 + 1 := by simp
 rw [h2] at h23
 rw [h12, h1] at h13
 obtain ⟨W3, hW3⟩ : ∃ W3, ((w.alloc (.cells #[.slice o f.nodes.length c, .int .i64 f.room] 24)).alloc (.cells #[.slice none 0 0, .int .i64 0] 30)).alloc (.cells #[.slice none 0 0, .int .i64 0] 30) = W3 := ⟨_, rfl⟩
 rw [hW3] at h3 h13 h23 hB3 hs3 ⊢
 clear h1 h2 h12 hW3
 refine (toNodeS_any f.nodes _ W3 (HN.out.below hB3) s1 HS2.out).mono ?_
 rintro e w4 ⟨nv', rfl, hO, hb4⟩
 have k1 := (hb4.block w.heap.size (by omega)).trans h13
 have k2 := (hb4.block (w.heap.size + 1) (by omega)).trans h23
 have k3 := (hb4.block (w.heap.size + 1 + 1) (by omega)).trans h3
 have HB4 := qhZ (hB3.trans (hb4.mono hB3.size))
 have HO := qhZ hO
 obtain ⟨G, cc, ps, rfl, -⟩ := hO
 have a1 := (aA9 k1 1).trans rfl
 have r0 := (aA9 k2 0).trans rfl
 have r1 := (aA9 k2 1).trans rfl
 have o0 := (aA9 k3 0).trans rfl
 have o1 := (aA9 k3 1).trans rfl
 have fr := aE9 k2
 have fo := aE9 k3
 clear h3 h13 h23 hB3 hb4 k1 k2 k3
 go_wp2
 refine bodyPost_ret (v := .agg #[.slice (some ⟨G, 0, none⟩) f.nodes.length cc, .int .i64 f.room]) (by simp [results, Tryz.results13, go_sem, r0, r1]) rfl ⟨_, rfl, ⟨_, rfl, ?_⟩, ?_⟩
 · have h0 : NodsOwn w4 (w.heap.size + 1 + 1 + 1) (.slice (some ⟨G, 0, none⟩) f.nodes.length cc) f.nodes := by rw [← hs3]; exact HO.out
   refine NodsOwn.mono (B := w.heap.size + 1 + 1 + 1) ?_ (by omega)
   iterate 4 refine NodsOwn.other ?_ (by simp; try omega) _
   exact h0
 · iterate 4 refine Below.setCell ?_ (by first | omega | (simp; done) | (simp; omega)) _
   exact HB4.out
theorem eqEntry_same (x : ByteArray) (k : Int) (w : World) : Calls Tryz.prog 146 #[.agg #[.string x, .int .i64 k], .agg #[.string x, .int .i64 k]] w fun e w' => e = .returned (.bool true) ∧ Below w.heap.size w w' := by
 go_enter Tryz.func146, Tryz.ntmps146
 go_wp2
 go_ret
 exact ⟨rfl, ((Below.refl _ _).alloc (Nat.le_refl _) _).alloc (by simp) _⟩
theorem eqEntryS_same (es : List Ent) (u v : Value) (w : World) (hU : EntsA w u es) (hV : EntsA w v es) : Calls Tryz.prog 112 #[u, v] w fun e w' => e = .returned (.bool true) ∧ Below w.heap.size w w' := by
 obtain ⟨o1, c1, rfl, hm1, hH1⟩ := hU
 obtain ⟨o2, c2, rfl, hm2, hH2⟩ := hV
 have HH1 := qhZ hH1
 have HH2 := qhZ hH2
 clear hH1 hH2
 unfold maxLen at hm1 hm2
 go_enter Tryz.func112, Tryz.ntmps112
 go_wp2
 go_loopw [5] (fun i wr => ∃ k : Nat, k ≤ es.length ∧ i = .int .i64 k ∧ Below w.heap.size w wr) (fun i _ => es.length - (intOf i).toNat)
 case atStart => exact ⟨0, Nat.zero_le _, rfl, Below.refl _ _⟩
 case round =>
   obtain ⟨k, hk, rfl, hB⟩ := hrel
   by_cases hlt : k < es.length
   · obtain ⟨g1, f1, rfl, q1, x1, y1, _⟩ := HH1.out k hlt
     obtain ⟨g2, f2, rfl, q2, x2, y2, _⟩ := HH2.out k hlt
     obtain ⟨x, hx⟩ : ∃ x, x = bs es[k].name := ⟨_, rfl⟩
     rw [← hx] at x1 x2
     have d1 := (hB.cell (p := ⟨g1, f1 + k * 2, none⟩) q1).trans x1
     have d2 := (hB.cell (p := ⟨g1, f1 + k * 2 + 1, none⟩) q1).trans y1
     have d3 := (hB.cell (p := ⟨g2, f2 + k * 2, none⟩) q2).trans x2
     have d4 := (hB.cell (p := ⟨g2, f2 + k * 2 + 1, none⟩) q2).trans y2
     clear hx x1 x2 y1 y2
     go_wp2
     have z0 := fun d os => cell_regrown (w := wr) d1 d os
     have z1 := fun d os => cell_regrown (w := wr) d2 d os
     have z2 := fun d os => cell_regrown (w := wr) d3 d os
     have z3 := fun d os => cell_regrown (w := wr) d4 d os
     refine wp_region_quiet_below (by kernel_rfl) (by kernel_rfl) ?_
     repeat (first | go_big_quiet_step ((go_at_call 146; exact Calls.regrown_of (eqEntry_same _ _ _))) | quiet_step ((go_at_call 146; exact Calls.regrown_of (eqEntry_same _ _ _))))
     refine wpQuiet_nil ?_
     intro w5 hwq
     have hb5 : Below wr.heap.size wr w5 := by
       obtain ⟨pp, rfl⟩ := hwq
       exact below_regrown _ _ _
     clear hwq z0 z1 z2 z3
     go_wp2
     go_roundw
     case rel => exact ⟨k + 1, hlt, by go_num, hB.trans (hb5.mono hB.size)⟩
     case measure => simp [intOf]; omega
   · go_wp2
     go_ret
     exact ⟨rfl, hB⟩
theorem aM9 {w : World} {base : Nat} {e : TypeId} {size : Nat} {v : Value} {n : Nat} {xs : List Value} (h : w.ownsRow base e size v n xs) : ∃ oo cap, v = .slice oo n cap ∧ (∀ a, oo = some a → ∃ g, a = ⟨g, 0, none⟩ ∧ base ≤ g ∧ g < w.heap.size) := by
 rcases h.2 with ⟨rfl, h0⟩ | ⟨g, cap, cur, hv, hb, hg, _⟩
 · subst h0; exact ⟨none, 0, rfl, fun a e => by cases e⟩
 · exact ⟨some ⟨g, 0, none⟩, cap, hv, fun a e => by cases e; exact ⟨g, rfl, hb, (Array.getElem?_eq_some_iff.1 hg).1⟩⟩
theorem aN9 {P : Program} (w : World) {ops : Array Oper} {o : Oper} {a : Act} {K : Act → World → Prop} {Q : Exit → Act → World → Prop} {E : Prop} (hgd : o.guard = none) (s x : Operand) (t : TypeId)
   (ho : o.op = .call { callee := .builtin .append, args := #[s, x], argTypes := #[t, t] })
   (base : Nat) (e : TypeId) (i : TypeInfo) (z : Value) (size bytes : Nat) (ht : P.underlying t = some (.slice e)) (hi : P.info? e = some i) (hz : i.zero = some z)
   (hsize : i.size = size) (hby : i.bytes = bytes) (hzs : z.cells.size = size) (hsz : 0 < size)
   (v : Value) (n : Nat) (xs : List Value) (hs : a.eval s = v) (hown : w.ownsRow base e size v n xs)
   (ad : Addr) (m c : Nat) (news : List Value) (hx : a.eval x = .slice (some ad) m c) (hl : news.length = m * size) (hnews : ∀ j u, news[j]? = some u → w.cell? (ad.add j) = some u) (h1 : ∀ u ∈ news, u.oneCell' = true)
   (h63 : n + m ≤ maxLen) (hbytes : (n + m) * bytes ≤ 140737488355328) (hbase : base ≤ w.heap.size)
   (h : ∀ oo cap w', w'.ownsRow base e size (.slice oo (n + m) cap) (n + m) (xs ++ news) → w.grownBy w' v.ownBlock → (∀ a, oo = some a → ∃ g, a = ⟨g, 0, none⟩ ∧ base ≤ g ∧ g < w'.heap.size) → K (a.put o.dst (.slice oo (n + m) cap)) w') :
   if Region.wanted o (yielded ops a.tmps) = true then Oper.wp P o a w K Q else E := by
 have hw : Region.wanted o (yielded ops a.tmps) = true := by simp [Region.wanted, hgd]
 rw [if_pos hw]
 obtain ⟨v', w', hr, h2, h3, _, h5⟩ := run_append_own_at (P := P) w base t o.type e i z size bytes ht hi hz hsize hby hzs hsz v n xs hown ad m c news hl hnews h1 h63 hbytes hbase
 obtain ⟨oo, cap, rfl, hf⟩ := aM9 h2
 unfold Oper.wp execOp
 simp only [ho, resolve, invoke, builtin, Sem.run_bind, Sem.run_pure, Result.andThen_ok, List.map_toArray, List.map_cons, List.map_nil, hs, hx, hr]
 exact h oo cap w' h2 h3 hf
end Go.Proofs.YtknhacblialboaaGreatDoor
