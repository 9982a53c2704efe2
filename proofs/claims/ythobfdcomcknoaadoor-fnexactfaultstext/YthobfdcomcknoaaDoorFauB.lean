
/-
  The model's text of faults.
  Conditions: as each states.
-/
import Derived.Test.YthobfdcomcknoaaDoorDuA
import Derived.Test.YthobfdcomcknoaaDoorFltA
import Derived.Test.YthobfdcomcknoaaDoorInC
import Derived.Test.YthobfdcomcknoaaDoorCodeC
import Derived.Deep.RegionLaw
namespace Go.Proofs.YthobfdcomcknoaaDoor
open Go.ChangeShapes Go.WideShapes Go.ChangeAt Go.RowKit Go.Joins
set_option linter.unusedVariables false

/-- A fault that has a text, and its text. -/
def faultB (e : Ent) : Bool := inB 1 10 e.node && formB e.name
def faultT (e : Ent) : List UInt8 := e.name ++ [58, 32] ++ codeT e.node ++ [10]
theorem codeT_len (n : Int) : (codeT n).length ≤ 5 := by
  unfold codeT
  split
  · rename_i h
    unfold inB at h
    simp at h
    obtain ⟨m, rfl⟩ : ∃ m : Nat, n = m := ⟨n.toNat, by omega⟩
    rcases (show m = 0 ∨ m = 1 ∨ m = 2 ∨ m = 3 ∨ m = 4 ∨ m = 5 ∨ m = 6 ∨ m = 7 ∨ m = 8 ∨ m = 9 ∨ m = 10 by omega) with rfl | rfl | rfl | rfl | rfl | rfl | rfl | rfl | rfl | rfl | rfl <;> decide
  · simp
theorem faultT_len {e : Ent} (h : faultB e = true) : (faultT e).length ≤ e.name.length + 1000003 := by
  have h1 := codeT_len e.node
  unfold faultT
  simp only [List.length_append, List.length_cons, List.length_nil]
  omega
/-- The text of all of them. -/
def faultsT (es : List Ent) : List UInt8 := es.flatMap faultT
def faultsB (es : List Ent) : Bool := es.all faultB && decide (es.length ≤ 100)
theorem faultsT_take {es : List Ent} {k : Nat} (h : k < es.length) : faultsT (es.take (k + 1)) = faultsT (es.take k) ++ faultT es[k] := by
  unfold faultsT
  rw [List.take_succ_eq_append_getElem h, List.flatMap_append]
  simp
theorem faultsB_bad {es : List Ent} {k : Nat} (h : k < es.length) (hb : faultB es[k] = false) : faultsB es = false := by
  unfold faultsB
  have : es.all faultB = false := by rw [List.all_eq_false]; exact ⟨_, List.getElem_mem h, by simp [hb]⟩
  rw [this]; rfl
/-- The model's answer. -/
def faultsS (es : List Ent) : ByteArray := if faultsB es then bs (faultsT es) else ⟨#[]⟩

set_option maxHeartbeats 2000000 in
theorem specFaultsText_any (es : List Ent) (v : Value) (w : World) (hR : FltsA w v es) (hl : es.length ≤ 1048576) (hs : ∀ e ∈ es, e.name.length ≤ 1048576) :
    Calls Tryd.prog 5 #[v] w fun e w' => e = .returned (.tuple #[.string (faultsS es), .bool (faultsB es)]) ∧ Below w.heap.size w w' := by
  obtain ⟨o, c, rfl, hm, hH⟩ := hR
  have HH := Lib.hid hH
  have HS := Lib.hid hs
  clear hH hs
  unfold maxLen at hm
  go_enter Tryd.func5, Tryd.ntmps5
  go_wp2
  go_loopw [4, 9] (fun t i wr => ∃ k : Nat, k ≤ es.length ∧ i = .int .i64 k ∧ (es.take k).all faultB = true ∧ t = .string (bs (faultsT (es.take k))) ∧ (faultsT (es.take k)).length ≤ k * 3000000 ∧ Below w.heap.size w wr) (fun _ i _ => es.length - (intOf i).toNat)
  case atStart => exact ⟨0, Nat.zero_le _, rfl, rfl, rfl, by simp [faultsT], Below.refl _ _⟩
  case round =>
    obtain ⟨k, hk, rfl, hA, rfl, hL, hB⟩ := hrel
    by_cases hlt : k < es.length
    · obtain ⟨g, off, rfl, hg, hc1, hc2, hml⟩ := HH.out k hlt
      have d1 : wr.cell? ⟨g, off + k * 2, none⟩ = some (.string (bs es[k].name)) := (hB.cell (p := ⟨g, off + k * 2, none⟩) hg).trans hc1
      have d0 : wr.cell? ⟨g, off + k * 2 + 1, none⟩ = some (.int .i64 es[k].node) := (hB.cell (p := ⟨g, off + k * 2 + 1, none⟩) hg).trans hc2
      have hnl := HS.out _ (List.getElem_mem hlt)
      have HTk := Lib.hid (faultsT_take hlt)
      have HBad := Lib.hid (faultsB_bad hlt)
      have HAll : Hid (faultB es[k] = true → (es.take (k + 1)).all faultB = true) := Lib.hid (fun h => by rw [List.take_succ_eq_append_getElem hlt, List.all_append, hA]; simp [h])
      obtain ⟨n, hn⟩ : ∃ n, n = es[k].node := ⟨_, rfl⟩
      obtain ⟨p, hp⟩ : ∃ p, p = es[k].name := ⟨_, rfl⟩
      have HE : Hid (faultB es[k] = (inB 1 10 n && formB p)) := Lib.hid (by rw [hn, hp]; rfl)
      have HLn : Hid (faultB es[k] = true → (faultT es[k]).length ≤ p.length + 1000003) := Lib.hid (by rw [hp]; exact faultT_len)
      have HLT : Hid (faultT es[k] = p ++ [58, 32] ++ codeT n ++ [10]) := Lib.hid (by rw [hn, hp]; rfl)
      rw [← hn] at d0
      rw [← hp] at d1 hnl
      clear hn hp hc1 hc2 hml
      obtain ⟨x, hx⟩ : ∃ x, x = bs p := ⟨_, rfl⟩
      have hxs : x.size = p.length := by rw [hx]; exact bs_size _
      have HX : Hid (x.data.toList = p) := Lib.hid (by rw [hx]; exact bs_list _)
      have HXn : Hid (bs p = x) := Lib.hid hx.symm
      rw [← hx] at d1
      have hx1 : x.size ≤ 1073741824 := by omega
      have hx2 : x.size ≤ 1048576 := by omega
      clear hx hxs
      have HW : Hid (∀ (w2 : World), Below (wr.heap.size + 1) (wr.alloc (.cells #[.string x, .int .i64 n] 33)) w2 → w2.cell? ⟨wr.heap.size, 0, none⟩ = some (.string x) ∧ w2.cell? ⟨wr.heap.size, 1, none⟩ = some (.int .i64 n)) := Lib.hid (fun w2 h => ⟨(h.cell (p := ⟨wr.heap.size, 0, none⟩) (by simp)).trans ((World.cell?_alloc_mark wr _ _ (0, 0) 0).trans rfl), (h.cell (p := ⟨wr.heap.size, 1, none⟩) (by simp)).trans ((World.cell?_alloc_mark wr _ _ (0, 0) 1).trans rfl)⟩)
      obtain ⟨a, ha⟩ : ∃ a, a = bs (faultsT (es.take k)) := ⟨_, rfl⟩
      have HAs : Hid (a.size = (faultsT (es.take k)).length) := Lib.hid (by rw [ha]; exact bs_size _)
      have ha1 : a.size ≤ 3145728000000 := by rw [HAs.out]; omega
      have HAb : Hid (bs (faultsT (es.take k)) = a) := Lib.hid ha.symm
      rw [← ha]
      clear ha
      have HL := Lib.hid hL
      clear hL
      have HBa := Lib.hid (hB.alloc hB.size (.cells #[.string x, .int .i64 n] 33))
      have HB := Lib.hid hB
      clear hB hA
      go_wp2_with fail
      refine (l1In_any _ _ _ _).mono ?_
      rintro e w1 ⟨rfl, rfl⟩
      by_cases hi : inB 1 10 n = true
      · rw [hi]
        have hn01 : 1 ≤ n ∧ n ≤ 10 := by unfold inB at hi; simpa using hi
        obtain ⟨m, rfl⟩ : ∃ m : Nat, n = (m : Int) := ⟨n.toNat, by omega⟩
        rw [hi] at HE
        have HHi := Lib.hid hi
        clear hi
        have c1 := (World.cell?_alloc_mark wr #[.string x, .int .i64 (m : Int)] 33 (0, 0) 0).trans (show _ = some (Value.string x) from rfl)
        go_wp2_with fail
        refine (l8Way_any x _ hx1).mono ?_
        rintro e w2 ⟨rfl, hb2⟩
        rw [HX.out]
        obtain ⟨g0, g1⟩ := HW.out w2 (hb2.mono (by simp))
        have HB2 := Lib.hid (HBa.out.trans (hb2.mono (by have := HB.out.size; simp; omega)))
        have hlt2 : wr.heap.size < w2.heap.size := by have := hb2.size; simp at this; omega
        clear hb2 c1
        by_cases hf : formB p = true
        · rw [hf] at HE ⊢
          have hm : m < 11 := by omega
          obtain ⟨y, hy⟩ : ∃ y, y = bs (words4.getD m []) := ⟨_, rfl⟩
          have HC : Hid (codeT (m : Int) = words4.getD m []) := Lib.hid (by
            unfold codeT
            rw [if_pos (by unfold inB; simp; omega)]; simp)
          have hys : y.size ≤ 5 := by rw [hy, bs_size, ← HC.out]; exact codeT_len _
          have HV : Hid (a ++ (x ++ ⟨#[58, 32]⟩ ++ y ++ ⟨#[10]⟩) = bs (faultsT (es.take (k + 1)))) := Lib.hid (by
            rw [HTk.out, HLT.out, ← bs_app, ← bs_app, ← bs_app, ← bs_app, HAb.out, HXn.out, hy, HC.out]; rfl)
          have HLen : Hid ((faultsT (es.take (k + 1))).length ≤ (k + 1) * 3000000) := Lib.hid (by
            have h1 := HLn.out HE.out
            have h2 := HL.out
            rw [HTk.out, List.length_append]; omega)
          have HAll2 := Lib.hid (HAll.out HE.out)
          have HYn : Hid (∀ i, i = m → Value.string (bs (words4.getD i [])) = Value.string y) := Lib.hid (fun i h => by rw [h, hy])
          have hmI : (m : Int) < 11 := by omega
          have hm0 : (0 : Int) ≤ (m : Int) := by omega
          clear hy hf hnl hn01
          have s1 : ¬ (9223372036854775807 < x.size + 2) := by omega
          have s2 : ¬ (9223372036854775807 < x.size + 2 + y.size) := by omega
          have s3 : ¬ (9223372036854775807 < x.size + 2 + y.size + 1) := by omega
          have s4 : ¬ (9223372036854775807 < a.size + (x.size + 2 + y.size + 1)) := by omega
          go_wp2
          go_region_with (first | (go_at_call 12; (with_reducible refine (l4Words_any _).mono ?_); rintro e w3 ⟨rfl, hc3, hb3⟩; have q0 : w3.cell? ⟨wr.heap.size, 0, none⟩ = some (.string x) := (hb3.cell (p := ⟨wr.heap.size, 0, none⟩) hlt2).trans g0; have q1 : w3.cell? ⟨wr.heap.size, 1, none⟩ = some (.int .i64 (m : Int)) := (hb3.cell (p := ⟨wr.heap.size, 1, none⟩) hlt2).trans g1; have q2 : w3.cell? ⟨w2.heap.size, m, none⟩ = some (Value.string y) := (hc3 m hm).trans (congrArg some (HYn.out m rfl)); clear hc3; have HB3 : Hid (Below w.heap.size w w3) := Lib.hid (HB2.out.drew.trans (hb3.mono (HB2.out.size))); clear hb3))
          all_goals
            go_wp2
            go_roundw
            case rel => exact ⟨k + 1, hlt, by go_num, HAll2.out, by rw [HV.out], HLen.out, HB3.out⟩
            case measure => simp [intOf]; omega
        · have hf' : formB p = false := by simpa using hf
          rw [hf'] at HE ⊢
          have HR := Lib.hid (HBad.out (by rw [HE.out]; rfl))
          have HR2 : Hid (faultsS es = ⟨#[]⟩) := Lib.hid (by unfold faultsS; rw [HR.out]; rfl)
          clear hf hf'
          go_wp2
          go_ret2
          exact ⟨by rw [HR.out, HR2.out]; rfl, HB2.out⟩
      · have hi' : inB 1 10 n = false := by simpa using hi
        rw [hi'] at HE ⊢
        have HR := Lib.hid (HBad.out (by rw [HE.out]; rfl))
        have HR2 : Hid (faultsS es = ⟨#[]⟩) := Lib.hid (by unfold faultsS; rw [HR.out]; rfl)
        clear hi hi'
        go_wp2
        go_ret2
        exact ⟨by rw [HR.out, HR2.out]; rfl, HBa.out⟩
    · have HT : es.take k = es := List.take_of_length_le (by omega)
      rw [HT] at hA hL ⊢
      by_cases h1 : es.length ≤ 100
      · have HR : Hid (faultsB es = true) := Lib.hid (by unfold faultsB; rw [hA]; simpa using h1)
        have HR2 : Hid (faultsS es = bs (faultsT es)) := Lib.hid (by unfold faultsS; rw [HR.out]; rfl)
        have h2 : ¬ ((es.length : Int) > 100) := by omega
        clear hA
        go_wp2
        go_ret2
        exact ⟨by rw [HR.out, HR2.out]; rfl, hB⟩
      · have HR : Hid (faultsB es = false) := Lib.hid (by unfold faultsB; simp; intro _; omega)
        have HR2 : Hid (faultsS es = ⟨#[]⟩) := Lib.hid (by unfold faultsS; rw [HR.out]; rfl)
        have h2 : (es.length : Int) > 100 := by omega
        clear hA
        go_wp2
        go_ret2
        exact ⟨by rw [HR.out, HR2.out]; rfl, hB⟩
end Go.Proofs.YthobfdcomcknoaaDoor
