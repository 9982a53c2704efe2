
/-
  The model's text of lines.
  Conditions: as each states.
-/
import Derived.Test.YtfieedmeplddjaaDoorDuA
import Derived.Test.YtfieedmeplddjaaDoorLinA
import Derived.Test.YtfieedmeplddjaaDoorInC
namespace Go.Proofs.YtfieedmeplddjaaDoor
open Go.ChangeShapes Go.WideShapes Go.ChangeAt Go.RowKit Go.Joins
set_option linter.unusedVariables false

theorem l1Num_any (n : Nat) : NumSays n := by
  induction n using Nat.strongRecOn with
  | ind n ih => exact l1Num_step n ih

/-- A line that has a text, and its text. -/
def lineB (e : Ent) : Bool := inB 0 1000000 e.node && formB e.name
def lineT (e : Ent) : List UInt8 := Lib.decDigits e.node.toNat ++ [9] ++ e.name ++ [10]
theorem lineT_len {e : Ent} (h : lineB e = true) : (lineT e).length ≤ e.name.length + 1000003 := by
  unfold lineB inB at h
  simp at h
  have h1 := dd_len e.node.toNat
  unfold lineT
  simp only [List.length_append, List.length_cons, List.length_nil]
  omega
/-- The text of all of them. -/
def linesT (es : List Ent) : List UInt8 := es.flatMap lineT
def linesB (es : List Ent) : Bool := es.all lineB && decide (es.length ≤ 100)
theorem linesT_take {es : List Ent} {k : Nat} (h : k < es.length) : linesT (es.take (k + 1)) = linesT (es.take k) ++ lineT es[k] := by
  unfold linesT
  rw [List.take_succ_eq_append_getElem h, List.flatMap_append]
  simp
theorem linesB_bad {es : List Ent} {k : Nat} (h : k < es.length) (hb : lineB es[k] = false) : linesB es = false := by
  unfold linesB
  have : es.all lineB = false := by rw [List.all_eq_false]; exact ⟨_, List.getElem_mem h, by simp [hb]⟩
  rw [this]; rfl
/-- The model's answer. -/
def linesS (es : List Ent) : ByteArray := if linesB es then bs (linesT es) else ⟨#[]⟩

set_option maxHeartbeats 2000000 in
theorem specLinesText_any (es : List Ent) (v : Value) (w : World) (hR : LinsA w v es) (hl : es.length ≤ 1048576) (hs : ∀ e ∈ es, e.name.length ≤ 1048576) :
    Calls Tryd.prog 6 #[v] w fun e w' => e = .returned (.tuple #[.string (linesS es), .bool (linesB es)]) ∧ Below w.heap.size w w' := by
  obtain ⟨o, c, rfl, hm, hH⟩ := hR
  have HH := Lib.hid hH
  have HS := Lib.hid hs
  clear hH hs
  unfold maxLen at hm
  go_enter Tryd.func6, Tryd.ntmps6
  go_wp2
  go_loopw [4, 9] (fun t i wr => ∃ k : Nat, k ≤ es.length ∧ i = .int .i64 k ∧ (es.take k).all lineB = true ∧ t = .string (bs (linesT (es.take k))) ∧ (linesT (es.take k)).length ≤ k * 3000000 ∧ Below w.heap.size w wr) (fun _ i _ => es.length - (intOf i).toNat)
  case atStart => exact ⟨0, Nat.zero_le _, rfl, rfl, rfl, by simp [linesT], Below.refl _ _⟩
  case round =>
    obtain ⟨k, hk, rfl, hA, rfl, hL, hB⟩ := hrel
    by_cases hlt : k < es.length
    · obtain ⟨g, off, rfl, hg, hc1, hc2, hml⟩ := HH.out k hlt
      have d0 : wr.cell? ⟨g, off + k * 2, none⟩ = some (.int .i64 es[k].node) := (hB.cell (p := ⟨g, off + k * 2, none⟩) hg).trans hc1
      have d1 : wr.cell? ⟨g, off + k * 2 + 1, none⟩ = some (.string (bs es[k].name)) := (hB.cell (p := ⟨g, off + k * 2 + 1, none⟩) hg).trans hc2
      have hnl := HS.out _ (List.getElem_mem hlt)
      have HTk := Lib.hid (linesT_take hlt)
      have HBad := Lib.hid (linesB_bad hlt)
      have HAll : Hid (lineB es[k] = true → (es.take (k + 1)).all lineB = true) := Lib.hid (fun h => by rw [List.take_succ_eq_append_getElem hlt, List.all_append, hA]; simp [h])
      obtain ⟨n, hn⟩ : ∃ n, n = es[k].node := ⟨_, rfl⟩
      obtain ⟨p, hp⟩ : ∃ p, p = es[k].name := ⟨_, rfl⟩
      have HE : Hid (lineB es[k] = (inB 0 1000000 n && formB p)) := Lib.hid (by rw [hn, hp]; rfl)
      have HLn : Hid (lineB es[k] = true → (lineT es[k]).length ≤ p.length + 1000003) := Lib.hid (by rw [hp]; exact lineT_len)
      have HLT : Hid (lineT es[k] = Lib.decDigits n.toNat ++ [9] ++ p ++ [10]) := Lib.hid (by rw [hn, hp]; rfl)
      rw [← hn] at d0
      rw [← hp] at d1 hnl
      clear hn hp hc1 hc2 hml
      obtain ⟨x, hx⟩ : ∃ x, x = bs p := ⟨_, rfl⟩
      have hxs : x.size = p.length := by rw [hx]; exact bs_size _
      have HX : Hid (x.data.toList = p) := Lib.hid (by rw [hx]; exact bs_list _)
      have HXn : Hid (bs p = x) := Lib.hid hx.symm
      rw [← hx] at d1
      have hx1 : x.size ≤ 1073741824 := by omega
      have hx2 : x.size ≤ 1048576 := by omega
      clear hx hxs
      have HW : Hid (∀ (w2 : World), Below (wr.heap.size + 1) (wr.alloc (.cells #[.int .i64 n, .string x] 40)) w2 → w2.cell? ⟨wr.heap.size, 0, none⟩ = some (.int .i64 n) ∧ w2.cell? ⟨wr.heap.size, 1, none⟩ = some (.string x)) := Lib.hid (fun w2 h => ⟨(h.cell (p := ⟨wr.heap.size, 0, none⟩) (by simp)).trans ((World.cell?_alloc_mark wr _ _ (0, 0) 0).trans rfl), (h.cell (p := ⟨wr.heap.size, 1, none⟩) (by simp)).trans ((World.cell?_alloc_mark wr _ _ (0, 0) 1).trans rfl)⟩)
      obtain ⟨a, ha⟩ : ∃ a, a = bs (linesT (es.take k)) := ⟨_, rfl⟩
      have HAs : Hid (a.size = (linesT (es.take k)).length) := Lib.hid (by rw [ha]; exact bs_size _)
      have ha1 : a.size ≤ 3145728000000 := by rw [HAs.out]; omega
      have HAb : Hid (bs (linesT (es.take k)) = a) := Lib.hid ha.symm
      rw [← ha]
      clear ha
      have HL := Lib.hid hL
      clear hL
      have HBa := Lib.hid (hB.alloc hB.size (.cells #[.int .i64 n, .string x] 40))
      have HB := Lib.hid hB
      clear hB hA
      go_wp2_with fail
      refine (l1In_any _ _ _ _).mono ?_
      rintro e w1 ⟨rfl, rfl⟩
      by_cases hi : inB 0 1000000 n = true
      · rw [hi]
        have hn01 : 0 ≤ n ∧ n ≤ 1000000 := by unfold inB at hi; simpa using hi
        obtain ⟨m, rfl⟩ : ∃ m : Nat, n = (m : Int) := ⟨n.toNat, by omega⟩
        rw [hi] at HE
        have HHi := Lib.hid hi
        clear hi
        have c1 := (World.cell?_alloc_mark wr #[.int .i64 (m : Int), .string x] 40 (0, 0) 1).trans (show _ = some (Value.string x) from rfl)
        go_wp2_with fail
        refine (l8Way_any x _ hx1).mono ?_
        rintro e w2 ⟨rfl, hb2⟩
        rw [HX.out]
        obtain ⟨g0, g1⟩ := HW.out w2 (hb2.mono (by simp))
        have HB2 := Lib.hid (HBa.out.trans (hb2.mono (by have := HB.out.size; simp; omega)))
        have hlt2 : wr.heap.size < w2.heap.size := by have := hb2.size; simp at this; omega
        clear hb2 c1
        by_cases hf : formB p = true
        · rw [hf] at HE ⊢
          have hm : m ≤ 1000000 := by omega
          have HN := Lib.hid (fun w => l1Num_any m hm w)
          obtain ⟨y, hy⟩ : ∃ y, y = bs (Lib.decDigits m) := ⟨_, rfl⟩
          have hys : y.size ≤ 1000001 := by rw [hy, bs_size]; have := dd_len m; omega
          rw [← hy] at HN
          have HV : Hid (a ++ (y ++ ⟨#[9]⟩ ++ x ++ ⟨#[10]⟩) = bs (linesT (es.take (k + 1)))) := Lib.hid (by
            rw [HTk.out, HLT.out, ← bs_app, ← bs_app, ← bs_app, ← bs_app, HAb.out, HXn.out, hy]; rfl)
          have HLen : Hid ((linesT (es.take (k + 1))).length ≤ (k + 1) * 3000000) := Lib.hid (by
            have h1 := HLn.out HE.out
            have h2 := HL.out
            rw [HTk.out, List.length_append]; omega)
          have HAll2 := Lib.hid (HAll.out HE.out)
          clear hy hf hnl hn01
          have s1 : y.size + 1 ≤ 9223372036854775807 := by omega
          have s2 : y.size + 1 + x.size ≤ 9223372036854775807 := by omega
          have s3 : y.size + 1 + x.size + 1 ≤ 9223372036854775807 := by omega
          have s4 : a.size + (y.size + 1 + x.size + 1) ≤ 9223372036854775807 := by omega
          go_wp2
          go_region_with (first | (go_at_call 18; (with_reducible refine (HN.out _).mono ?_); rintro e w3 ⟨rfl, hb3⟩; have q0 : w3.cell? ⟨wr.heap.size, 0, none⟩ = some (.int .i64 (m : Int)) := (hb3.cell (p := ⟨wr.heap.size, 0, none⟩) hlt2).trans g0; have q1 : w3.cell? ⟨wr.heap.size, 1, none⟩ = some (.string x) := (hb3.cell (p := ⟨wr.heap.size, 1, none⟩) hlt2).trans g1; have HB3 : Hid (Below w.heap.size w w3) := Lib.hid (HB2.out.drew.trans (hb3.mono (HB2.out.size))); clear hb3))
          all_goals
            go_wp2
            go_roundw
            case rel => exact ⟨k + 1, hlt, by go_num, HAll2.out, by rw [HV.out], HLen.out, HB3.out⟩
            case measure => simp [intOf]; omega
        · have hf' : formB p = false := by simpa using hf
          rw [hf'] at HE ⊢
          have HR := Lib.hid (HBad.out (by rw [HE.out]; rfl))
          have HR2 : Hid (linesS es = ⟨#[]⟩) := Lib.hid (by unfold linesS; rw [HR.out]; rfl)
          clear hf hf'
          go_wp2
          go_ret2
          exact ⟨by rw [HR.out, HR2.out]; rfl, HB2.out⟩
      · have hi' : inB 0 1000000 n = false := by simpa using hi
        rw [hi'] at HE ⊢
        have HR := Lib.hid (HBad.out (by rw [HE.out]; rfl))
        have HR2 : Hid (linesS es = ⟨#[]⟩) := Lib.hid (by unfold linesS; rw [HR.out]; rfl)
        clear hi hi'
        go_wp2
        go_ret2
        exact ⟨by rw [HR.out, HR2.out]; rfl, HBa.out⟩
    · have HT : es.take k = es := List.take_of_length_le (by omega)
      rw [HT] at hA hL ⊢
      by_cases h1 : es.length ≤ 100
      · have HR : Hid (linesB es = true) := Lib.hid (by unfold linesB; rw [hA]; simpa using h1)
        have HR2 : Hid (linesS es = bs (linesT es)) := Lib.hid (by unfold linesS; rw [HR.out]; rfl)
        have h2 : ¬ ((es.length : Int) > 100) := by omega
        clear hA
        go_wp2
        go_ret2
        exact ⟨by rw [HR.out, HR2.out]; rfl, hB⟩
      · have HR : Hid (linesB es = false) := Lib.hid (by unfold linesB; simp; intro _; omega)
        have HR2 : Hid (linesS es = ⟨#[]⟩) := Lib.hid (by unfold linesS; rw [HR.out]; rfl)
        have h2 : (es.length : Int) > 100 := by omega
        clear hA
        go_wp2
        go_ret2
        exact ⟨by rw [HR.out, HR2.out]; rfl, hB⟩
end Go.Proofs.YtfieedmeplddjaaDoor
