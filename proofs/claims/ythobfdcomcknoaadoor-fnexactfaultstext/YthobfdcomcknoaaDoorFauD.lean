
/-
  The program's text of faults.
  Conditions: paths of at most a million bytes; the table of the codes' words stands.
-/
import Derived.Test.YthobfdcomcknoaaDoorFauC
import Derived.Test.YthobfdcomcknoaaDoorShelf
import Derived.Test.YthobfdcomcknoaaDoorBldA
namespace Go.Proofs.YthobfdcomcknoaaDoor
open Go.ChangeShapes Go.WideShapes Go.ChangeAt Go.RowKit Go.Joins
set_option linter.unusedVariables false

/-- A builder stands through a call that leaves all older blocks as they are. -/
theorem bld_below {B b : Nat} {p : Value} {l : List Value} {w w' : World} (h : Lib.BuilderAtF 46 5 B b p l w) (hb : Below w.heap.size w w') : Lib.BuilderAtF 46 5 B b p l w' := by
  obtain ⟨hB, v, hk, ⟨hl, ho⟩, hne⟩ := h
  have hlt := (bld_cells hk).2.2.2
  refine ⟨hB, v, (hb.block b hlt).trans hk, ⟨hl, ?_⟩, hne⟩
  rcases ho with h | ⟨g, cap, cur, fz, e, h1, h2, h3⟩
  · exact .inl h
  · refine .inr ⟨g, cap, cur, fz, e, h1, (hb.block g ?_).trans h2, h3⟩
    rcases Nat.lt_or_ge g w.heap.size with h | h
    · exact h
    · rw [Array.getElem?_eq_none h] at h2; cases h2
theorem isBld_below {B b : Nat} {l : List Value} {w w' : World} (h : Lib.IsBuilderF 46 5 B b l w) (hb : Below w.heap.size w w') : Lib.IsBuilderF 46 5 B b l w' :=
  h.imp (fun h => bld_below h hb) (fun h => bld_below h hb)

theorem fault_one (e : Ent) : faultB e = (inB 1 10 e.node && formB (bs e.name).data.toList) := by rw [bs_list]; rfl
theorem fault_two {e : Ent} (h : faultB e = true) : faultS1 e.node (bs e.name).data.toList = bs (faultT e) := by
  have h1 := fault_one e
  rw [h] at h1
  unfold faultS1
  rw [← h1, if_pos rfl, bs_list]; rfl

set_option maxHeartbeats 2000000 in
theorem textOfFaults_any (es : List Ent) (v : Value) (w : World) (hR : FltsA w v es) (hl : es.length ≤ 1048576) (hs : ∀ e ∈ es, e.name.length ≤ 1048576) (hT : ∀ w' : World, Below w.heap.size w w' → Tab4 w') :
    Calls Tryd.prog 14 #[v, .func (.func 15) #[] #[]] w fun e w' => e = .returned (.tuple #[.string (faultsS es), .bool (faultsB es)]) ∧ Below w.heap.size w w' := by
  obtain ⟨o, c, rfl, hm, hH⟩ := hR
  have HH := Lib.hid hH
  have HS := Lib.hid hs
  have HT := Lib.hid hT
  clear hH hs hT
  unfold maxLen at hm
  have eL : ∀ args w, (callFunc 15 args).run Tryd.prog w = .ok (.enter 15 args) w := enters_of Tryd.func15 (by kernel_rfl) rfl
  by_cases h100 : es.length ≤ 100
  · have h2 : ¬ ((es.length : Int) > 100) := by omega
    have HBl : Hid (Lib.IsBuilderF 46 5 w.heap.size w.heap.size (Lib.byteCells (faultsT (es.take 0))) (w.alloc (.cells #[.pointer none, .slice none 0 0] 46))) := Lib.hid (.of (Lib.fresh_isBuilder _ _ _))
    have HB0 := Lib.hid ((Below.refl w.heap.size w).alloc (Nat.le_refl _) (.cells #[.pointer none, .slice none 0 0] 46))
    have h2' : ¬ (100 < (es.length : Int)) := by omega
    go_enter Tryd.func14, Tryd.ntmps14
    go_wp2
    go_loopw [16] (fun i wr => ∃ k : Nat, k ≤ es.length ∧ i = .int .i64 k ∧ (es.take k).all faultB = true ∧ (faultsT (es.take k)).length ≤ k * 3000000 ∧ Lib.IsBuilderF 46 5 w.heap.size w.heap.size (Lib.byteCells (faultsT (es.take k))) wr ∧ Below w.heap.size w wr) (fun i _ => es.length - (intOf i).toNat)
    case atStart => exact ⟨0, Nat.zero_le _, rfl, rfl, by simp [faultsT], HBl.out, HB0.out⟩
    case round =>
      obtain ⟨k, hk, rfl, hA, hL, hbd, hB⟩ := hrel
      by_cases hlt : k < es.length
      · obtain ⟨g, off, rfl, hg, hc1, hc2, hml⟩ := HH.out k hlt
        have d1 : wr.cell? ⟨g, off + k * 2, none⟩ = some (.string (bs es[k].name)) := (hB.cell (p := ⟨g, off + k * 2, none⟩) hg).trans hc1
        have d0 : wr.cell? ⟨g, off + k * 2 + 1, none⟩ = some (.int .i64 es[k].node) := (hB.cell (p := ⟨g, off + k * 2 + 1, none⟩) hg).trans hc2
        have hnl := HS.out _ (List.getElem_mem hlt)
        have HTk := Lib.hid (faultsT_take hlt)
        have HBad := Lib.hid (faultsB_bad hlt)
        have HAll : Hid (faultB es[k] = true → (es.take (k + 1)).all faultB = true) := Lib.hid (fun h => by rw [List.take_succ_eq_append_getElem hlt, List.all_append, hA]; simp [h])
        obtain ⟨x, hx⟩ : ∃ x, x = bs es[k].name := ⟨_, rfl⟩
        obtain ⟨n, hn⟩ : ∃ n, n = es[k].node := ⟨_, rfl⟩
        have HE : Hid (faultB es[k] = (inB 1 10 n && formB x.data.toList)) := Lib.hid (by rw [hx, hn]; exact fault_one _)
        have HE2 : Hid (faultB es[k] = true → faultS1 n x.data.toList = bs (faultT es[k])) := Lib.hid (by rw [hx, hn]; exact fault_two)
        have HLn : Hid (faultB es[k] = true → (faultT es[k]).length ≤ es[k].name.length + 1000003) := Lib.hid faultT_len
        have hx1 : x.size ≤ 1048576 := by rw [hx, bs_size]; exact hnl
        rw [← hx] at d1
        rw [← hn] at d0
        clear hx hn hc1 hc2 hml
        have HBd := Lib.hid hbd
        have HL := Lib.hid hL
        have HBa := Lib.hid (hB.alloc hB.size (.cells #[.string x, .int .i64 n] 33))
        have HB := Lib.hid hB
        clear hbd hL hB hA
        have HTa : Hid (∀ w' : World, Below (wr.alloc (.cells #[.string x, .int .i64 n] 33)).heap.size (wr.alloc (.cells #[.string x, .int .i64 n] 33)) w' → Tab4 w') := Lib.hid (fun w' h => HT.out w' (HBa.out.trans (h.mono (by have := HB.out.size; simp; omega))))
        go_wp2_with fail
        refine (faultText_any n x _ hx1 HTa.out).mono ?_
        rintro e w2 ⟨rfl, hb2⟩
        have HBd2 := Lib.hid (isBld_below (HBd.out.alloc (.cells #[.string x, .int .i64 n] 33)) hb2)
        have HB2 := Lib.hid (HBa.out.trans (hb2.mono (by have := HB.out.size; simp; omega)))
        clear hb2
        rw [← HE.out]
        by_cases hg1 : faultB es[k] = true
        · rw [HE2.out hg1, hg1]
          have HLen : Hid ((faultsT (es.take (k + 1))).length ≤ (k + 1) * 3000000) := Lib.hid (by
            have h1 := HLn.out hg1
            have h2 := HL.out
            rw [HTk.out, List.length_append]; omega)
          have HAll2 := Lib.hid (HAll.out hg1)
          have HCz : Hid ((Lib.byteCells (faultsT (es.take k))).length + (bs (faultT es[k])).size ≤ 140737488355328) := Lib.hid (by
            have h1 := HLn.out hg1
            have h2 := HL.out
            rw [Lib.byteCells_length, bs_size]; omega)
          have HEq : Hid (Lib.byteCells (faultsT (es.take k)) ++ Lib.strCells (bs (faultT es[k])) = Lib.byteCells (faultsT (es.take (k + 1)))) := Lib.hid (by
            rw [HTk.out, Lib.byteCells_append, Lib.strCells_eq, bs_list])
          obtain ⟨y, hy⟩ : ∃ y, y = bs (faultT es[k]) := ⟨_, rfl⟩
          rw [← hy] at HCz HEq ⊢
          clear hy hg1 hnl
          go_wp2_with (go_at_call 19; refine (writeString_any w.heap.size w.heap.size _ y _ HBd2.out HCz.out HB2.out.size).mono ?_)
          rintro e w3 ⟨rfl, hw3, hb3, -⟩
          rw [HEq.out] at hw3
          have HB3 := Lib.hid (HB2.out.trans hb3)
          have HBd3 := Lib.hid hw3
          clear hw3 hb3
          go_wp2
          go_roundw
          case rel => exact ⟨k + 1, hlt, by go_num, HAll2.out, HLen.out, .inr HBd3.out, HB3.out⟩
          case measure => simp [intOf]; omega
        · have hg2 : faultB es[k] = false := by simpa using hg1
          have HR := Lib.hid (HBad.out hg2)
          have HR2 : Hid (faultsS es = ⟨#[]⟩) := Lib.hid (by unfold faultsS; rw [HR.out]; rfl)
          rw [hg2]
          clear hg1 hg2
          go_wp2
          go_ret2
          exact ⟨by rw [HR.out, HR2.out]; rfl, HB2.out⟩
      · have HTt : es.take k = es := List.take_of_length_le (by omega)
        rw [HTt] at hA hbd
        have HR : Hid (faultsB es = true) := Lib.hid (by unfold faultsB; rw [hA]; simpa using h100)
        have HR2 : Hid (faultsS es = bs (faultsT es)) := Lib.hid (by unfold faultsS; rw [HR.out]; rfl)
        clear hA hL
        have HB := Lib.hid hB
        have HBd := Lib.hid hbd
        clear hB hbd
        go_wp2_with (go_at_call 20; refine (Tryd.Builder_String_any_f w.heap.size w.heap.size _ _ HBd.out HB.out.size).mono ?_)
        rintro e w3 ⟨rfl, -, hb3⟩
        have HB3 := Lib.hid (HB.out.trans hb3)
        clear hb3
        go_wp2
        go_ret2
        exact ⟨by rw [HR.out, HR2.out]; rfl, HB3.out⟩
  · have h2 : (es.length : Int) > 100 := by omega
    have h2' : 100 < (es.length : Int) := h2
    have HR : Hid (faultsB es = false) := Lib.hid (by unfold faultsB; simp; intro _; omega)
    have HR2 : Hid (faultsS es = ⟨#[]⟩) := Lib.hid (by unfold faultsS; rw [HR.out]; rfl)
    go_enter Tryd.func14, Tryd.ntmps14
    go_wp2
    go_ret2
    exact ⟨by rw [HR.out, HR2.out]; rfl, Below.refl _ _⟩
end Go.Proofs.YthobfdcomcknoaaDoor
