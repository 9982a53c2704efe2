/-
  Joined: LookA LookB.
  Conditions: as each states.
-/
import Derived.Laws.Cover1
import Derived.BigRegion
import Derived.Deep.RegionHeld3
import Derived.Test.YtknhacblialboaaGreatDoorLib4
import Derived.Test.YtknhacblialboaaGreatDoorLib6
namespace Go.Proofs.YtknhacblialboaaGreatDoor
open Go.ChangeShapes Go.WideShapes Go.ChangeAt Go.RowKit Go.Joins
set_option linter.unusedVariables false
set_option linter.unusedSimpArgs false
set_option maxHeartbeats 16000000
theorem atE_drop {es : List Ent} {k : Nat} {p : List UInt8} (h : k < es.length) : atE (es.drop k) p = if es[k].name = p then es[k].node else atE (es.drop (k + 1)) p := by
 rw [List.drop_eq_getElem_cons h, atE]
theorem bytes_neL {l : List UInt8} {p : ByteArray} (h : l ≠ p.data.toList) : ((bs l).toList == p.toList) = false := by
 rw [beq_eq_false_iff_ne]
 intro e
 rw [ByteArray.toList_eq, ByteArray.toList_eq] at e
 exact h (by simpa [bs] using e)
theorem l3At_any (es : List Ent) (v : Value) (p : ByteArray) (w : World) (hR : EntsA w v es) (hs : es.length ≤ 1048576) : Calls Tryz.prog 64 #[v, .string p] w fun e w' => e = .returned (.int .i64 (atE es p.data.toList)) ∧ Below w.heap.size w w' := by
 obtain ⟨o, c, rfl, hm, hH⟩ := hR
 have HH := qhZ hH
 clear hH
 unfold maxLen at hm
 go_enter Tryz.func64, Tryz.ntmps64
 go_wp2
 go_loopw [9] (fun i wr => ∃ k : Nat, k ≤ es.length ∧ i = .int .i64 k ∧ atE es p.data.toList = atE (es.drop k) p.data.toList ∧ Below w.heap.size w wr) (fun i _ => es.length - (intOf i).toNat)
 case atStart => exact ⟨0, Nat.zero_le _, rfl, rfl, Below.refl _ _⟩
 case round =>
   obtain ⟨k, hk, rfl, hA, hB⟩ := hrel
   have HA := qhZ hA
   clear hA
   by_cases hlt : k < es.length
   · obtain ⟨g, off, rfl, hg, hc1, hc2, hml⟩ := HH.out k hlt
     have HD := qhZ (atE_drop (p := p.data.toList) hlt)
     have d1 := (hB.cell (p := ⟨g, off + k * 2, none⟩) hg).trans hc1
     have d2 := (hB.cell (p := ⟨g, off + k * 2 + 1, none⟩) hg).trans hc2
     clear hc1 hc2 hml
     by_cases he : es[k].name = p.data.toList
     · have HF : Hid (atE es p.data.toList = es[k].node) := qhZ (by rw [HA.out, HD.out, if_pos he])
       have hp : bs es[k].name = p := by rw [he, bs_of]
       rw [hp] at d1
       clear he hp
       go_wp2
       go_ret
       exact ⟨ret_int HF.out.symm, hB.alloc hB.size _⟩
     · have HF : Hid (atE es p.data.toList = atE (es.drop (k + 1)) p.data.toList) := qhZ (by rw [HA.out, HD.out, if_neg he])
       have hb := bytes_neL he
       obtain ⟨x, hx⟩ : ∃ x, x = bs es[k].name := ⟨_, rfl⟩
       rw [← hx] at d1 hb
       clear he hx
       go_wp2
       go_roundw
       case rel => exact ⟨k + 1, hlt, by go_num, HF.out, hB.alloc hB.size _⟩
       case measure => simp [intOf]; omega
   · have HF : Hid (atE es p.data.toList = -1) := qhZ (by rw [HA.out, List.drop_eq_nil_of_le (by omega)]; rfl)
     go_wp2
     go_ret
     exact ⟨ret_int HF.out.symm, hB⟩
theorem l4May_any (f : FsD) (v : Value) (u g : Int) (m : Nat) (want : Int) (w : World) (hR : FsA w v f) (hm : m < f.nodes.length) (hmo : inB 0 511 (aC9 f.nodes m).mode = true) (hs : f.nodes.length ≤ 1048576) :
   Calls Tryz.prog 105 #[v, .agg #[.int .i64 u, .int .i64 g], .int .i64 (m : Int), .int .i64 want] w fun e w' => e = .returned (.bool (mayB u g (aC9 f.nodes m).mode (aC9 f.nodes m).uid (aC9 f.nodes m).gid want)) ∧ Below w.heap.size w w' := by
 obtain ⟨nv, rfl, hN⟩ := hR
 obtain ⟨o, c, rfl, hmm, hH⟩ := hN
 unfold maxLen at hmm
 obtain ⟨gg, off, lv, rfl, hg, hcc, he, -⟩ := hH m hm
 have e : f.nodes[m] = aC9 f.nodes m := (aR9 hm).symm
 rw [e] at hcc he
 obtain ⟨q, hq⟩ : ∃ q, q = aC9 f.nodes m := ⟨_, rfl⟩
 rw [← hq] at hcc hmo he ⊢
 obtain ⟨o2, c2, rfl, -, -⟩ := he
 obtain ⟨h0, h1⟩ := inB_t hmo
 have hb2 : ∀ a b, Below w.heap.size w ((w.alloc a).alloc b) := fun a b => ((Below.refl _ _).alloc (Nat.le_refl _) _).alloc (by simp) _
 have HB3 : Hid (∀ a b x, Below w.heap.size w (((w.alloc a).alloc b).alloc x)) := qhZ (fun a b x => (hb2 a b).alloc (hb2 a b).size x)
 obtain ⟨d0, d1, d2, d3, d4, d5, d6⟩ := hcc.below (hb2 (.cells #[.slice (some ⟨gg, off, none⟩) f.nodes.length c, .int .i64 f.room] 30) (.cells #[.int .i64 u, .int .i64 g] 34)) hg
 clear hcc hmo hq e hb2 hH
 go_enter Tryz.func105, Tryz.ntmps105
 go_wp2_with fail
 refine (l1May_any u g q.mode q.uid q.gid want _ h0 h1).mono ?_
 rintro e w1 ⟨rfl, hb1⟩
 have HB1 := qhZ ((HB3.out _ _ _).trans (hb1.mono (HB3.out _ _ _).size))
 clear hb1
 go_wp2
 go_ret
 exact ⟨rfl, HB1.out⟩
def bD9 (o : Option Addr) (n c : Nat) (room u g : Int) (node : Nat) (pv : Value) (hops : Nat) : Array Value := #[.slice o n c, .int .i64 room, .int .i64 u, .int .i64 g, .int .i64 (node : Int), pv, .int .i64 (hops : Int)]
structure LookFs (f : FsD) : Prop where
 size : szF f ≤ 1048576
 lead : Lead f.nodes
 fit : LinksFit f.nodes
 pos : 0 < f.nodes.length
 mode : ∀ i, i < f.nodes.length → (aC9 f.nodes i).kind ≠ 0 → inB 0 511 (aC9 f.nodes i).mode = true
theorem step_no (f : FsD) (o : Option Addr) (c : Nat) (u g : Int) (fol : Bool) (b node hops : Nat) (pv : Value) (w : World) (hN : NodsA w (.slice o f.nodes.length c) f.nodes) (hb : w.heap[b]? = some (.cells (bD9 o f.nodes.length c f.room u g node pv hops) 140 (0, 0))) (hn : node < f.nodes.length) (hs : f.nodes.length ≤ 1048576)
   (hk : (aC9 f.nodes node).kind ≠ 2) : Calls Tryz.prog 114 #[.pointer (some ⟨b, 0, none⟩), .bool fol] w fun e w' => e = .returned (.int .i64 3) ∧ Below w.heap.size w w' := by
 have c0 : w.cell? ⟨b, 0, none⟩ = some (.slice o f.nodes.length c) := aA9 hb 0
 have c4 : w.cell? ⟨b, 4, none⟩ = some (.int .i64 (node : Int)) := aA9 hb 4
 obtain ⟨o', c', e1, hmm, hH⟩ := hN
 simp only [Value.slice.injEq, true_and] at e1
 obtain ⟨rfl, rfl⟩ := e1
 unfold maxLen at hmm
 obtain ⟨gg, off, lv, rfl, hg, hcc, he, -⟩ := hH node hn
 have e : f.nodes[node] = aC9 f.nodes node := (aR9 hn).symm
 rw [e] at hcc he
 obtain ⟨q, hq⟩ : ∃ q, q = aC9 f.nodes node := ⟨_, rfl⟩
 rw [← hq] at hcc hk he
 obtain ⟨o2, c2, rfl, -, -⟩ := he
 obtain ⟨d0, d1, d2, d3, d4, d5, d6⟩ := hcc
 have hkb : (q.kind == 2) = false := beq_eq_false_iff_ne.2 hk
 have hkc : (q.kind != 2) = true := by rw [bne_iff_ne]; exact hk
 have hbs := aB9 hb
 have hne1 : w.heap.size ≠ b := by omega
 have hne2 : w.heap.size ≠ gg := by omega
 clear hq e hH hb hk
 go_enter Tryz.func114, Tryz.ntmps114
 go_wp2
 go_region
 go_wp2
 go_ret
 exact ⟨rfl, ((Below.refl _ _).alloc (Nat.le_refl _) _).drew⟩
end Go.Proofs.YtknhacblialboaaGreatDoor
