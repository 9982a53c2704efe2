/-
  Joined: LookM LookA LookB.
  Conditions: as each states.
-/
import Derived.Laws.Cover1
import Derived.BigRegion
import Derived.Deep.RegionHeld3
import Derived.Test.YtjomkjnpflebaaaGreatDoorLib4
import Derived.Test.YtjomkjnpflebaaaGreatDoorLib6

/-
  Looking a path up in a file system, as plain data: one step, all steps, what is found.
  Conditions: as each states.
-/
namespace Go.Proofs.YtjomkjnpflebaaaGreatDoor
open Go.ChangeShapes Go.WideShapes Go.ChangeAt Go.RowKit Go.Joins
set_option linter.unusedVariables false

def nodeAt (ns : List Nod) (i : Nat) : Nod := ns.getD i ⟨0, 0, 0, 0, 0, [], []⟩
/-- The node of a name in a list, -1 where it is not there. -/
def atE : List Ent → List UInt8 → Int
  | [], _ => -1
  | e :: es, p => if e.name = p then e.node else atE es p
/-- Where a look is: the node so far, the parts to come, how many links there were. -/
structure Lk where
  node : Nat
  parts : List (List UInt8)
  hops : Nat
/-- One step at the part p with r behind it: a code, and where the look is then. -/
def lkStep (ns : List Nod) (u g : Int) (fol : Bool) (node : Nat) (p : List UInt8) (r : List (List UInt8)) (hops : Nat) : Int × Lk :=
  if (nodeAt ns node).kind ≠ 2 then (3, ⟨0, [], 0⟩)
  else if mayB u g (nodeAt ns node).mode (nodeAt ns node).uid (nodeAt ns node).gid 1 = false then (4, ⟨0, [], 0⟩)
  else if p = [46] then (0, ⟨node, r, hops⟩)
  else if p = [46, 46] then (0, ⟨parentOf (node : Int) ns, r, hops⟩)
  else if atE (nodeAt ns node).list p < 0 then (2, ⟨0, [], 0⟩)
  else if (nodeAt ns (atE (nodeAt ns node).list p).toNat).kind ≠ 3 ∨ (r = [] ∧ fol = false) then (0, ⟨(atE (nodeAt ns node).list p).toNat, r, hops⟩)
  else if hops = 8 then (5, ⟨0, [], 0⟩)
  else (0, ⟨if wholeB (nodeAt ns (atE (nodeAt ns node).list p).toNat).data = true then 0 else node, parts (nodeAt ns (atE (nodeAt ns node).list p).toNat).data ++ r, hops + 1⟩)
/-- All steps, n at most. -/
def lkRun (ns : List Nod) (u g : Int) (fol : Bool) : Nat → Lk → Int × Nat
  | 0, s => (0, s.node)
  | n + 1, ⟨node, [], _⟩ => (0, node)
  | n + 1, ⟨node, p :: r, hops⟩ => if (lkStep ns u g fol node p r hops).1 ≠ 0 then ((lkStep ns u g fol node p r hops).1, 0) else lkRun ns u g fol n (lkStep ns u g fol node p r hops).2
def lkW (s : Lk) : Nat := (8 - s.hops) * 64 + s.parts.length
def lkGo (ns : List Nod) (u g : Int) (fol : Bool) (s : Lk) : Int × Nat := lkRun ns u g fol (lkW s + 1) s

/-- Every link's text is short. -/
def LinksFit (ns : List Nod) : Prop := ∀ i, (nodeAt ns i).kind = 3 → (parts (nodeAt ns i).data).length ≤ 61
theorem step_less {ns : List Nod} (hf : LinksFit ns) {u g : Int} {fol : Bool} {node : Nat} {p : List UInt8} {r : List (List UInt8)} {hops : Nat} (hh : hops ≤ 8) (h0 : (lkStep ns u g fol node p r hops).1 = 0) :
    lkW (lkStep ns u g fol node p r hops).2 < lkW ⟨node, p :: r, hops⟩ ∧ (lkStep ns u g fol node p r hops).2.hops ≤ 8 := by
  unfold lkStep at h0 ⊢
  by_cases h1 : (nodeAt ns node).kind ≠ 2
  · rw [if_pos h1] at h0; simp at h0
  rw [if_neg h1] at h0 ⊢
  by_cases h2 : mayB u g (nodeAt ns node).mode (nodeAt ns node).uid (nodeAt ns node).gid 1 = false
  · rw [if_pos h2] at h0; simp at h0
  rw [if_neg h2] at h0 ⊢
  by_cases h3 : p = [46]
  · rw [if_pos h3]; simp [lkW]; omega
  rw [if_neg h3] at h0 ⊢
  by_cases h4 : p = [46, 46]
  · rw [if_pos h4]; simp [lkW]; omega
  rw [if_neg h4] at h0 ⊢
  by_cases h5 : atE (nodeAt ns node).list p < 0
  · rw [if_pos h5] at h0; simp at h0
  rw [if_neg h5] at h0 ⊢
  by_cases h6 : (nodeAt ns (atE (nodeAt ns node).list p).toNat).kind ≠ 3 ∨ (r = [] ∧ fol = false)
  · rw [if_pos h6]; simp [lkW]; omega
  rw [if_neg h6] at h0 ⊢
  by_cases h7 : hops = 8
  · rw [if_pos h7] at h0; simp at h0
  rw [if_neg h7]
  have h8 := hf (atE (nodeAt ns node).list p).toNat (by
    by_cases hk : (nodeAt ns (atE (nodeAt ns node).list p).toNat).kind = 3
    · exact hk
    · exact absurd (.inl hk) h6)
  simp [lkW]
  omega
theorem lkRun_more {ns : List Nod} (hf : LinksFit ns) (u g : Int) (fol : Bool) : ∀ (n m : Nat) (s : Lk), s.hops ≤ 8 → lkW s < n → lkW s < m → lkRun ns u g fol n s = lkRun ns u g fol m s
  | 0, _, _, _, h, _ => absurd h (Nat.not_lt_zero _)
  | n + 1, 0, _, _, _, h => absurd h (Nat.not_lt_zero _)
  | n + 1, m + 1, ⟨node, [], hops⟩, _, _, _ => rfl
  | n + 1, m + 1, ⟨node, p :: r, hops⟩, hh, hn, hm => by
    rw [lkRun, lkRun]
    by_cases h0 : (lkStep ns u g fol node p r hops).1 = 0
    · rw [if_neg (by rw [h0]; simp), if_neg (by rw [h0]; simp)]
      obtain ⟨h1, h2⟩ := step_less (hops := hops) hf (show hops ≤ 8 from hh) h0
      exact lkRun_more hf u g fol n m _ h2 (by omega) (by omega)
    · rw [if_pos h0, if_pos h0]
theorem lkGo_nil (ns : List Nod) (u g : Int) (fol : Bool) (node hops : Nat) : lkGo ns u g fol ⟨node, [], hops⟩ = (0, node) := rfl
theorem lkGo_stop {ns : List Nod} {u g : Int} {fol : Bool} {node : Nat} {p : List UInt8} {r : List (List UInt8)} {hops : Nat} (h : (lkStep ns u g fol node p r hops).1 ≠ 0) :
    lkGo ns u g fol ⟨node, p :: r, hops⟩ = ((lkStep ns u g fol node p r hops).1, 0) := by
  unfold lkGo
  rw [lkRun, if_pos h]
theorem lkGo_step {ns : List Nod} (hf : LinksFit ns) {u g : Int} {fol : Bool} {node : Nat} {p : List UInt8} {r : List (List UInt8)} {hops : Nat} (hh : hops ≤ 8) (h : (lkStep ns u g fol node p r hops).1 = 0) :
    lkGo ns u g fol ⟨node, p :: r, hops⟩ = lkGo ns u g fol (lkStep ns u g fol node p r hops).2 := by
  obtain ⟨h1, h2⟩ := step_less hf hh h
  unfold lkGo
  rw [lkRun, if_neg (by rw [h]; simp)]
  exact lkRun_more hf u g fol _ _ _ h2 (by omega) (by omega)

def slashB (l : List UInt8) : Bool := l.getLast? == some 47
/-- What FindNode finds: a code and a node. -/
def lkFind (ns : List Nod) (u g : Int) (l : List UInt8) (fol : Bool) : Int × Nat :=
  if goodB l = true ∧ wholeB l = true then
    if (lkGo ns u g (fol || slashB l) ⟨0, parts l, 0⟩).1 ≠ 0 then ((lkGo ns u g (fol || slashB l) ⟨0, parts l, 0⟩).1, 0)
    else if slashB l = true ∧ (nodeAt ns (lkGo ns u g (fol || slashB l) ⟨0, parts l, 0⟩).2).kind ≠ 2 then (3, 0)
    else (0, (lkGo ns u g (fol || slashB l) ⟨0, parts l, 0⟩).2)
  else (1, 0)
theorem linksFit_of {ns : List Nod} (h : ∀ n ∈ ns, nodOkI ns.length n = true) : LinksFit ns := by
  intro i hk
  have hi : i < ns.length := by
    by_cases hi : i < ns.length
    · exact hi
    · unfold nodeAt at hk
      simp [List.getD, List.getElem?_eq_none (Nat.le_of_not_lt hi)] at hk
  have e : nodeAt ns i = ns[i] := getD_at hi
  rw [e] at hk ⊢
  have h1 := h _ (List.getElem_mem hi)
  unfold nodOkI at h1
  rw [if_neg (by omega), if_neg (by omega), if_neg (by omega)] at h1
  simp only [Bool.and_eq_true] at h1
  have h2 : goodB ns[i].data = true := h1.2.2.2.2.2.1
  have h3 : ns[i].data.length ≤ 60 := by simp [goodB] at h2; exact h2.1.2
  have := parts_le ns[i].data
  omega
end Go.Proofs.YtjomkjnpflebaaaGreatDoor


/-
  Contracts of the model's l3At and l4May.
  Conditions: lists of at most 2^20 entries; a node that is there, with a mode.
-/
namespace Go.Proofs.YtjomkjnpflebaaaGreatDoor
open Go.ChangeShapes Go.WideShapes Go.ChangeAt Go.RowKit Go.Joins
set_option linter.unusedVariables false
set_option linter.unusedSimpArgs false

theorem atE_drop {es : List Ent} {k : Nat} {p : List UInt8} (h : k < es.length) : atE (es.drop k) p = if es[k].name = p then es[k].node else atE (es.drop (k + 1)) p := by
  rw [List.drop_eq_getElem_cons h, atE]
theorem bytes_neL {l : List UInt8} {p : ByteArray} (h : l ≠ p.data.toList) : ((bs l).toList == p.toList) = false := by
  rw [beq_eq_false_iff_ne]
  intro e
  rw [ByteArray.toList_eq, ByteArray.toList_eq] at e
  exact h (by simpa [bs] using e)
set_option maxHeartbeats 2000000 in
theorem l3At_any (es : List Ent) (v : Value) (p : ByteArray) (w : World) (hR : EntsA w v es) (hs : es.length ≤ 1048576) : Calls Tryz.prog 57 #[v, .string p] w fun e w' => e = .returned (.int .i64 (atE es p.data.toList)) ∧ Below w.heap.size w w' := by
  obtain ⟨o, c, rfl, hm, hH⟩ := hR
  have HH := Lib.hid hH
  clear hH
  unfold maxLen at hm
  go_enter Tryz.func57, Tryz.ntmps57
  go_wp2
  go_loopw [9] (fun i wr => ∃ k : Nat, k ≤ es.length ∧ i = .int .i64 k ∧ atE es p.data.toList = atE (es.drop k) p.data.toList ∧ Below w.heap.size w wr) (fun i _ => es.length - (intOf i).toNat)
  case atStart => exact ⟨0, Nat.zero_le _, rfl, rfl, Below.refl _ _⟩
  case round =>
    obtain ⟨k, hk, rfl, hA, hB⟩ := hrel
    have HA := Lib.hid hA
    clear hA
    by_cases hlt : k < es.length
    · obtain ⟨g, off, rfl, hg, hc1, hc2, hml⟩ := HH.out k hlt
      have HD := Lib.hid (atE_drop (p := p.data.toList) hlt)
      have d1 := (hB.cell (p := ⟨g, off + k * 2, none⟩) hg).trans hc1
      have d2 := (hB.cell (p := ⟨g, off + k * 2 + 1, none⟩) hg).trans hc2
      clear hc1 hc2 hml
      by_cases he : es[k].name = p.data.toList
      · have HF : Hid (atE es p.data.toList = es[k].node) := Lib.hid (by rw [HA.out, HD.out, if_pos he])
        have hp : bs es[k].name = p := by rw [he, bs_of]
        rw [hp] at d1
        clear he hp
        go_wp2
        go_ret
        exact ⟨ret_int HF.out.symm, hB.alloc hB.size _⟩
      · have HF : Hid (atE es p.data.toList = atE (es.drop (k + 1)) p.data.toList) := Lib.hid (by rw [HA.out, HD.out, if_neg he])
        have hb := bytes_neL he
        obtain ⟨x, hx⟩ : ∃ x, x = bs es[k].name := ⟨_, rfl⟩
        rw [← hx] at d1 hb
        clear he hx
        go_wp2
        go_roundw
        case rel => exact ⟨k + 1, hlt, by go_num, HF.out, hB.alloc hB.size _⟩
        case measure => simp [intOf]; omega
    · have HF : Hid (atE es p.data.toList = -1) := Lib.hid (by rw [HA.out, List.drop_eq_nil_of_le (by omega)]; rfl)
      go_wp2
      go_ret
      exact ⟨ret_int HF.out.symm, hB⟩

theorem alloc3_fst (w : World) (a b c : Obj) : (((w.alloc a).alloc b).alloc c).heap[w.heap.size]? = some a := by
  rw [Below.heap_alloc _ c _ (by simp; omega), Below.heap_alloc _ b _ (by simp)]
  exact heap_alloc_new w a
theorem alloc3_snd (w : World) (a b c : Obj) : (((w.alloc a).alloc b).alloc c).heap[w.heap.size + 1]? = some b := by
  rw [Below.heap_alloc _ c _ (by simp)]
  have h := heap_alloc_new (w.alloc a) b
  rw [World.size_alloc] at h
  exact h
set_option maxHeartbeats 2000000 in
theorem l4May_any (f : FsD) (v : Value) (u g : Int) (m : Nat) (want : Int) (w : World) (hR : FsA w v f) (hm : m < f.nodes.length) (hmo : inB 0 511 (nodeAt f.nodes m).mode = true) (hs : f.nodes.length ≤ 1048576) :
    Calls Tryz.prog 93 #[v, .agg #[.int .i64 u, .int .i64 g], .int .i64 (m : Int), .int .i64 want] w fun e w' => e = .returned (.bool (mayB u g (nodeAt f.nodes m).mode (nodeAt f.nodes m).uid (nodeAt f.nodes m).gid want)) ∧ Below w.heap.size w w' := by
  obtain ⟨nv, rfl, hN⟩ := hR
  obtain ⟨o, c, rfl, hmm, hH⟩ := hN
  unfold maxLen at hmm
  obtain ⟨gg, off, lv, rfl, hg, hcc, he, -⟩ := hH m hm
  have e : f.nodes[m] = nodeAt f.nodes m := (getD_at hm).symm
  rw [e] at hcc he
  obtain ⟨q, hq⟩ : ∃ q, q = nodeAt f.nodes m := ⟨_, rfl⟩
  rw [← hq] at hcc hmo he ⊢
  obtain ⟨o2, c2, rfl, -, -⟩ := he
  obtain ⟨h0, h1⟩ := inB_t hmo
  have hb2 : ∀ a b, Below w.heap.size w ((w.alloc a).alloc b) := fun a b => ((Below.refl _ _).alloc (Nat.le_refl _) _).alloc (by simp) _
  have HB3 : Hid (∀ a b x, Below w.heap.size w (((w.alloc a).alloc b).alloc x)) := Lib.hid (fun a b x => (hb2 a b).alloc (hb2 a b).size x)
  obtain ⟨d0, d1, d2, d3, d4, d5, d6⟩ := hcc.below (hb2 (.cells #[.slice (some ⟨gg, off, none⟩) f.nodes.length c, .int .i64 f.room] 30) (.cells #[.int .i64 u, .int .i64 g] 34)) hg
  clear hcc hmo hq e hb2 hH
  go_enter Tryz.func93, Tryz.ntmps93
  go_wp2_with fail
  refine (l1May_any u g q.mode q.uid q.gid want _ h0 h1).mono ?_
  rintro e w1 ⟨rfl, hb1⟩
  have HB1 := Lib.hid ((HB3.out _ _ _).trans (hb1.mono (HB3.out _ _ _).size))
  clear hb1
  go_wp2
  go_ret
  exact ⟨rfl, HB1.out⟩
end Go.Proofs.YtjomkjnpflebaaaGreatDoor


/-
  The contract of the model's step of a look (l4W.step): a code, and where the look is then.
  Conditions: a good file system of at most 2^20 values and letters together; a node that is there; at most eight links met, at most 1000 parts to come.
-/
namespace Go.Proofs.YtjomkjnpflebaaaGreatDoor
open Go.ChangeShapes Go.WideShapes Go.ChangeAt Go.RowKit Go.Joins
set_option linter.unusedVariables false
set_option linter.unusedSimpArgs false

/-- The cells of a look: the file system, the cred, the node so far, the parts to come, the links met. -/
def lkCells (o : Option Addr) (n c : Nat) (room u g : Int) (node : Nat) (pv : Value) (hops : Nat) : Array Value := #[.slice o n c, .int .i64 room, .int .i64 u, .int .i64 g, .int .i64 (node : Int), pv, .int .i64 (hops : Int)]

/-- What is asked of the file system that is looked at. -/
structure LookFs (f : FsD) : Prop where
  size : szF f ≤ 1048576
  lead : Lead f.nodes
  fit : LinksFit f.nodes
  pos : 0 < f.nodes.length
  mode : ∀ i, i < f.nodes.length → (nodeAt f.nodes i).kind ≠ 0 → inB 0 511 (nodeAt f.nodes i).mode = true

set_option maxHeartbeats 4000000 in
theorem step_no (f : FsD) (o : Option Addr) (c : Nat) (u g : Int) (fol : Bool) (b node hops : Nat) (pv : Value) (w : World) (hN : NodsA w (.slice o f.nodes.length c) f.nodes) (hb : w.heap[b]? = some (.cells (lkCells o f.nodes.length c f.room u g node pv hops) 126 (0, 0))) (hn : node < f.nodes.length) (hs : f.nodes.length ≤ 1048576)
    (hk : (nodeAt f.nodes node).kind ≠ 2) : Calls Tryz.prog 102 #[.pointer (some ⟨b, 0, none⟩), .bool fol] w fun e w' => e = .returned (.int .i64 3) ∧ Below w.heap.size w w' := by
  have c0 : w.cell? ⟨b, 0, none⟩ = some (.slice o f.nodes.length c) := cell_blk hb 0
  have c4 : w.cell? ⟨b, 4, none⟩ = some (.int .i64 (node : Int)) := cell_blk hb 4
  obtain ⟨o', c', e1, hmm, hH⟩ := hN
  simp only [Value.slice.injEq, true_and] at e1
  obtain ⟨rfl, rfl⟩ := e1
  unfold maxLen at hmm
  obtain ⟨gg, off, lv, rfl, hg, hcc, he, -⟩ := hH node hn
  have e : f.nodes[node] = nodeAt f.nodes node := (getD_at hn).symm
  rw [e] at hcc he
  obtain ⟨q, hq⟩ : ∃ q, q = nodeAt f.nodes node := ⟨_, rfl⟩
  rw [← hq] at hcc hk he
  obtain ⟨o2, c2, rfl, -, -⟩ := he
  obtain ⟨d0, d1, d2, d3, d4, d5, d6⟩ := hcc
  have hkb : (q.kind == 2) = false := beq_eq_false_iff_ne.2 hk
  have hkc : (q.kind != 2) = true := by rw [bne_iff_ne]; exact hk
  have hbs := lt_of_heap hb
  have hne1 : w.heap.size ≠ b := by omega
  have hne2 : w.heap.size ≠ gg := by omega
  clear hq e hH hb hk
  go_enter Tryz.func102, Tryz.ntmps102
  go_wp2
  go_region
  go_wp2
  go_ret
  exact ⟨rfl, ((Below.refl _ _).alloc (Nat.le_refl _) _).drew⟩
end Go.Proofs.YtjomkjnpflebaaaGreatDoor
