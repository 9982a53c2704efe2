/-
  Joined: FsU FsV FsX.
  Conditions: as each states.
-/
import Derived.Laws.Cover1
import Derived.Test.YtgmkfhhlnhgkhaaGreatDoorLib1
import Derived.Test.YtgmkfhhlnhgkhaaGreatDoorLib2

/-
  The model's plain counts over a file system: l3Bytes, l3Links, l3Parent, l3Free.
  Conditions: at most 2^20 values and letters together.
-/
namespace Go.Proofs.YtgmkfhhlnhgkhaaGreatDoor
open Go.ChangeShapes Go.WideShapes Go.ChangeAt Go.RowKit Go.Joins
set_option linter.unusedVariables false

def sumD (ns : List Nod) : Nat := (ns.map fun n => n.data.length).sum
theorem sumD_take {ns : List Nod} {k : Nat} (h : k < ns.length) : sumD (ns.take (k + 1)) = sumD (ns.take k) + ns[k].data.length := by
  unfold sumD; rw [List.take_succ_eq_append_getElem h]; simp only [List.map_append, List.sum_append, List.map_cons, List.map_nil, List.sum_cons, List.sum_nil, Nat.add_zero]
theorem sumD_pre (ns : List Nod) (k : Nat) : sumD (ns.take k) ≤ sumD ns := by
  conv => rhs; rw [← List.take_append_drop k ns]
  unfold sumD; rw [List.map_append, List.sum_append]; omega
theorem sumD_le (ns : List Nod) : sumD ns ≤ szNs ns := by
  unfold sumD szNs szN
  induction ns with
  | nil => simp
  | cons a r ih => simp only [List.map_cons, List.sum_cons]; omega

set_option maxHeartbeats 2000000 in
theorem l3Bytes_any (f : FsD) (v : Value) (w : World) (hR : FsA w v f) (hs : szF f ≤ 1048576) : Calls Tryz.prog 81 #[v] w fun e w' => e = .returned (.int .i64 (sumD f.nodes : Nat)) ∧ Below w.heap.size w w' := by
  obtain ⟨nv, rfl, hN⟩ := hR
  obtain ⟨o, c, rfl, hm, hH⟩ := hN
  have HH := Lib.hid hH
  clear hH
  unfold maxLen at hm
  have hT : sumD f.nodes ≤ 1048576 := by have := sumD_le f.nodes; unfold szF at hs; omega
  have hl : f.nodes.length ≤ 1048576 := by unfold szF at hs; omega
  clear hs
  go_enter Tryz.func81, Tryz.ntmps81
  go_wp2
  have hbw : Below w.heap.size w (w.alloc (.cells #[.slice o f.nodes.length c, .int .i64 f.room] 26)) := (Below.refl _ _).alloc (Nat.le_refl _) _
  go_loopw [3, 9] (fun t i wr => ∃ k : Nat, k ≤ f.nodes.length ∧ i = .int .i64 k ∧ t = .int .i64 (sumD (f.nodes.take k) : Nat) ∧ Below w.heap.size w wr) (fun _ i _ => f.nodes.length - (intOf i).toNat)
  case atStart => exact ⟨0, Nat.zero_le _, rfl, rfl, hbw⟩
  case round =>
    obtain ⟨k, hk, rfl, rfl, hB⟩ := hrel
    by_cases hlt : k < f.nodes.length
    · obtain ⟨g, off, lv, rfl, hg, hc, he, hml⟩ := HH.out k hlt
      have HS := Lib.hid (sumD_take hlt)
      have hle := sumD_pre f.nodes (k + 1)
      obtain ⟨d0, d1, d2, d3, d4, d5, d6⟩ := hc.below hB hg
      obtain ⟨q, hqq⟩ : ∃ q, q = f.nodes[k] := ⟨_, rfl⟩
      rw [← hqq] at d0 d1 d2 d3 d4 d5 he hml HS
      obtain ⟨o2, c2, rfl, _, _⟩ := id he
      have HZ : Hid ((bs q.data).size = q.data.length) := Lib.hid (bs_size _)
      have hT2 : sumD (f.nodes.take k) + q.data.length ≤ 1048576 := by rw [HS.out] at hle; omega
      have hx : (bs q.data).size + sumD (f.nodes.take k) ≤ 1048576 := by rw [HZ.out]; omega
      obtain ⟨x, hxx⟩ : ∃ x, x = bs q.data := ⟨_, rfl⟩
      rw [← hxx] at d5 hx HZ
      have HX := Lib.hid hxx
      clear hc he hml hqq hxx hle
      go_wp2
      go_roundw
      case rel =>
        refine ⟨k + 1, hlt, by go_num, by rw [HS.out, ← HZ.out]; go_num, ?_⟩
        exact hB.alloc hB.size _
      case measure => simp [intOf]; omega
    · have HT : Hid (f.nodes.take k = f.nodes) := Lib.hid (List.take_of_length_le (by omega))
      go_wp2
      go_ret
      exact ⟨ret_int (by rw [HT.out]), hB⟩

def tot {α : Type} (g : α → Nat) (l : List α) : Nat := (l.map g).sum
theorem tot_take {α : Type} (g : α → Nat) {l : List α} {k : Nat} (h : k < l.length) : tot g (l.take (k + 1)) = tot g (l.take k) + g l[k] := by
  unfold tot; rw [List.take_succ_eq_append_getElem h]; simp only [List.map_append, List.sum_append, List.map_cons, List.map_nil, List.sum_cons, List.sum_nil, Nat.add_zero]
theorem tot_pre {α : Type} (g : α → Nat) (l : List α) (k : Nat) : tot g (l.take k) ≤ tot g l := by
  conv => rhs; rw [← List.take_append_drop k l]
  unfold tot; rw [List.map_append, List.sum_append]; omega
theorem tot_le {α : Type} {g g' : α → Nat} (h : ∀ a, g a ≤ g' a) (l : List α) : tot g l ≤ tot g' l := by
  unfold tot
  induction l with
  | nil => simp
  | cons a r ih => simp only [List.map_cons, List.sum_cons]; have := h a; omega

def one (node : Int) (e : Ent) : Nat := if e.node = node then 1 else 0
def linksE (node : Int) (es : List Ent) : Nat := tot (one node) es
def links (node : Int) (ns : List Nod) : Nat := tot (fun n => linksE node n.list) ns
theorem linksE_le (node : Int) (es : List Ent) : linksE node es ≤ es.length := by
  unfold linksE tot
  induction es with
  | nil => simp
  | cons a r ih => 
    have : one node a ≤ 1 := by unfold one; split <;> omega
    simp only [List.map_cons, List.sum_cons, List.length_cons]; omega
theorem links_le (node : Int) (ns : List Nod) : links node ns ≤ szNs ns := by
  unfold links szNs
  exact tot_le (g' := szN) (fun n => by have := linksE_le node n.list; unfold szN; omega) ns

set_option maxHeartbeats 4000000 in
theorem l3Links_any (f : FsD) (node : Int) (v : Value) (w : World) (hR : FsA w v f) (hs : szF f ≤ 1048576) : Calls Tryz.prog 70 #[v, .int .i64 node] w fun e w' => e = .returned (.int .i64 (links node f.nodes : Nat)) ∧ Below w.heap.size w w' := by
  obtain ⟨nv, rfl, hN⟩ := hR
  obtain ⟨o, c, rfl, hm, hH⟩ := hN
  have HH := Lib.hid hH
  clear hH
  unfold maxLen at hm
  have hT : links node f.nodes ≤ 1048576 := by have := links_le node f.nodes; unfold szF at hs; omega
  have hl : f.nodes.length ≤ 1048576 := by unfold szF at hs; omega
  have hL : ∀ n ∈ f.nodes, n.list.length ≤ 1048576 := fun n hn => ((lists_small hs).2 n hn).1
  have HL := Lib.hid hL
  clear hs hL
  go_enter Tryz.func70, Tryz.ntmps70
  go_wp2
  have hbw : Below w.heap.size w (w.alloc (.cells #[.slice o f.nodes.length c, .int .i64 f.room] 26)) := (Below.refl _ _).alloc (Nat.le_refl _) _
  go_loopw [5, 13] (fun t i wr => ∃ k : Nat, k ≤ f.nodes.length ∧ i = .int .i64 k ∧ t = .int .i64 (links node (f.nodes.take k) : Nat) ∧ Below w.heap.size w wr) (fun _ i _ => f.nodes.length - (intOf i).toNat)
  case atStart => exact ⟨0, Nat.zero_le _, rfl, rfl, hbw⟩
  case round =>
    obtain ⟨k, hk, rfl, rfl, hB⟩ := hrel
    by_cases hlt : k < f.nodes.length
    · obtain ⟨g, off, lv, rfl, hg, hc, he, hml⟩ := HH.out k hlt
      have HS : Hid (links node (f.nodes.take (k + 1)) = links node (f.nodes.take k) + linksE node f.nodes[k].list) := Lib.hid (tot_take _ hlt)
      have hle : links node (f.nodes.take (k + 1)) ≤ links node f.nodes := tot_pre _ f.nodes (k + 1)
      obtain ⟨d0, d1, d2, d3, d4, d5, d6⟩ := hc.below hB hg
      have hq2 := HL.out f.nodes[k] (List.getElem_mem hlt)
      obtain ⟨q, hqq⟩ : ∃ q, q = f.nodes[k] := ⟨_, rfl⟩
      rw [← hqq] at d0 d1 d2 d3 d4 d5 he hml HS hq2
      obtain ⟨o2, c2, rfl, -, hE⟩ := id he
      have HE := Lib.hid hE
      have hT2 : links node (f.nodes.take k) + linksE node q.list ≤ 1048576 := by rw [HS.out] at hle; omega
      obtain ⟨x, hxx⟩ : ∃ x, x = bs q.data := ⟨_, rfl⟩
      rw [← hxx] at d5
      clear hc he hml hqq hxx hle hE
      go_wp2
      go_loopw [5, 20] (fun t i wi => ∃ j : Nat, j ≤ q.list.length ∧ i = .int .i64 j ∧ t = .int .i64 ((links node (f.nodes.take k) + linksE node (q.list.take j) : Nat) : Int) ∧ Below w.heap.size w wi) (fun _ i _ => q.list.length - (intOf i).toNat)
      case atStart =>
        exact ⟨0, Nat.zero_le _, rfl, rfl, hB.alloc hB.size _⟩
      case round =>
        obtain ⟨j, hj, rfl, rfl, hB2⟩ := hrel
        by_cases hlt2 : j < q.list.length
        · obtain ⟨g2, f2, rfl, q2, x2, y2, _⟩ := HE.out j hlt2
          have HS2 : Hid (linksE node (q.list.take (j + 1)) = linksE node (q.list.take j) + one node q.list[j]) := Lib.hid (tot_take _ hlt2)
          have hle2 : linksE node (q.list.take (j + 1)) ≤ linksE node q.list := tot_pre _ q.list (j + 1)
          have a1 := (hB2.cell (p := ⟨g2, f2 + j * 2, none⟩) q2).trans x2
          have a2 := (hB2.cell (p := ⟨g2, f2 + j * 2 + 1, none⟩) q2).trans y2
          obtain ⟨z, hzz⟩ : ∃ z, z = q.list[j] := ⟨_, rfl⟩
          rw [← hzz] at a1 a2 HS2
          obtain ⟨y, hyy⟩ : ∃ y, y = bs z.name := ⟨_, rfl⟩
          rw [← hyy] at a1
          obtain ⟨r, hr⟩ : ∃ r, r = z.node := ⟨_, rfl⟩
          rw [← hr] at a2
          have HZ : Hid (one node z = if r = node then 1 else 0) := Lib.hid (by rw [hr]; rfl)
          clear x2 y2 hzz hyy hr
          by_cases hrn : r = node
          · have HO : Hid (one node z = 1) := Lib.hid (by rw [HZ.out, if_pos hrn])
            have hx3 : links node (f.nodes.take k) + linksE node (q.list.take j) + 1 ≤ 1048576 := by rw [HS2.out, HO.out] at hle2; omega
            clear HZ hle2
            go_wp2
            go_roundw
            case rel =>
              exact ⟨j + 1, hlt2, by go_num, by rw [HS2.out, HO.out]; go_num, hB2.alloc hB2.size _⟩
            case measure => simp [intOf]; omega
          · have HO : Hid (one node z = 0) := Lib.hid (by rw [HZ.out, if_neg hrn])
            clear HZ hle2
            go_wp2
            go_roundw
            case rel =>
              exact ⟨j + 1, hlt2, by go_num, by rw [HS2.out, HO.out]; go_num, hB2.alloc hB2.size _⟩
            case measure => simp [intOf]; omega
        · have HT : Hid (q.list.take j = q.list) := Lib.hid (List.take_of_length_le (by omega))
          go_wp2
          go_roundw
          case rel => exact ⟨k + 1, hlt, by go_num, by rw [HS.out, HT.out], hB2⟩
          case measure => simp [intOf]; omega
    · have HT : Hid (f.nodes.take k = f.nodes) := Lib.hid (List.take_of_length_le (by omega))
      go_wp2
      go_ret
      exact ⟨ret_int (by rw [HT.out]), hB⟩

theorem lt_of_heap {w : World} {b : Nat} {o : Obj} (h : w.heap[b]? = some o) : b < w.heap.size := (Array.getElem?_eq_some_iff.1 h).1
def freeAt (ns : List Nod) : Int := match ns.findIdx? (fun n => n.kind == 0) with
  | some k => k
  | none => if ns.length = 40 then -1 else ns.length
theorem findIdx_is {α : Type} {p : α → Bool} {l : List α} {k : Nat} (h : k < l.length) (hp : p l[k] = true) (hn : ∀ j (hj : j < l.length), j < k → p l[j] = false) : l.findIdx? p = some k :=
  List.findIdx?_eq_some_iff_getElem.2 ⟨h, hp, fun j hj => by rw [hn j (by omega) hj]; simp⟩
theorem findIdx_not {α : Type} {p : α → Bool} {l : List α} (hn : ∀ j (hj : j < l.length), p l[j] = false) : l.findIdx? p = none := by
  rw [List.findIdx?_eq_none_iff]
  intro x hx
  obtain ⟨j, hj, rfl⟩ := List.getElem_of_mem hx
  exact hn j hj

set_option maxHeartbeats 2000000 in
theorem l3Free_any (f : FsD) (v : Value) (w : World) (hR : FsA w v f) (hs : f.nodes.length ≤ 1048576) : Calls Tryz.prog 82 #[v] w fun e w' => e = .returned (.int .i64 (freeAt f.nodes)) ∧ Below w.heap.size w w' := by
  obtain ⟨nv, rfl, hN⟩ := hR
  obtain ⟨o, c, rfl, hm, hH⟩ := hN
  have HH := Lib.hid hH
  clear hH
  unfold maxLen at hm
  have hbw : Below w.heap.size w (w.alloc (.cells #[.slice o f.nodes.length c, .int .i64 f.room] 26)) := (Below.refl _ _).alloc (Nat.le_refl _) _
  have hk0 := heap_alloc_new w (.cells #[.slice o f.nodes.length c, .int .i64 f.room] 26)
  go_enter Tryz.func82, Tryz.ntmps82
  go_wp2
  go_loopw [8] (fun i wr => ∃ k : Nat, k ≤ f.nodes.length ∧ i = .int .i64 k ∧ Below w.heap.size w wr ∧ wr.heap[w.heap.size]? = some (.cells #[.slice o f.nodes.length c, .int .i64 f.room] 26) ∧ ∀ j (hj : j < f.nodes.length), j < k → (f.nodes[j].kind == 0) = false) (fun i _ => f.nodes.length - (intOf i).toNat)
  case atStart => exact ⟨0, Nat.zero_le _, rfl, hbw, hk0, fun j hj h => absurd h (Nat.not_lt_zero _)⟩
  case round =>
    obtain ⟨k, hk, rfl, hB, hb, hj⟩ := hrel
    have HJ := Lib.hid hj
    clear hj
    by_cases hlt : k < f.nodes.length
    · obtain ⟨g, off, lv, rfl, hg, hc, he, hml⟩ := HH.out k hlt
      obtain ⟨d0, d1, d2, d3, d4, d5, d6⟩ := hc.below hB hg
      obtain ⟨q, hqq⟩ : ∃ q, q = f.nodes[k] := ⟨_, rfl⟩
      have HQ := Lib.hid hqq
      rw [← hqq] at d0 d1 d2 d3 d4 d5 he hml
      obtain ⟨o2, c2, rfl, _, _⟩ := id he
      obtain ⟨x, hxx⟩ : ∃ x, x = bs q.data := ⟨_, rfl⟩
      rw [← hxx] at d5
      clear hc he hml hqq hxx
      by_cases hz : q.kind = 0
      · have HF : Hid (freeAt f.nodes = k) := Lib.hid (by
          unfold freeAt
          rw [findIdx_is hlt (by rw [← HQ.out, hz]; rfl) HJ.out])
        rw [hz] at d0
        go_wp2
        go_ret
        exact ⟨ret_int HF.out.symm, hB.alloc hB.size _⟩
      · have HJ2 : Hid (∀ j (hj : j < f.nodes.length), j < k + 1 → (f.nodes[j].kind == 0) = false) := Lib.hid (by
          intro j hj h
          rcases Nat.lt_succ_iff_lt_or_eq.1 h with h1 | rfl
          · exact HJ.out j hj h1
          · rw [← HQ.out]; simpa using hz)
        go_wp2
        go_roundw
        case rel => exact ⟨k + 1, hlt, by go_num, hB.alloc hB.size _, (Below.heap_alloc _ _ _ (lt_of_heap hb)).trans hb, HJ2.out⟩
        case measure => simp [intOf]; omega
    · have a0 := (cell_blk hb 0).trans rfl
      have HN : Hid (f.nodes.findIdx? (fun n => n.kind == 0) = none) := Lib.hid (findIdx_not (fun j hj => HJ.out j hj (by omega)))
      by_cases h40 : f.nodes.length = 40
      · have HF : Hid (freeAt f.nodes = -1) := Lib.hid (by unfold freeAt; rw [HN.out]; simp [h40])
        go_wp2
        go_ret
        exact ⟨ret_int HF.out.symm, hB⟩
      · have HF : Hid (freeAt f.nodes = f.nodes.length) := Lib.hid (by unfold freeAt; rw [HN.out]; simp [h40])
        go_wp2
        go_ret
        exact ⟨ret_int HF.out.symm, hB⟩

def hasE (node : Int) (es : List Ent) : Bool := es.any fun e => e.node == node
def parentOf (node : Int) (ns : List Nod) : Nat := match ns.findIdx? (fun n => hasE node n.list) with
  | some k => k
  | none => 0

set_option maxHeartbeats 4000000 in
theorem l3Parent_any (f : FsD) (node : Int) (v : Value) (w : World) (hR : FsA w v f) (hs : szF f ≤ 1048576) : Calls Tryz.prog 67 #[v, .int .i64 node] w fun e w' => e = .returned (.int .i64 (parentOf node f.nodes : Nat)) ∧ Below w.heap.size w w' := by
  obtain ⟨nv, rfl, hN⟩ := hR
  obtain ⟨o, c, rfl, hm, hH⟩ := hN
  have HH := Lib.hid hH
  clear hH
  unfold maxLen at hm
  have hl : f.nodes.length ≤ 1048576 := by unfold szF at hs; omega
  have hL : ∀ n ∈ f.nodes, n.list.length ≤ 1048576 := fun n hn => ((lists_small hs).2 n hn).1
  have HL := Lib.hid hL
  clear hs hL
  go_enter Tryz.func67, Tryz.ntmps67
  go_wp2
  have hbw : Below w.heap.size w (w.alloc (.cells #[.slice o f.nodes.length c, .int .i64 f.room] 26)) := (Below.refl _ _).alloc (Nat.le_refl _) _
  go_loopw [12] (fun i wr => ∃ k : Nat, k ≤ f.nodes.length ∧ i = .int .i64 k ∧ Below w.heap.size w wr ∧ ∀ j (hj : j < f.nodes.length), j < k → hasE node f.nodes[j].list = false) (fun i _ => f.nodes.length - (intOf i).toNat)
  case atStart => exact ⟨0, Nat.zero_le _, rfl, hbw, fun j hj h => absurd h (Nat.not_lt_zero _)⟩
  case round =>
    obtain ⟨k, hk, rfl, hB, hj⟩ := hrel
    have HJ := Lib.hid hj
    clear hj
    by_cases hlt : k < f.nodes.length
    · obtain ⟨g, off, lv, rfl, hg, hc, he, hml⟩ := HH.out k hlt
      obtain ⟨d0, d1, d2, d3, d4, d5, d6⟩ := hc.below hB hg
      have hq2 := HL.out f.nodes[k] (List.getElem_mem hlt)
      obtain ⟨q, hqq⟩ : ∃ q, q = f.nodes[k] := ⟨_, rfl⟩
      have HQ := Lib.hid hqq
      rw [← hqq] at d0 d1 d2 d3 d4 d5 he hml hq2
      obtain ⟨o2, c2, rfl, -, hE⟩ := id he
      have HE := Lib.hid hE
      obtain ⟨x, hxx⟩ : ∃ x, x = bs q.data := ⟨_, rfl⟩
      rw [← hxx] at d5
      clear hc he hml hqq hxx hE
      go_wp2
      go_loopw [20] (fun i wi => ∃ j : Nat, j ≤ q.list.length ∧ i = .int .i64 j ∧ Below w.heap.size w wi ∧ ∀ m (hm : m < q.list.length), m < j → (q.list[m].node == node) = false) (fun i _ => q.list.length - (intOf i).toNat)
      case atStart =>
        exact ⟨0, Nat.zero_le _, rfl, hB.alloc hB.size _, fun j hj h => absurd h (Nat.not_lt_zero _)⟩
      case round =>
        obtain ⟨j, hj, rfl, hB2, hM⟩ := hrel
        have HM := Lib.hid hM
        clear hM
        by_cases hlt2 : j < q.list.length
        · obtain ⟨g2, f2, rfl, q2, x2, y2, _⟩ := HE.out j hlt2
          have a1 := (hB2.cell (p := ⟨g2, f2 + j * 2, none⟩) q2).trans x2
          have a2 := (hB2.cell (p := ⟨g2, f2 + j * 2 + 1, none⟩) q2).trans y2
          obtain ⟨z, hzz⟩ : ∃ z, z = q.list[j] := ⟨_, rfl⟩
          have HZ := Lib.hid hzz
          rw [← hzz] at a1 a2
          obtain ⟨y, hyy⟩ : ∃ y, y = bs z.name := ⟨_, rfl⟩
          rw [← hyy] at a1
          obtain ⟨r, hr⟩ : ∃ r, r = z.node := ⟨_, rfl⟩
          have HR := Lib.hid hr
          rw [← hr] at a2
          clear x2 y2 hzz hyy hr
          by_cases hrn : r = node
          · have HF : Hid (parentOf node f.nodes = k) := Lib.hid (by
              unfold parentOf
              rw [findIdx_is (p := fun n => hasE node n.list) hlt (by
                show hasE node f.nodes[k].list = true
                rw [← HQ.out]
                unfold hasE
                rw [List.any_eq_true]
                exact ⟨q.list[j], List.getElem_mem hlt2, by rw [← HZ.out, ← HR.out, hrn]; simp⟩) HJ.out])
            go_wp2
            go_ret
            exact ⟨ret_int (by rw [HF.out]), hB2.alloc hB2.size _⟩
          · have HM2 : Hid (∀ m (hm : m < q.list.length), m < j + 1 → (q.list[m].node == node) = false) := Lib.hid (by
              intro m hm h
              rcases Nat.lt_succ_iff_lt_or_eq.1 h with h1 | rfl
              · exact HM.out m hm h1
              · rw [← HZ.out, ← HR.out]; simpa using hrn)
            go_wp2
            go_roundw
            case rel =>
              exact ⟨j + 1, hlt2, by go_num, hB2.alloc hB2.size _, HM2.out⟩
            case measure => simp [intOf]; omega
        · have HJ2 : Hid (∀ j (hj : j < f.nodes.length), j < k + 1 → hasE node f.nodes[j].list = false) := Lib.hid (by
            intro i hi h
            rcases Nat.lt_succ_iff_lt_or_eq.1 h with h1 | rfl
            · exact HJ.out i hi h1
            · rw [← HQ.out]
              unfold hasE
              rw [List.any_eq_false]
              intro e he
              obtain ⟨m, hm, rfl⟩ := List.getElem_of_mem he
              rw [HM.out m hm (by omega)]; simp)
          go_wp2
          go_roundw
          case rel => exact ⟨k + 1, hlt, by go_num, hB2, HJ2.out⟩
          case measure => simp [intOf]; omega
    · have HF : Hid (parentOf node f.nodes = 0) := Lib.hid (by
        unfold parentOf
        rw [findIdx_not (p := fun n => hasE node n.list) (fun j hj => HJ.out j hj (by omega))])
      go_wp2
      go_ret
      exact ⟨ret_int (by rw [HF.out]; rfl), hB⟩
end Go.Proofs.YtgmkfhhlnhgkhaaGreatDoor


/-
  The model's l3Entries: a directory's list is in order, its names and nodes are good.
  Conditions: at most 2^20 values and letters together.
-/
namespace Go.Proofs.YtgmkfhhlnhgkhaaGreatDoor
open Go.ChangeShapes Go.WideShapes Go.ChangeAt Go.RowKit Go.Joins
set_option linter.unusedVariables false

def kindAt (ns : List Nod) (i : Int) : Int := (ns.getD i.toNat ⟨0, 0, 0, 0, 0, [], []⟩).kind
def entOk (ns : List Nod) (es : List Ent) (k : Nat) : Bool :=
  nameB (es.getD k ⟨[], 0⟩).name && (k == 0 || Op.bytesLess (es.getD (k - 1) ⟨[], 0⟩).name (es.getD k ⟨[], 0⟩).name) && inB 1 ((ns.length : Int) - 1) (es.getD k ⟨[], 0⟩).node && !(kindAt ns (es.getD k ⟨[], 0⟩).node == 0)
def entsOk (ns : List Nod) (es : List Ent) : Bool := (List.range es.length).all (entOk ns es)

theorem bsl (l : List UInt8) : (bs l).toList = l := by rw [ByteArray.toList_eq]; simp [bs]
theorem entsOk_no {ns : List Nod} {es : List Ent} {k : Nat} (hk : k < es.length) (h : entOk ns es k = false) : entsOk ns es = false := by
  unfold entsOk
  rw [List.all_eq_false]
  exact ⟨k, List.mem_range.2 hk, by rw [h]; simp⟩
theorem entsOk_yes {ns : List Nod} {es : List Ent} (h : ∀ k, k < es.length → entOk ns es k = true) : entsOk ns es = true := by
  unfold entsOk
  rw [List.all_eq_true]
  exact fun k hk => h k (List.mem_range.1 hk)

theorem l1In_is {n lo hi : Int} {b : Bool} (h : inB lo hi n = b) (w : World) : Calls Tryz.prog 86 #[.int .i64 n, .int .i64 lo, .int .i64 hi] w fun e w' => e = .returned (.bool b) ∧ Below w.heap.size w w' :=
  (l1In_any n lo hi w).mono fun e w' ⟨h1, h2⟩ => ⟨by rw [h1, h], by rw [← h2]; exact Below.refl _ _⟩
theorem l2Name_is {l : List UInt8} {b : Bool} (h : nameB l = b) (hl : l.length ≤ maxLen) (s : ByteArray) (hs : s = bs l) (w : World) : Calls Tryz.prog 134 #[.string s] w fun e w' => e = .returned (.bool b) ∧ Below w.heap.size w w' :=
  (l2Name_any s w (by rw [hs, bs_size]; exact hl)).mono fun e w' ⟨h1, h2⟩ => ⟨by rw [h1, hs, ← h]; simp [bs], by rw [← h2]; exact Below.refl _ _⟩

set_option maxHeartbeats 4000000 in
theorem l3Entries_any (f : FsD) (es : List Ent) (v lv : Value) (w : World) (hR : FsA w v f) (hE0 : EntsA w lv es) (hs : f.nodes.length ≤ 1048576) (hs2 : es.length ≤ 1048576) : Calls Tryz.prog 144 #[v, lv] w fun e w' => e = .returned (.bool (entsOk f.nodes es)) ∧ Below w.heap.size w w' := by
  obtain ⟨nv, rfl, hN⟩ := hR
  obtain ⟨o, c, rfl, hm, hH⟩ := hN
  have HH := Lib.hid hH
  obtain ⟨o2, c2, rfl, -, hE⟩ := hE0
  have HE := Lib.hid hE
  clear hH hE
  unfold maxLen at hm
  have hbw : Below w.heap.size w (w.alloc (.cells #[.slice o f.nodes.length c, .int .i64 f.room] 26)) := (Below.refl _ _).alloc (Nat.le_refl _) _
  have hk0 := heap_alloc_new w (.cells #[.slice o f.nodes.length c, .int .i64 f.room] 26)
  go_enter Tryz.func144, Tryz.ntmps144
  go_wp2
  go_loopw [9] (fun i wr => ∃ k : Nat, k ≤ es.length ∧ i = .int .i64 k ∧ Below w.heap.size w wr ∧ wr.heap[w.heap.size]? = some (.cells #[.slice o f.nodes.length c, .int .i64 f.room] 26) ∧ ∀ j, j < k → entOk f.nodes es j = true) (fun i _ => es.length - (intOf i).toNat)
  case atStart => exact ⟨0, Nat.zero_le _, rfl, hbw, hk0, fun j h => absurd h (Nat.not_lt_zero _)⟩
  case round =>
    obtain ⟨k, hk, rfl, hB, hb, hj⟩ := hrel
    have HJ := Lib.hid hj
    clear hj hbw hk0
    by_cases hlt : k < es.length
    · obtain ⟨g2, f2, rfl, q2, x2, y2, hn⟩ := HE.out k hlt
      have HK : Hid (es.getD k ⟨[], 0⟩ = es[k]) := Lib.hid (by simp [List.getD, hlt])
      have a1 := (hB.cell (p := ⟨g2, f2 + k * 2, none⟩) q2).trans x2
      have a2 := (hB.cell (p := ⟨g2, f2 + k * 2 + 1, none⟩) q2).trans y2
      obtain ⟨z, hzz⟩ : ∃ z, z = es[k] := ⟨_, rfl⟩
      rw [← hzz] at a1 a2 HK hn
      obtain ⟨y, hyy⟩ : ∃ y, y = bs z.name := ⟨_, rfl⟩
      have HY := Lib.hid hyy
      rw [← hyy] at a1
      obtain ⟨r, hr⟩ : ∃ r, r = z.node := ⟨_, rfl⟩
      have HR := Lib.hid hr
      rw [← hr] at a2
      have HNL := Lib.hid hn
      have HB1 : Hid (∀ oo, Below w.heap.size w (wr.alloc oo)) := Lib.hid (fun oo => hB.alloc hB.size oo)
      have HW : Hid (∀ oo, (wr.alloc oo).heap[w.heap.size]? = some (.cells #[.slice o f.nodes.length c, .int .i64 f.room] 26)) := Lib.hid (fun oo => (Below.heap_alloc _ _ _ (lt_of_heap hb)).trans hb)
      have e0 := cell_blk (heap_alloc_new wr (.cells #[.string y, .int .i64 r] 57)) 0
      have e1 := cell_blk (heap_alloc_new wr (.cells #[.string y, .int .i64 r] 57)) 1
      have s0 := cell_blk (HW.out (.cells #[.string y, .int .i64 r] 57)) 0
      clear x2 y2 hzz hyy hr hn
      go_wp2
      have HB2 := Lib.hid (HB1.out (.cells #[.string y, .int .i64 r] 57))
      have HW2 := Lib.hid (HW.out (.cells #[.string y, .int .i64 r] 57))
      obtain ⟨W2, hW2⟩ : ∃ W2, wr.alloc (.cells #[.string y, .int .i64 r] 57) = W2 := ⟨_, rfl⟩
      rw [hW2] at e0 e1 s0 HB2 HW2 ⊢
      have e0' := e0.trans rfl
      have e1' := e1.trans rfl
      have s0' := s0.trans rfl
      clear hW2 HW HB1 e0 e1 s0
      have z0 := fun d os => cell_regrown (w := W2) e0' d os
      have z1 := fun d os => cell_regrown (w := W2) e1' d os
      have z2 := fun d os => cell_regrown (w := W2) s0' d os
      by_cases hna : nameB z.name = true
      · have HA := Lib.hid hna
        clear hna
        rcases Nat.eq_zero_or_pos k with rfl | hpos
        · skip
          by_cases hc : inB 1 ((f.nodes.length : Int) - 1) r = true
          · have HC := Lib.hid hc
            obtain ⟨r1, r2⟩ := inB_t hc
            obtain ⟨m, rfl⟩ : ∃ m : Nat, r = m := ⟨r.toNat, by omega⟩
            have hml : m < f.nodes.length := by omega
            obtain ⟨g, off, nl, rfl, hg, hcc, -, -⟩ := HH.out m hml
            have d0 := (HB2.out.cell (p := ⟨g, off + m * 7, none⟩) hg).trans hcc.c0
            obtain ⟨kd, hkd⟩ : ∃ kd, kd = f.nodes[m].kind := ⟨_, rfl⟩
            rw [← hkd] at d0
            have HKD : Hid (kindAt f.nodes (m : Int) = kd) := Lib.hid (by rw [hkd]; simp [kindAt, List.getD, hml])
            have z3 := fun d os => cell_regrown (w := W2) d0 d os
            clear hcc hkd hc
            by_cases hz : kd = 0
            · have HF : Hid (entsOk f.nodes es = false) := Lib.hid (entsOk_no hlt (by unfold entOk; rw [HK.out, HA.out, ← HR.out, HKD.out, hz]; simp))
              subst hz
              refine wp_region_quiet_below (by kernel_rfl) (by kernel_rfl) ?_
              repeat (first | go_big_quiet_step ((first | (go_at_call 134; exact Calls.regrown_of (l2Name_is HA.out HNL.out _ HY.out _)) | (go_at_call 86; exact Calls.regrown_of (l1In_is HC.out _)))) | quiet_step ((first | (go_at_call 134; exact Calls.regrown_of (l2Name_is HA.out HNL.out _ HY.out _)) | (go_at_call 86; exact Calls.regrown_of (l1In_is HC.out _)))))
              refine wpQuiet_nil ?_
              intro w5 hwq
              have hb5 : Below W2.heap.size W2 w5 := by
                obtain ⟨pp, rfl⟩ := hwq
                exact below_regrown _ _ _
              have HB5 := Lib.hid (HB2.out.trans (hb5.mono HB2.out.size))
              have HW5 := Lib.hid ((hb5.block w.heap.size (lt_of_heap HW2.out)).trans HW2.out)
              clear hwq hb5
              go_wp2
              go_ret
              exact ⟨ret_bool HF.out.symm, HB5.out⟩
            · have HO : Hid (entOk f.nodes es (0) = true) := Lib.hid (by unfold entOk; rw [HK.out, HA.out, ← HR.out, HKD.out, HC.out]; simp [hz])
              have HJ2 : Hid (∀ i, i < 0 + 1 → entOk f.nodes es i = true) := Lib.hid (by
                intro i h
                rcases Nat.lt_succ_iff_lt_or_eq.1 h with h1 | rfl
                · exact HJ.out i h1
                · exact HO.out)
              refine wp_region_quiet_below (by kernel_rfl) (by kernel_rfl) ?_
              repeat (first | go_big_quiet_step ((first | (go_at_call 134; exact Calls.regrown_of (l2Name_is HA.out HNL.out _ HY.out _)) | (go_at_call 86; exact Calls.regrown_of (l1In_is HC.out _)))) | quiet_step ((first | (go_at_call 134; exact Calls.regrown_of (l2Name_is HA.out HNL.out _ HY.out _)) | (go_at_call 86; exact Calls.regrown_of (l1In_is HC.out _)))))
              refine wpQuiet_nil ?_
              intro w5 hwq
              have hb5 : Below W2.heap.size W2 w5 := by
                obtain ⟨pp, rfl⟩ := hwq
                exact below_regrown _ _ _
              have HB5 := Lib.hid (HB2.out.trans (hb5.mono HB2.out.size))
              have HW5 := Lib.hid ((hb5.block w.heap.size (lt_of_heap HW2.out)).trans HW2.out)
              clear hwq hb5
              go_wp2
              go_roundw
              case rel => exact ⟨_, hlt, by go_num, HB5.out, HW5.out, HJ2.out⟩
              case measure => simp [intOf]; omega
          · have HC : Hid (inB 1 ((f.nodes.length : Int) - 1) r = false) := Lib.hid (by simpa using hc)
            have HF : Hid (entsOk f.nodes es = false) := Lib.hid (entsOk_no hlt (by unfold entOk; rw [HK.out, HA.out, ← HR.out, HC.out]; simp))
            clear hc
            refine wp_region_quiet_below (by kernel_rfl) (by kernel_rfl) ?_
            repeat (first | go_big_quiet_step ((first | (go_at_call 134; exact Calls.regrown_of (l2Name_is HA.out HNL.out _ HY.out _)) | (go_at_call 86; exact Calls.regrown_of (l1In_is HC.out _)))) | quiet_step ((first | (go_at_call 134; exact Calls.regrown_of (l2Name_is HA.out HNL.out _ HY.out _)) | (go_at_call 86; exact Calls.regrown_of (l1In_is HC.out _)))))
            refine wpQuiet_nil ?_
            intro w5 hwq
            have hb5 : Below W2.heap.size W2 w5 := by
              obtain ⟨pp, rfl⟩ := hwq
              exact below_regrown _ _ _
            have HB5 := Lib.hid (HB2.out.trans (hb5.mono HB2.out.size))
            have HW5 := Lib.hid ((hb5.block w.heap.size (lt_of_heap HW2.out)).trans HW2.out)
            clear hwq hb5
            go_wp2
            go_ret
            exact ⟨ret_bool HF.out.symm, HB5.out⟩
        · obtain ⟨j, rfl⟩ : ∃ j, k = j + 1 := ⟨k - 1, by omega⟩
          obtain ⟨g3, f3, e3, -, x3, -, -⟩ := HE.out j (by omega)
          obtain ⟨rfl, rfl⟩ : g2 = g3 ∧ f2 = f3 := by simpa using e3
          have p0 := (HB2.out.cell (p := ⟨g2, f2 + j * 2, none⟩) q2).trans x3
          obtain ⟨x, hx⟩ : ∃ x, x = bs es[j].name := ⟨_, rfl⟩
          rw [← hx] at p0
          have z4 := fun d os => cell_regrown (w := W2) p0 d os
          have HLT : Hid (Op.bytesLess (es.getD (j + 1 - 1) ⟨[], 0⟩).name z.name = Op.bytesLess x.toList y.toList) := Lib.hid (by
            have h1 : es.getD (j + 1 - 1) ⟨[], 0⟩ = es[j] := by simp [List.getD, show j < es.length by omega]
            rw [h1, hx, HY.out, bsl, bsl])
          clear x3 hx e3
          by_cases hl : Op.bytesLess x.toList y.toList = true
          · have HL : Hid (Op.bytesLess (es.getD (j + 1 - 1) ⟨[], 0⟩).name z.name = true) := Lib.hid (HLT.out.trans hl)
            by_cases hc : inB 1 ((f.nodes.length : Int) - 1) r = true
            · have HC := Lib.hid hc
              obtain ⟨r1, r2⟩ := inB_t hc
              obtain ⟨m, rfl⟩ : ∃ m : Nat, r = m := ⟨r.toNat, by omega⟩
              have hml : m < f.nodes.length := by omega
              obtain ⟨g, off, nl, rfl, hg, hcc, -, -⟩ := HH.out m hml
              have d0 := (HB2.out.cell (p := ⟨g, off + m * 7, none⟩) hg).trans hcc.c0
              obtain ⟨kd, hkd⟩ : ∃ kd, kd = f.nodes[m].kind := ⟨_, rfl⟩
              rw [← hkd] at d0
              have HKD : Hid (kindAt f.nodes (m : Int) = kd) := Lib.hid (by rw [hkd]; simp [kindAt, List.getD, hml])
              have z3 := fun d os => cell_regrown (w := W2) d0 d os
              clear hcc hkd hc
              by_cases hz : kd = 0
              · have HF : Hid (entsOk f.nodes es = false) := Lib.hid (entsOk_no hlt (by unfold entOk; rw [HK.out, HA.out, ← HR.out, HL.out, HKD.out, hz]; simp))
                subst hz
                refine wp_region_quiet_below (by kernel_rfl) (by kernel_rfl) ?_
                repeat (first | go_big_quiet_step ((first | (go_at_call 134; exact Calls.regrown_of (l2Name_is HA.out HNL.out _ HY.out _)) | (go_at_call 86; exact Calls.regrown_of (l1In_is HC.out _)))) | quiet_step ((first | (go_at_call 134; exact Calls.regrown_of (l2Name_is HA.out HNL.out _ HY.out _)) | (go_at_call 86; exact Calls.regrown_of (l1In_is HC.out _)))))
                refine wpQuiet_nil ?_
                intro w5 hwq
                have hb5 : Below W2.heap.size W2 w5 := by
                  obtain ⟨pp, rfl⟩ := hwq
                  exact below_regrown _ _ _
                have HB5 := Lib.hid (HB2.out.trans (hb5.mono HB2.out.size))
                have HW5 := Lib.hid ((hb5.block w.heap.size (lt_of_heap HW2.out)).trans HW2.out)
                clear hwq hb5
                go_wp2
                go_ret
                exact ⟨ret_bool HF.out.symm, HB5.out⟩
              · have HO : Hid (entOk f.nodes es (j + 1) = true) := Lib.hid (by unfold entOk; rw [HK.out, HA.out, ← HR.out, HL.out, HKD.out, HC.out]; simp [hz])
                have HJ2 : Hid (∀ i, i < j + 1 + 1 → entOk f.nodes es i = true) := Lib.hid (by
                  intro i h
                  rcases Nat.lt_succ_iff_lt_or_eq.1 h with h1 | rfl
                  · exact HJ.out i h1
                  · exact HO.out)
                refine wp_region_quiet_below (by kernel_rfl) (by kernel_rfl) ?_
                repeat (first | go_big_quiet_step ((first | (go_at_call 134; exact Calls.regrown_of (l2Name_is HA.out HNL.out _ HY.out _)) | (go_at_call 86; exact Calls.regrown_of (l1In_is HC.out _)))) | quiet_step ((first | (go_at_call 134; exact Calls.regrown_of (l2Name_is HA.out HNL.out _ HY.out _)) | (go_at_call 86; exact Calls.regrown_of (l1In_is HC.out _)))))
                refine wpQuiet_nil ?_
                intro w5 hwq
                have hb5 : Below W2.heap.size W2 w5 := by
                  obtain ⟨pp, rfl⟩ := hwq
                  exact below_regrown _ _ _
                have HB5 := Lib.hid (HB2.out.trans (hb5.mono HB2.out.size))
                have HW5 := Lib.hid ((hb5.block w.heap.size (lt_of_heap HW2.out)).trans HW2.out)
                clear hwq hb5
                go_wp2
                go_roundw
                case rel => exact ⟨_, hlt, by go_num, HB5.out, HW5.out, HJ2.out⟩
                case measure => simp [intOf]; omega
            · have HC : Hid (inB 1 ((f.nodes.length : Int) - 1) r = false) := Lib.hid (by simpa using hc)
              have HF : Hid (entsOk f.nodes es = false) := Lib.hid (entsOk_no hlt (by unfold entOk; rw [HK.out, HA.out, ← HR.out, HL.out, HC.out]; simp))
              clear hc
              refine wp_region_quiet_below (by kernel_rfl) (by kernel_rfl) ?_
              repeat (first | go_big_quiet_step ((first | (go_at_call 134; exact Calls.regrown_of (l2Name_is HA.out HNL.out _ HY.out _)) | (go_at_call 86; exact Calls.regrown_of (l1In_is HC.out _)))) | quiet_step ((first | (go_at_call 134; exact Calls.regrown_of (l2Name_is HA.out HNL.out _ HY.out _)) | (go_at_call 86; exact Calls.regrown_of (l1In_is HC.out _)))))
              refine wpQuiet_nil ?_
              intro w5 hwq
              have hb5 : Below W2.heap.size W2 w5 := by
                obtain ⟨pp, rfl⟩ := hwq
                exact below_regrown _ _ _
              have HB5 := Lib.hid (HB2.out.trans (hb5.mono HB2.out.size))
              have HW5 := Lib.hid ((hb5.block w.heap.size (lt_of_heap HW2.out)).trans HW2.out)
              clear hwq hb5
              go_wp2
              go_ret
              exact ⟨ret_bool HF.out.symm, HB5.out⟩
          · have hl2 : Op.bytesLess x.toList y.toList = false := by simpa using hl
            have HF : Hid (entsOk f.nodes es = false) := Lib.hid (entsOk_no hlt (by unfold entOk; rw [HK.out, HLT.out, hl2]; simp))
            clear hl
            refine wp_region_quiet_below (by kernel_rfl) (by kernel_rfl) ?_
            repeat (first | go_big_quiet_step ((go_at_call 134; exact Calls.regrown_of (l2Name_is HA.out HNL.out _ HY.out _))) | quiet_step ((go_at_call 134; exact Calls.regrown_of (l2Name_is HA.out HNL.out _ HY.out _))))
            refine wpQuiet_nil ?_
            intro w5 hwq
            have hb5 : Below W2.heap.size W2 w5 := by
              obtain ⟨pp, rfl⟩ := hwq
              exact below_regrown _ _ _
            have HB5 := Lib.hid (HB2.out.trans (hb5.mono HB2.out.size))
            have HW5 := Lib.hid ((hb5.block w.heap.size (lt_of_heap HW2.out)).trans HW2.out)
            clear hwq hb5
            go_wp2
            go_ret
            exact ⟨ret_bool HF.out.symm, HB5.out⟩
      · have HA : Hid (nameB z.name = false) := Lib.hid (by simpa using hna)
        have HF : Hid (entsOk f.nodes es = false) := Lib.hid (entsOk_no hlt (by unfold entOk; rw [HK.out, HA.out]; simp))
        clear hna
        refine wp_region_quiet_below (by kernel_rfl) (by kernel_rfl) ?_
        repeat (first | go_big_quiet_step ((go_at_call 134; exact Calls.regrown_of (l2Name_is HA.out HNL.out _ HY.out _))) | quiet_step ((go_at_call 134; exact Calls.regrown_of (l2Name_is HA.out HNL.out _ HY.out _))))
        refine wpQuiet_nil ?_
        intro w5 hwq
        have hb5 : Below W2.heap.size W2 w5 := by
          obtain ⟨pp, rfl⟩ := hwq
          exact below_regrown _ _ _
        have HB5 := Lib.hid (HB2.out.trans (hb5.mono HB2.out.size))
        have HW5 := Lib.hid ((hb5.block w.heap.size (lt_of_heap HW2.out)).trans HW2.out)
        clear hwq hb5
        go_wp2
        go_ret
        exact ⟨ret_bool HF.out.symm, HB5.out⟩
    · go_wp2
      go_ret
      exact ⟨ret_bool (entsOk_yes fun j h => HJ.out j (by omega)).symm, hB⟩
end Go.Proofs.YtgmkfhhlnhgkhaaGreatDoor


/-
  The model's l3Node: a node is good.
  Conditions: at most 2^20 values and letters together.
-/
namespace Go.Proofs.YtgmkfhhlnhgkhaaGreatDoor
open Go.ChangeShapes Go.WideShapes Go.ChangeAt Go.RowKit Go.Joins
set_option linter.unusedVariables false
set_option linter.unusedSimpArgs false

def nodOk (ns : List Nod) (x : Nod) : Bool :=
  if x.kind = 0 then x.mode == 0 && (x.uid == 0 && (x.gid == 0 && (x.time == 0 && (x.data.isEmpty && x.list.isEmpty))))
  else inB 0 511 x.mode && (inB 0 99 x.uid && (inB 0 99 x.gid && (inB 0 1000000 x.time &&
    (if x.kind = 1 then decide (x.data.length ≤ 60) && x.list.isEmpty
     else if x.kind = 2 then x.data.isEmpty && entsOk ns x.list
     else x.kind == 3 && (goodB x.data && x.list.isEmpty)))))

theorem l1In_eq {n lo hi : Int} {b : Bool} (h : inB lo hi n = b) (w : World) : Calls Tryz.prog 86 #[.int .i64 n, .int .i64 lo, .int .i64 hi] w fun e w' => e = .returned (.bool b) ∧ w = w' :=
  (l1In_any n lo hi w).mono fun e w' ⟨h1, h2⟩ => ⟨by rw [h1, h], h2⟩
set_option maxHeartbeats 400000 in
theorem l1Mode_eq {n : Int} {b : Bool} (h : inB 0 511 n = b) (w : World) : Calls Tryz.prog 143 #[.int .i64 n] w fun e w' => e = .returned (.bool b) ∧ w = w' := by
  go_enter Tryz.func143, Tryz.ntmps143
  go_wp2_with (go_at_call 86; refine (l1In_eq h _).mono ?_; rintro e w' ⟨rfl, rfl⟩)
  go_ret
  exact ⟨rfl, rfl⟩
theorem heap_alloc_new2 (w : World) (o1 o2 : Obj) : ((w.alloc o1).alloc o2).heap[w.heap.size + 1]? = some o2 := by
  have h := heap_alloc_new (w.alloc o1) o2
  rw [World.size_alloc] at h
  exact h
theorem isE_no {α : Type} {l : List α} (h : l.length ≠ 0) : l.isEmpty = false := by cases l <;> simp_all
theorem isE_yes {α : Type} {l : List α} (h : l.length = 0) : l.isEmpty = true := by cases l <;> simp_all

set_option maxHeartbeats 4000000 in
theorem l3Node_any (f : FsD) (q : Nod) (v lv : Value) (w : World) (hR : FsA w v f) (hE : EntsA w lv q.list) (hs : f.nodes.length ≤ 1048576) (hs2 : q.list.length ≤ 1048576) (hd : q.data.length ≤ 1048576) :
    Calls Tryz.prog 108 #[v, .agg #[.int .i64 q.kind, .int .i64 q.mode, .int .i64 q.uid, .int .i64 q.gid, .int .i64 q.time, .string (bs q.data), lv]] w fun e w' => e = .returned (.bool (nodOk f.nodes q)) ∧ Below w.heap.size w w' := by
  have HR := Lib.hid hR
  have HE := Lib.hid hE
  obtain ⟨nv, rfl, hN⟩ := hR
  obtain ⟨o, c, rfl, hm, -⟩ := hN
  obtain ⟨o2, c2, rfl, -, -⟩ := hE
  obtain ⟨k, m, u, gi, t, dd, es⟩ := q
  simp only at HE hs2 hd ⊢
  have HDL : Hid ((bs dd).size = dd.length) := Lib.hid (bs_size _)
  obtain ⟨x, hx⟩ : ∃ x, x = bs dd := ⟨_, rfl⟩
  rw [← hx] at HDL ⊢
  have HX := Lib.hid hx
  clear hx
  have HB : Hid (∀ o1 o3, Below w.heap.size w ((w.alloc o1).alloc o3)) := Lib.hid (fun o1 o3 => ((Below.refl _ _).alloc (Nat.le_refl _) _).alloc (by simp) _)
  unfold maxLen at hm
  by_cases hk : k = 0
  · skip
    by_cases h1 : m = 0
    · skip
      by_cases h2 : u = 0
      · skip
        by_cases h3 : gi = 0
        · skip
          by_cases h4 : t = 0
          · skip
            by_cases h5 : dd = []
            · obtain rfl : x = ⟨#[]⟩ := by rw [HX.out, h5]; rfl
              by_cases h6 : es.length = 0
              · have h7 := isE_yes h6
                have HF : Hid (nodOk f.nodes ⟨k, m, u, gi, t, dd, es⟩ = true) := Lib.hid (by simp [nodOk, hk, h1, h2, h3, h4, h5, h7])
                go_enter Tryz.func108, Tryz.ntmps108
                go_wp2
                go_ret
                exact ⟨ret_bool (by first | exact HF.out.symm | (have hz := HF.out.symm; rw [k1] at hz; exact hz)), HB.out _ _⟩
              · have h7 := isE_no h6; have h8 : ((es.length : Int) == 0) = false := beq_eq_false_iff_ne.2 (by omega)
                have HF : Hid (nodOk f.nodes ⟨k, m, u, gi, t, dd, es⟩ = false) := Lib.hid (by simp [nodOk, hk, h1, h2, h3, h4, h5, h7])
                go_enter Tryz.func108, Tryz.ntmps108
                go_wp2
                go_ret
                exact ⟨ret_bool (by first | exact HF.out.symm | (have hz := HF.out.symm; rw [k1] at hz; exact hz)), HB.out _ _⟩
            · obtain ⟨n1, n2, n3⟩ := text_ne h5
              rw [← HX.out] at n1 n2 n3
              have HF : Hid (nodOk f.nodes ⟨k, m, u, gi, t, dd, es⟩ = false) := Lib.hid (by simp [nodOk, hk, h1, h2, h3, h4, h5])
              go_enter Tryz.func108, Tryz.ntmps108
              go_wp2
              go_ret
              exact ⟨ret_bool (by first | exact HF.out.symm | (have hz := HF.out.symm; rw [k1] at hz; exact hz)), HB.out _ _⟩
          · skip
            have HF : Hid (nodOk f.nodes ⟨k, m, u, gi, t, dd, es⟩ = false) := Lib.hid (by simp [nodOk, hk, h1, h2, h3, h4])
            go_enter Tryz.func108, Tryz.ntmps108
            go_wp2
            go_ret
            exact ⟨ret_bool (by first | exact HF.out.symm | (have hz := HF.out.symm; rw [k1] at hz; exact hz)), HB.out _ _⟩
        · skip
          have HF : Hid (nodOk f.nodes ⟨k, m, u, gi, t, dd, es⟩ = false) := Lib.hid (by simp [nodOk, hk, h1, h2, h3])
          go_enter Tryz.func108, Tryz.ntmps108
          go_wp2
          go_ret
          exact ⟨ret_bool (by first | exact HF.out.symm | (have hz := HF.out.symm; rw [k1] at hz; exact hz)), HB.out _ _⟩
      · skip
        have HF : Hid (nodOk f.nodes ⟨k, m, u, gi, t, dd, es⟩ = false) := Lib.hid (by simp [nodOk, hk, h1, h2])
        go_enter Tryz.func108, Tryz.ntmps108
        go_wp2
        go_ret
        exact ⟨ret_bool (by first | exact HF.out.symm | (have hz := HF.out.symm; rw [k1] at hz; exact hz)), HB.out _ _⟩
    · skip
      have HF : Hid (nodOk f.nodes ⟨k, m, u, gi, t, dd, es⟩ = false) := Lib.hid (by simp [nodOk, hk, h1])
      go_enter Tryz.func108, Tryz.ntmps108
      go_wp2
      go_ret
      exact ⟨ret_bool (by first | exact HF.out.symm | (have hz := HF.out.symm; rw [k1] at hz; exact hz)), HB.out _ _⟩
  · skip
    by_cases g1 : inB 0 511 m = true
    · have HM := Lib.hid g1
      by_cases g2 : inB 0 99 u = true
      · have HU := Lib.hid g2
        by_cases g3 : inB 0 99 gi = true
        · have HG := Lib.hid g3
          by_cases g4 : inB 0 1000000 t = true
          · have HT := Lib.hid g4
            by_cases k1 : k = 1
            · by_cases k2 : dd.length ≤ 60
              · have k3 : x.size ≤ 60 := by rw [HDL.out]; exact k2
                by_cases h6 : es.length = 0
                · have h7 := isE_yes h6
                  have HF : Hid (nodOk f.nodes ⟨k, m, u, gi, t, dd, es⟩ = true) := Lib.hid (by simp [nodOk, hk, g1, g2, g3, g4, k1, k2, h7])
                  go_enter Tryz.func108, Tryz.ntmps108
                  go_wp2_with (first | (go_at_call 143; refine (l1Mode_eq HM.out _).mono ?_; rintro e w' ⟨rfl, rfl⟩) | (go_at_call 86; refine (l1In_eq (by first | exact HU.out | exact HG.out | exact HT.out) _).mono ?_; rintro e w' ⟨rfl, rfl⟩))
                  go_ret
                  exact ⟨ret_bool (by first | exact HF.out.symm | (have hz := HF.out.symm; rw [k1] at hz; exact hz)), HB.out _ _⟩
                · have h7 := isE_no h6; have h8 : ((es.length : Int) == 0) = false := beq_eq_false_iff_ne.2 (by omega)
                  have HF : Hid (nodOk f.nodes ⟨k, m, u, gi, t, dd, es⟩ = false) := Lib.hid (by simp [nodOk, hk, g1, g2, g3, g4, k1, k2, h7])
                  go_enter Tryz.func108, Tryz.ntmps108
                  go_wp2_with (first | (go_at_call 143; refine (l1Mode_eq HM.out _).mono ?_; rintro e w' ⟨rfl, rfl⟩) | (go_at_call 86; refine (l1In_eq (by first | exact HU.out | exact HG.out | exact HT.out) _).mono ?_; rintro e w' ⟨rfl, rfl⟩))
                  go_ret
                  exact ⟨ret_bool (by first | exact HF.out.symm | (have hz := HF.out.symm; rw [k1] at hz; exact hz)), HB.out _ _⟩
              · have k3 : ¬ x.size ≤ 60 := by rw [HDL.out]; exact k2
                have HF : Hid (nodOk f.nodes ⟨k, m, u, gi, t, dd, es⟩ = false) := Lib.hid (by simp [nodOk, hk, g1, g2, g3, g4, k1, k2])
                go_enter Tryz.func108, Tryz.ntmps108
                go_wp2_with (first | (go_at_call 143; refine (l1Mode_eq HM.out _).mono ?_; rintro e w' ⟨rfl, rfl⟩) | (go_at_call 86; refine (l1In_eq (by first | exact HU.out | exact HG.out | exact HT.out) _).mono ?_; rintro e w' ⟨rfl, rfl⟩))
                go_ret
                exact ⟨ret_bool (by first | exact HF.out.symm | (have hz := HF.out.symm; rw [k1] at hz; exact hz)), HB.out _ _⟩
            · by_cases k2 : k = 2
              · by_cases h5 : dd = []
                · obtain rfl : x = ⟨#[]⟩ := by rw [HX.out, h5]; rfl
                  have HF : Hid (nodOk f.nodes ⟨k, m, u, gi, t, dd, es⟩ = entsOk f.nodes es) := Lib.hid (by simp [nodOk, hk, g1, g2, g3, g4, k1, k2, h5])
                  go_enter Tryz.func108, Tryz.ntmps108
                  go_wp2_with (first | (go_at_call 143; refine (l1Mode_eq HM.out _).mono ?_; rintro e w' ⟨rfl, rfl⟩) | (go_at_call 86; refine (l1In_eq (by first | exact HU.out | exact HG.out | exact HT.out) _).mono ?_; rintro e w' ⟨rfl, rfl⟩))
                  refine (l3Entries_any f es _ _ _ (HR.out.below (HB.out _ _)) (HE.out.below (HB.out _ _)) hs hs2).mono ?_
                  rintro e w1 ⟨rfl, hb1⟩
                  have HB1 := Lib.hid ((HB.out _ _).trans (hb1.mono (HB.out _ _).size))
                  clear hb1
                  go_wp2
                  go_ret
                  exact ⟨ret_bool HF.out.symm, HB1.out⟩
                · obtain ⟨n1, n2, n3⟩ := text_ne h5
                  rw [← HX.out] at n1 n2 n3
                  have HF : Hid (nodOk f.nodes ⟨k, m, u, gi, t, dd, es⟩ = false) := Lib.hid (by simp [nodOk, hk, g1, g2, g3, g4, k1, k2, h5])
                  go_enter Tryz.func108, Tryz.ntmps108
                  go_wp2_with (first | (go_at_call 143; refine (l1Mode_eq HM.out _).mono ?_; rintro e w' ⟨rfl, rfl⟩) | (go_at_call 86; refine (l1In_eq (by first | exact HU.out | exact HG.out | exact HT.out) _).mono ?_; rintro e w' ⟨rfl, rfl⟩))
                  go_ret
                  exact ⟨ret_bool (by first | exact HF.out.symm | (have hz := HF.out.symm; rw [k1] at hz; exact hz)), HB.out _ _⟩
              · by_cases k3 : k = 3
                · have HKK : Hid (k = 3) := Lib.hid k3
                  by_cases k4 : goodB dd = true
                  · have HP : Hid (goodB x.data.toList = true) := Lib.hid (by rw [HX.out, bs_list]; exact k4)
                    by_cases h6 : es.length = 0
                    · have h7 := isE_yes h6
                      have HF : Hid (nodOk f.nodes ⟨k, m, u, gi, t, dd, es⟩ = true) := Lib.hid (by simp [nodOk, hk, g1, g2, g3, g4, k1, k2, k3, k4, h7])
                      go_enter Tryz.func108, Tryz.ntmps108
                      go_wp2_with (first | (go_at_call 143; refine (l1Mode_eq HM.out _).mono ?_; rintro e w' ⟨rfl, rfl⟩) | (go_at_call 86; refine (l1In_eq (by first | exact HU.out | exact HG.out | exact HT.out) _).mono ?_; rintro e w' ⟨rfl, rfl⟩))
                      refine (l2Path_any x _ (by rw [HDL.out]; omega)).mono ?_
                      rintro e w1 ⟨rfl, hb1⟩
                      rw [HP.out]
                      have HB1 := Lib.hid ((HB.out _ _).trans (hb1.mono (HB.out _ _).size))
                      obtain ⟨L1, -⟩ := old_cells hb1
                      have j6 := L1 (w.heap.size + 1) 6 (by simp)
                      rw [cell_blk (heap_alloc_new2 w _ _) 6] at j6
                      have j7 := j6.trans rfl
                      clear hb1 L1 j6
                      go_wp2
                      go_ret
                      exact ⟨ret_bool HF.out.symm, HB1.out⟩
                    · have h7 := isE_no h6; have h8 : ((es.length : Int) == 0) = false := beq_eq_false_iff_ne.2 (by omega)
                      have HF : Hid (nodOk f.nodes ⟨k, m, u, gi, t, dd, es⟩ = false) := Lib.hid (by simp [nodOk, hk, g1, g2, g3, g4, k1, k2, k3, k4, h7])
                      go_enter Tryz.func108, Tryz.ntmps108
                      go_wp2_with (first | (go_at_call 143; refine (l1Mode_eq HM.out _).mono ?_; rintro e w' ⟨rfl, rfl⟩) | (go_at_call 86; refine (l1In_eq (by first | exact HU.out | exact HG.out | exact HT.out) _).mono ?_; rintro e w' ⟨rfl, rfl⟩))
                      refine (l2Path_any x _ (by rw [HDL.out]; omega)).mono ?_
                      rintro e w1 ⟨rfl, hb1⟩
                      rw [HP.out]
                      have HB1 := Lib.hid ((HB.out _ _).trans (hb1.mono (HB.out _ _).size))
                      obtain ⟨L1, -⟩ := old_cells hb1
                      have j6 := L1 (w.heap.size + 1) 6 (by simp)
                      rw [cell_blk (heap_alloc_new2 w _ _) 6] at j6
                      have j7 := j6.trans rfl
                      clear hb1 L1 j6
                      go_wp2
                      go_ret
                      exact ⟨ret_bool HF.out.symm, HB1.out⟩
                  · have HP : Hid (goodB x.data.toList = false) := Lib.hid (by rw [HX.out, bs_list]; simpa using k4)
                    have HF : Hid (nodOk f.nodes ⟨k, m, u, gi, t, dd, es⟩ = false) := Lib.hid (by simp [nodOk, hk, g1, g2, g3, g4, k1, k2, k3, k4])
                    go_enter Tryz.func108, Tryz.ntmps108
                    go_wp2_with (first | (go_at_call 143; refine (l1Mode_eq HM.out _).mono ?_; rintro e w' ⟨rfl, rfl⟩) | (go_at_call 86; refine (l1In_eq (by first | exact HU.out | exact HG.out | exact HT.out) _).mono ?_; rintro e w' ⟨rfl, rfl⟩))
                    refine (l2Path_any x _ (by rw [HDL.out]; omega)).mono ?_
                    rintro e w1 ⟨rfl, hb1⟩
                    rw [HP.out]
                    have HB1 := Lib.hid ((HB.out _ _).trans (hb1.mono (HB.out _ _).size))
                    obtain ⟨L1, -⟩ := old_cells hb1
                    have j6 := L1 (w.heap.size + 1) 6 (by simp)
                    rw [cell_blk (heap_alloc_new2 w _ _) 6] at j6
                    have j7 := j6.trans rfl
                    clear hb1 L1 j6
                    go_wp2
                    go_ret
                    exact ⟨ret_bool HF.out.symm, HB1.out⟩
                · skip
                  have HF : Hid (nodOk f.nodes ⟨k, m, u, gi, t, dd, es⟩ = false) := Lib.hid (by simp [nodOk, hk, g1, g2, g3, g4, k1, k2, k3])
                  go_enter Tryz.func108, Tryz.ntmps108
                  go_wp2_with (first | (go_at_call 143; refine (l1Mode_eq HM.out _).mono ?_; rintro e w' ⟨rfl, rfl⟩) | (go_at_call 86; refine (l1In_eq (by first | exact HU.out | exact HG.out | exact HT.out) _).mono ?_; rintro e w' ⟨rfl, rfl⟩))
                  go_ret
                  exact ⟨ret_bool (by first | exact HF.out.symm | (have hz := HF.out.symm; rw [k1] at hz; exact hz)), HB.out _ _⟩
          · have g4' : inB 0 1000000 t = false := by simpa using g4
            have HT := Lib.hid g4'
            have HF : Hid (nodOk f.nodes ⟨k, m, u, gi, t, dd, es⟩ = false) := Lib.hid (by simp [nodOk, hk, g1, g2, g3, g4'])
            go_enter Tryz.func108, Tryz.ntmps108
            go_wp2_with (first | (go_at_call 143; refine (l1Mode_eq HM.out _).mono ?_; rintro e w' ⟨rfl, rfl⟩) | (go_at_call 86; refine (l1In_eq (by first | exact HU.out | exact HG.out | exact HT.out) _).mono ?_; rintro e w' ⟨rfl, rfl⟩))
            go_ret
            exact ⟨ret_bool (by first | exact HF.out.symm | (have hz := HF.out.symm; rw [k1] at hz; exact hz)), HB.out _ _⟩
        · have g3' : inB 0 99 gi = false := by simpa using g3
          have HG := Lib.hid g3'
          have HF : Hid (nodOk f.nodes ⟨k, m, u, gi, t, dd, es⟩ = false) := Lib.hid (by simp [nodOk, hk, g1, g2, g3'])
          have HT := HF
          go_enter Tryz.func108, Tryz.ntmps108
          go_wp2_with (first | (go_at_call 143; refine (l1Mode_eq HM.out _).mono ?_; rintro e w' ⟨rfl, rfl⟩) | (go_at_call 86; refine (l1In_eq (by first | exact HU.out | exact HG.out | exact HT.out) _).mono ?_; rintro e w' ⟨rfl, rfl⟩))
          go_ret
          exact ⟨ret_bool (by first | exact HF.out.symm | (have hz := HF.out.symm; rw [k1] at hz; exact hz)), HB.out _ _⟩
      · have g2' : inB 0 99 u = false := by simpa using g2
        have HU := Lib.hid g2'
        have HF : Hid (nodOk f.nodes ⟨k, m, u, gi, t, dd, es⟩ = false) := Lib.hid (by simp [nodOk, hk, g1, g2'])
        have HG := HF
        have HT := HF
        go_enter Tryz.func108, Tryz.ntmps108
        go_wp2_with (first | (go_at_call 143; refine (l1Mode_eq HM.out _).mono ?_; rintro e w' ⟨rfl, rfl⟩) | (go_at_call 86; refine (l1In_eq (by first | exact HU.out | exact HG.out | exact HT.out) _).mono ?_; rintro e w' ⟨rfl, rfl⟩))
        go_ret
        exact ⟨ret_bool (by first | exact HF.out.symm | (have hz := HF.out.symm; rw [k1] at hz; exact hz)), HB.out _ _⟩
    · have g1' : inB 0 511 m = false := by simpa using g1
      have HM := Lib.hid g1'
      have HF : Hid (nodOk f.nodes ⟨k, m, u, gi, t, dd, es⟩ = false) := Lib.hid (by simp [nodOk, hk, g1'])
      have HU := HF
      have HG := HF
      have HT := HF
      go_enter Tryz.func108, Tryz.ntmps108
      go_wp2_with (first | (go_at_call 143; refine (l1Mode_eq HM.out _).mono ?_; rintro e w' ⟨rfl, rfl⟩) | (go_at_call 86; refine (l1In_eq (by first | exact HU.out | exact HG.out | exact HT.out) _).mono ?_; rintro e w' ⟨rfl, rfl⟩))
      go_ret
      exact ⟨ret_bool (by first | exact HF.out.symm | (have hz := HF.out.symm; rw [k1] at hz; exact hz)), HB.out _ _⟩
end Go.Proofs.YtgmkfhhlnhgkhaaGreatDoor
