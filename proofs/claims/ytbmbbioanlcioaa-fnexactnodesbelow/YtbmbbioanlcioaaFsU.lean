
/-
  The model's plain counts over a file system: l3Bytes, l3Links, l3Parent, l3Free.
  Conditions: at most 2^20 values and letters together.
-/
import Derived.Test.YtbmbbioanlcioaaFsT
namespace Go.Proofs.Ytbmbbioanlcioaa
open Go.ChangeShapes Go.WideShapes Go.ChangeAt Go.RowKit Go.Joins
set_option linter.unusedVariables false

def sumD (ns : List Nod) : Nat := (ns.map fun n => n.data.length).sum
theorem sumD_take {ns : List Nod} {k : Nat} (h : k < ns.length) : sumD (ns.take (k + 1)) = sumD (ns.take k) + ns[k].data.length := by
  unfold sumD; rw [List.take_succ_eq_append_getElem h]; simp only [List.map_append, List.sum_append, List.map_cons, List.map_nil, List.sum_cons, List.sum_nil, Nat.add_zero]
theorem sumD_pre (ns : List Nod) (k : Nat) : sumD (ns.take k) ≤ sumD ns := by
  conv => rhs; rw [← List.take_append_drop k ns]
  unfold sumD; rw [List.map_append, List.sum_append]; omega
theorem sumD_le (ns : List Nod) : sumD ns ≤ szNs ns := by
  unfold sumD szNs szN
  induction ns with
  | nil => simp
  | cons a r ih => simp only [List.map_cons, List.sum_cons]; omega

set_option maxHeartbeats 2000000 in
theorem l3Bytes_any (f : FsD) (v : Value) (w : World) (hR : FsA w v f) (hs : szF f ≤ 1048576) : Calls Try.prog 58 #[v] w fun e w' => e = .returned (.int .i64 (sumD f.nodes : Nat)) ∧ Below w.heap.size w w' := by
  obtain ⟨nv, rfl, hN⟩ := hR
  obtain ⟨o, c, rfl, hm, hH⟩ := hN
  have HH := Lib.hid hH
  clear hH
  unfold maxLen at hm
  have hT : sumD f.nodes ≤ 1048576 := by have := sumD_le f.nodes; unfold szF at hs; omega
  have hl : f.nodes.length ≤ 1048576 := by unfold szF at hs; omega
  clear hs
  go_enter Try.func58, Try.ntmps58
  go_wp2
  have hbw : Below w.heap.size w (w.alloc (.cells #[.slice o f.nodes.length c, .int .i64 f.room] 31)) := (Below.refl _ _).alloc (Nat.le_refl _) _
  go_loopw [3, 9] (fun t i wr => ∃ k : Nat, k ≤ f.nodes.length ∧ i = .int .i64 k ∧ t = .int .i64 (sumD (f.nodes.take k) : Nat) ∧ Below w.heap.size w wr) (fun _ i _ => f.nodes.length - (intOf i).toNat)
  case atStart => exact ⟨0, Nat.zero_le _, rfl, rfl, hbw⟩
  case round =>
    obtain ⟨k, hk, rfl, rfl, hB⟩ := hrel
    by_cases hlt : k < f.nodes.length
    · obtain ⟨g, off, lv, rfl, hg, hc, he, hml⟩ := HH.out k hlt
      have HS := Lib.hid (sumD_take hlt)
      have hle := sumD_pre f.nodes (k + 1)
      obtain ⟨d0, d1, d2, d3, d4, d5, d6⟩ := hc.below hB hg
      obtain ⟨q, hqq⟩ : ∃ q, q = f.nodes[k] := ⟨_, rfl⟩
      rw [← hqq] at d0 d1 d2 d3 d4 d5 he hml HS
      obtain ⟨o2, c2, rfl, _, _⟩ := id he
      have HZ : Hid ((bs q.data).size = q.data.length) := Lib.hid (bs_size _)
      have hT2 : sumD (f.nodes.take k) + q.data.length ≤ 1048576 := by rw [HS.out] at hle; omega
      have hx : (bs q.data).size + sumD (f.nodes.take k) ≤ 1048576 := by rw [HZ.out]; omega
      obtain ⟨x, hxx⟩ : ∃ x, x = bs q.data := ⟨_, rfl⟩
      rw [← hxx] at d5 hx HZ
      have HX := Lib.hid hxx
      clear hc he hml hqq hxx hle
      go_wp2
      go_roundw
      case rel =>
        refine ⟨k + 1, hlt, by go_num, by rw [HS.out, ← HZ.out]; go_num, ?_⟩
        exact hB.alloc hB.size _
      case measure => simp [intOf]; omega
    · have HT : Hid (f.nodes.take k = f.nodes) := Lib.hid (List.take_of_length_le (by omega))
      go_wp2
      go_ret
      exact ⟨ret_int (by rw [HT.out]), hB⟩

def tot {α : Type} (g : α → Nat) (l : List α) : Nat := (l.map g).sum
theorem tot_take {α : Type} (g : α → Nat) {l : List α} {k : Nat} (h : k < l.length) : tot g (l.take (k + 1)) = tot g (l.take k) + g l[k] := by
  unfold tot; rw [List.take_succ_eq_append_getElem h]; simp only [List.map_append, List.sum_append, List.map_cons, List.map_nil, List.sum_cons, List.sum_nil, Nat.add_zero]
theorem tot_pre {α : Type} (g : α → Nat) (l : List α) (k : Nat) : tot g (l.take k) ≤ tot g l := by
  conv => rhs; rw [← List.take_append_drop k l]
  unfold tot; rw [List.map_append, List.sum_append]; omega
theorem tot_le {α : Type} {g g' : α → Nat} (h : ∀ a, g a ≤ g' a) (l : List α) : tot g l ≤ tot g' l := by
  unfold tot
  induction l with
  | nil => simp
  | cons a r ih => simp only [List.map_cons, List.sum_cons]; have := h a; omega

def one (node : Int) (e : Ent) : Nat := if e.node = node then 1 else 0
def linksE (node : Int) (es : List Ent) : Nat := tot (one node) es
def links (node : Int) (ns : List Nod) : Nat := tot (fun n => linksE node n.list) ns
theorem linksE_le (node : Int) (es : List Ent) : linksE node es ≤ es.length := by
  unfold linksE tot
  induction es with
  | nil => simp
  | cons a r ih => 
    have : one node a ≤ 1 := by unfold one; split <;> omega
    simp only [List.map_cons, List.sum_cons, List.length_cons]; omega
theorem links_le (node : Int) (ns : List Nod) : links node ns ≤ szNs ns := by
  unfold links szNs
  exact tot_le (g' := szN) (fun n => by have := linksE_le node n.list; unfold szN; omega) ns

set_option maxHeartbeats 4000000 in
theorem l3Links_any (f : FsD) (node : Int) (v : Value) (w : World) (hR : FsA w v f) (hs : szF f ≤ 1048576) : Calls Try.prog 60 #[v, .int .i64 node] w fun e w' => e = .returned (.int .i64 (links node f.nodes : Nat)) ∧ Below w.heap.size w w' := by
  obtain ⟨nv, rfl, hN⟩ := hR
  obtain ⟨o, c, rfl, hm, hH⟩ := hN
  have HH := Lib.hid hH
  clear hH
  unfold maxLen at hm
  have hT : links node f.nodes ≤ 1048576 := by have := links_le node f.nodes; unfold szF at hs; omega
  have hl : f.nodes.length ≤ 1048576 := by unfold szF at hs; omega
  have hL : ∀ n ∈ f.nodes, n.list.length ≤ 1048576 := fun n hn => ((lists_small hs).2 n hn).1
  have HL := Lib.hid hL
  clear hs hL
  go_enter Try.func60, Try.ntmps60
  go_wp2
  have hbw : Below w.heap.size w (w.alloc (.cells #[.slice o f.nodes.length c, .int .i64 f.room] 31)) := (Below.refl _ _).alloc (Nat.le_refl _) _
  go_loopw [5, 13] (fun t i wr => ∃ k : Nat, k ≤ f.nodes.length ∧ i = .int .i64 k ∧ t = .int .i64 (links node (f.nodes.take k) : Nat) ∧ Below w.heap.size w wr) (fun _ i _ => f.nodes.length - (intOf i).toNat)
  case atStart => exact ⟨0, Nat.zero_le _, rfl, rfl, hbw⟩
  case round =>
    obtain ⟨k, hk, rfl, rfl, hB⟩ := hrel
    by_cases hlt : k < f.nodes.length
    · obtain ⟨g, off, lv, rfl, hg, hc, he, hml⟩ := HH.out k hlt
      have HS : Hid (links node (f.nodes.take (k + 1)) = links node (f.nodes.take k) + linksE node f.nodes[k].list) := Lib.hid (tot_take _ hlt)
      have hle : links node (f.nodes.take (k + 1)) ≤ links node f.nodes := tot_pre _ f.nodes (k + 1)
      obtain ⟨d0, d1, d2, d3, d4, d5, d6⟩ := hc.below hB hg
      have hq2 := HL.out f.nodes[k] (List.getElem_mem hlt)
      obtain ⟨q, hqq⟩ : ∃ q, q = f.nodes[k] := ⟨_, rfl⟩
      rw [← hqq] at d0 d1 d2 d3 d4 d5 he hml HS hq2
      obtain ⟨o2, c2, rfl, -, hE⟩ := id he
      have HE := Lib.hid hE
      have hT2 : links node (f.nodes.take k) + linksE node q.list ≤ 1048576 := by rw [HS.out] at hle; omega
      obtain ⟨x, hxx⟩ : ∃ x, x = bs q.data := ⟨_, rfl⟩
      rw [← hxx] at d5
      clear hc he hml hqq hxx hle hE
      go_wp2
      go_loopw [5, 20] (fun t i wi => ∃ j : Nat, j ≤ q.list.length ∧ i = .int .i64 j ∧ t = .int .i64 ((links node (f.nodes.take k) + linksE node (q.list.take j) : Nat) : Int) ∧ Below w.heap.size w wi) (fun _ i _ => q.list.length - (intOf i).toNat)
      case atStart =>
        exact ⟨0, Nat.zero_le _, rfl, rfl, hB.alloc hB.size _⟩
      case round =>
        obtain ⟨j, hj, rfl, rfl, hB2⟩ := hrel
        by_cases hlt2 : j < q.list.length
        · obtain ⟨g2, f2, rfl, q2, x2, y2, _⟩ := HE.out j hlt2
          have HS2 : Hid (linksE node (q.list.take (j + 1)) = linksE node (q.list.take j) + one node q.list[j]) := Lib.hid (tot_take _ hlt2)
          have hle2 : linksE node (q.list.take (j + 1)) ≤ linksE node q.list := tot_pre _ q.list (j + 1)
          have a1 := (hB2.cell (p := ⟨g2, f2 + j * 2, none⟩) q2).trans x2
          have a2 := (hB2.cell (p := ⟨g2, f2 + j * 2 + 1, none⟩) q2).trans y2
          obtain ⟨z, hzz⟩ : ∃ z, z = q.list[j] := ⟨_, rfl⟩
          rw [← hzz] at a1 a2 HS2
          obtain ⟨y, hyy⟩ : ∃ y, y = bs z.name := ⟨_, rfl⟩
          rw [← hyy] at a1
          obtain ⟨r, hr⟩ : ∃ r, r = z.node := ⟨_, rfl⟩
          rw [← hr] at a2
          have HZ : Hid (one node z = if r = node then 1 else 0) := Lib.hid (by rw [hr]; rfl)
          clear x2 y2 hzz hyy hr
          by_cases hrn : r = node
          · have HO : Hid (one node z = 1) := Lib.hid (by rw [HZ.out, if_pos hrn])
            have hx3 : links node (f.nodes.take k) + linksE node (q.list.take j) + 1 ≤ 1048576 := by rw [HS2.out, HO.out] at hle2; omega
            clear HZ hle2
            go_wp2
            go_roundw
            case rel =>
              exact ⟨j + 1, hlt2, by go_num, by rw [HS2.out, HO.out]; go_num, hB2.alloc hB2.size _⟩
            case measure => simp [intOf]; omega
          · have HO : Hid (one node z = 0) := Lib.hid (by rw [HZ.out, if_neg hrn])
            clear HZ hle2
            go_wp2
            go_roundw
            case rel =>
              exact ⟨j + 1, hlt2, by go_num, by rw [HS2.out, HO.out]; go_num, hB2.alloc hB2.size _⟩
            case measure => simp [intOf]; omega
        · have HT : Hid (q.list.take j = q.list) := Lib.hid (List.take_of_length_le (by omega))
          go_wp2
          go_roundw
          case rel => exact ⟨k + 1, hlt, by go_num, by rw [HS.out, HT.out], hB2⟩
          case measure => simp [intOf]; omega
    · have HT : Hid (f.nodes.take k = f.nodes) := Lib.hid (List.take_of_length_le (by omega))
      go_wp2
      go_ret
      exact ⟨ret_int (by rw [HT.out]), hB⟩

theorem lt_of_heap {w : World} {b : Nat} {o : Obj} (h : w.heap[b]? = some o) : b < w.heap.size := (Array.getElem?_eq_some_iff.1 h).1
def freeAt (ns : List Nod) : Int := match ns.findIdx? (fun n => n.kind == 0) with
  | some k => k
  | none => if ns.length = 40 then -1 else ns.length
theorem findIdx_is {α : Type} {p : α → Bool} {l : List α} {k : Nat} (h : k < l.length) (hp : p l[k] = true) (hn : ∀ j (hj : j < l.length), j < k → p l[j] = false) : l.findIdx? p = some k :=
  List.findIdx?_eq_some_iff_getElem.2 ⟨h, hp, fun j hj => by rw [hn j (by omega) hj]; simp⟩
theorem findIdx_not {α : Type} {p : α → Bool} {l : List α} (hn : ∀ j (hj : j < l.length), p l[j] = false) : l.findIdx? p = none := by
  rw [List.findIdx?_eq_none_iff]
  intro x hx
  obtain ⟨j, hj, rfl⟩ := List.getElem_of_mem hx
  exact hn j hj

def hasE (node : Int) (es : List Ent) : Bool := es.any fun e => e.node == node
def parentOf (node : Int) (ns : List Nod) : Nat := match ns.findIdx? (fun n => hasE node n.list) with
  | some k => k
  | none => 0

end Go.Proofs.Ytbmbbioanlcioaa
