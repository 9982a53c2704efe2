/-
  Joined: DelA TakM DrpA TakC.
  Conditions: as each states.
-/
import Derived.Deep.RegionLaw
import Derived.Deep.Upon
import Derived.Laws.NewBlocks
import Derived.Test.YtknhacblialboaaGreatDoorLib2
import Derived.Test.YtknhacblialboaaGreatDoorLib11
import Derived.Test.YtknhacblialboaaGreatDoorLib19
import Derived.Test.YtknhacblialboaaGreatDoorLib21
namespace Go.Proofs.YtknhacblialboaaGreatDoor
open Go.ChangeShapes Go.WideShapes Go.ChangeAt Go.RowKit Go.Joins
set_option linter.unusedVariables false
set_option linter.unusedSimpArgs false
set_option maxHeartbeats 16000000
theorem setCells_row (g : Nat) (T : TypeId) : ∀ (vs : List Value) (o : Nat) (w : World) (cur : Array Value), w.heap[g]? = some (.cells cur T (0, 0)) → o + vs.length ≤ cur.size →
   (w.setCells g o vs).heap[g]? = some (.cells (cur.toList.take o ++ vs ++ cur.toList.drop (o + vs.length)).toArray T (0, 0))
 | [], o, w, cur, h, _ => by simpa [World.setCells] using h
 | v :: r, o, w, cur, h, hl => by
   have hl' : o + (r.length + 1) ≤ cur.size := by simpa using hl
   have h1 := setCells_row g T r (o + 1) (w.setCell ⟨g, o, none⟩ v) (cur.setIfInBounds o v) (heap_setCell_same w g o cur T v h) (by simp; omega)
   rw [World.setCells, h1]
   congr 2
   apply Array.ext'
   simp only [Array.toList_setIfInBounds, List.length_cons]
   have e1 : (cur.toList.set o v).take (o + 1) = cur.toList.take o ++ [v] := by
     apply List.ext_getElem?
     intro i
     rw [List.getElem?_take, List.getElem?_append, List.getElem?_set]
     have hlen : (cur.toList.take o).length = o := by simp; omega
     rw [hlen]
     by_cases h1 : i < o
     · simp [h1, show i < o + 1 by omega, show ¬ o = i by omega]
     · by_cases h2 : i = o
       · subst h2; simp; omega
       · have : [v][i - o]? = none := List.getElem?_eq_none (by simp; omega)
         simp [h1, this, show ¬ i < o + 1 by omega]
   have e2 : (cur.toList.set o v).drop (o + 1 + r.length) = cur.toList.drop (o + (r.length + 1)) := by
     rw [List.drop_set_of_lt (by omega)]
     congr 1
     omega
   rw [e1, e2]
   simp
theorem setCells_keep (g : Nat) : ∀ (vs : List Value) (o : Nat) (w : World), (w.setCells g o vs).tape = w.tape ∧ (w.setCells g o vs).heap.size = w.heap.size
 | [], _, _ => ⟨rfl, rfl⟩
 | v :: r, o, w => by
   obtain ⟨h1, h2⟩ := setCells_keep g r (o + 1) (w.setCell ⟨g, o, none⟩ v)
   rw [World.setCells, h1, h2]
   simp
theorem run_clear_two {P : Program} (w : World) (t e ty : TypeId) (ht : P.underlying t = some (.slice e)) (hv : ∀ w, (zeroValue e).run P w = .ok (.agg #[.string ⟨#[]⟩, .int .i64 0]) w) (b o c : Nat)
   (hc : ∀ j, j < 2 → (w.cell? ⟨b, o + j, none⟩).isSome = true) (hf : ∀ j, j < 2 → w.frozen? ⟨b, o + j, none⟩ = false) :
   (Builtin.clear_ #[t] ty #[.slice (some ⟨b, o, none⟩) 1 c]).run P w = .ok (.tuple #[]) (w.setCells b o [.string ⟨#[]⟩, .int .i64 0]) := by
 have hzc : (Builtin.zeroCells (Value.agg #[.string ⟨#[]⟩, .int .i64 0]).cells 1).toList = [.string ⟨#[]⟩, .int .i64 0] := by first | rfl | decide | kernel_rfl
 have hst := run_storeCells_cells (P := P) b o [.string ⟨#[]⟩, .int .i64 0] 0 w (by simpa using hc) (by simpa using hf) (by intro v hv'; simp at hv'; rcases hv' with rfl | rfl <;> rfl)
 simp only [Nat.add_zero] at hst
 simp [Builtin.clear_, run_underlying ht, hv, hzc, hst]
theorem del_list {L A B C : List Value} {z1 z2 : Value} {a c m : Nat} (hA : A.length = a) (hB : B.length = 2) (hC : C.length = c) (hL : L.take m = A ++ B ++ C) (hm : m = a + 2 + c) (hl : m ≤ L.length) :
   (((L.take a ++ C ++ L.drop (a + c)).take (a + c) ++ [z1, z2] ++ (L.take a ++ C ++ L.drop (a + c)).drop (a + c + 2)).take (a + c)) = A ++ C := by
 have h0 : L.take a = A := by
   have := congrArg (List.take a) hL
   rw [List.take_take, Nat.min_eq_left (by omega), List.append_assoc, ← hA, List.take_left] at this
   rw [← hA]; exact this
 rw [h0]
 have h1 : (A ++ C).length = a + c := by simp only [List.length_append]; omega
 have h2 : (A ++ C ++ L.drop (a + c)).take (a + c) = A ++ C := by rw [← h1, List.take_left]
 rw [h2, List.append_assoc (A ++ C), ← h1, List.take_left]
theorem entsV_drop_len (es : List Ent) (k : Nat) : (aX9 (es.drop k)).length = (es.length - k) * 2 := by rw [bJ9, List.length_drop]
def DelSays (w : World) (R g cap : Nat) (es : List Ent) (i : Nat) (e : Ending) (w' : World) : Prop :=
 e = .returned (.slice (some ⟨g, 0, none⟩) (es.eraseIdx i).length cap) ∧ Ents w' R (.slice (some ⟨g, 0, none⟩) (es.eraseIdx i).length cap) (es.eraseIdx i) ∧ w.grownBy w' (some g)
set_option maxRecDepth 100000 in
theorem delete_one (es : List Ent) (g cap : Nat) (R : Nat) (i : Nat) (w : World) (hE : Ents w R (.slice (some ⟨g, 0, none⟩) es.length cap) es) (hi : i < es.length) (hs : es.length ≤ 2097152) :
   Calls Tryz.prog 164 #[.slice (some ⟨g, 0, none⟩) es.length cap, .int .i64 i, .int .i64 ((i : Int) + 1)] w fun e w' => DelSays w R g cap es i e w' := by
 obtain ⟨i9, hi9, hz0, hz1, hz2⟩ := info_ent
 have HE := qhZ hE
 obtain ⟨cur, hRg, hg, hn, hm, hsz, ht⟩ : ∃ cur, R ≤ g ∧ w.heap[g]? = some (.cells cur 126) ∧ es.length ≤ cap ∧ cap ≤ maxLen ∧ cur.size = cap * 2 ∧ cur.toList.take (es.length * 2) = aX9 es := by
   rcases hE.2 with ⟨e, _⟩ | ⟨g2, c2, cur, e, h1, h2, h3, h4, h5, h6⟩
   · cases e
   · simp only [Value.slice.injEq, Option.some.injEq, Addr.mk.injEq, and_true, true_and] at e
     obtain ⟨rfl, rfl⟩ := e
     exact ⟨cur, h1, h2, h3, h4, h5, h6⟩
 obtain ⟨k, hnl⟩ : ∃ k, k + 1 = es.length := ⟨es.length - 1, by omega⟩
 obtain ⟨cs, hcs⟩ : ∃ cs, cs = aX9 (es.drop (i + 1)) := ⟨_, rfl⟩
 obtain ⟨A, hA⟩ : ∃ A, A = aX9 (es.take i) := ⟨_, rfl⟩
 obtain ⟨B, hB⟩ : ∃ B, B = aX9 [es[i]] := ⟨_, rfl⟩
 have hcl : cs.length = (k + 1 - (i + 1)) * 2 := by rw [hcs, entsV_drop_len, hnl]
 have hAl : A.length = i * 2 := by rw [hA, bJ9, List.length_take]; omega
 have hBl : B.length = 2 := by rw [hB, bJ9]; rfl
 have hABC : cur.toList.take ((k + 1) * 2) = A ++ B ++ cs := by
   rw [hnl, ht, hA, hB, hcs, ← entsV_app, ← entsV_app]
   congr 1
   rw [List.append_assoc, List.singleton_append, List.getElem_cons_drop, List.take_append_drop]
 have h1c : ∀ v ∈ cs, v.oneCell' = true := by rw [hcs]; exact entsV_one _
 have hcur : cur.toList.length = cap * 2 := by simpa using hsz
 have hcsat : ∀ j v, cs[j]? = some v → cur[(i + 1) * 2 + j]? = some v := by
   intro j v hj
   have hjl : j < cs.length := (List.getElem?_eq_some_iff.1 hj).1
   have h2 : (cur.toList.take ((k + 1) * 2))[(i + 1) * 2 + j]? = some v := by
     rw [hABC, List.getElem?_append_right (by rw [List.length_append]; omega), List.length_append, hAl, hBl]
     rw [show (i + 1) * 2 + j - (i * 2 + 2) = j by omega]; exact hj
   rw [List.getElem?_take, if_pos (by omega)] at h2
   simpa using h2
 obtain ⟨ad, hA2, hsrc⟩ : ∃ ad : Addr, (if cap = i + 1 then some (⟨g, 0, none⟩ : Addr) else some ⟨g, (i + 1) * 2, none⟩) = some ad ∧ Hid (∀ t u, cs[t]? = some u → w.drew.cell? (ad.add t) = some u) := by
   by_cases h : cap = i + 1
   · refine ⟨⟨g, 0, none⟩, by simp [h], qhZ (fun t u hu => ?_)⟩
     have h0 : cs.length = 0 := by rw [hcl]; omega
     rw [List.length_eq_zero_iff.1 h0] at hu
     simp at hu
   · refine ⟨⟨g, (i + 1) * 2, none⟩, by simp [h], qhZ (fun t u hu => ?_)⟩
     have := hcsat t u hu
     rw [add_plainG]
     show w.cell? _ = _
     simp [World.cell?, hg, this]
 have s1 : Hid (cs.length = (k + 1 - (i + 1)) * 2) := qhZ hcl
 have s2 : Hid (∀ u ∈ cs, u.oneCell' = true) := qhZ h1c
 have hcell : ∀ j, j < cap * 2 → (w.drew.cell? ⟨g, j, none⟩).isSome = true := fun j hj => by
   show (w.cell? _).isSome = true
   have : (cur[j]?).isSome = true := by rw [Array.getElem?_eq_getElem (by omega)]; rfl
   simpa [World.cell?, hg] using this
 have hfro : ∀ j, w.drew.frozen? ⟨g, j, none⟩ = false := fun j => by
   show w.frozen? _ = false
   exact aE9 hg _
 have s3 : Hid (∀ t, t < cs.length → (w.drew.cell? ⟨g, 0 + i * 2 + t, none⟩).isSome = true ∧ w.drew.frozen? ⟨g, 0 + i * 2 + t, none⟩ = false) := qhZ (fun t ht => ⟨hcell _ (by omega), hfro _⟩)
 obtain ⟨W1, hW1⟩ : ∃ W1, W1 = w.drew.setCells g (0 + i * 2) cs := ⟨_, rfl⟩
 have hg1 : W1.heap[g]? = some (.cells (cur.toList.take (i * 2) ++ cs ++ cur.toList.drop (i * 2 + cs.length)).toArray 126) := by
   rw [hW1, Nat.zero_add]
   exact setCells_row g _ cs (i * 2) w.drew cur hg (by omega)
 have hsz1 : (cur.toList.take (i * 2) ++ cs ++ cur.toList.drop (i * 2 + cs.length)).toArray.size = cap * 2 := by
   simp only [List.size_toArray, List.length_append, List.length_take, List.length_drop]; omega
 have hcl2 : ∀ ty, (Builtin.clear_ #[53] ty #[.slice (some ⟨g, k * 2, none⟩) 1 (cap - k)]).run Tryz.prog W1 = .ok (.tuple #[]) (W1.setCells g (k * 2) [.string ⟨#[]⟩, .int .i64 0]) := fun ty =>
   run_clear_two W1 _ 126 ty Tryz.underlying53 (fun w => by first | rfl | kernel_rfl) g _ _ (fun j hj => by
     have : ((cur.toList.take (i * 2) ++ cs ++ cur.toList.drop (i * 2 + cs.length)).toArray[k * 2 + j]?).isSome = true := by rw [Array.getElem?_eq_getElem (by omega)]; rfl
     simpa [World.cell?, hg1] using this) (fun j hj => aE9 hg1 _)
 have hg2 : (W1.setCells g (k * 2) [.string ⟨#[]⟩, .int .i64 0]).heap[g]? = _ := setCells_row g _ [.string ⟨#[]⟩, .int .i64 0] (k * 2) W1 _ hg1 (by rw [hsz1]; simp; omega)
 have hel : (es.eraseIdx i).length = k := by rw [List.length_eraseIdx]; rw [if_pos hi]; omega
 have hev : aX9 (es.eraseIdx i) = A ++ cs := by rw [List.eraseIdx_eq_take_drop_succ, entsV_app, hA, hcs]
 have HFIN : Hid (DelSays w R g cap es i (.returned (.slice (some ⟨g, 0, none⟩) k cap)) (W1.setCells g (k * 2) [.string ⟨#[]⟩, .int .i64 0])) := qhZ (by
   refine ⟨by rw [hel], ⟨by rw [hel, bJ9, hel], .inr ⟨g, cap, _, by rw [hel], hRg, hg2, by omega, hm, ?_, ?_⟩⟩, ?_⟩
   · simp only [List.size_toArray, List.length_append, List.length_take, List.length_drop, List.length_cons, List.length_nil] at hsz1 ⊢
     omega
   · rw [hel, hev]
     have h := del_list (L := cur.toList) (A := A) (B := B) (C := cs) (z1 := .string ⟨#[]⟩) (z2 := .int .i64 0) (a := i * 2) (c := cs.length) (m := (k + 1) * 2) hAl hBl rfl hABC (by omega) (by omega)
     rw [show i * 2 + cs.length = k * 2 by omega] at h
     simpa [show i * 2 + cs.length = k * 2 by omega] using h
   · have k1 := fun j (hj : j < w.heap.size) (h : j ≠ g) => World.heap_setCells_other w.drew g (0 + i * 2) cs hj h
     have z1 : W1.heap.size = w.heap.size := by rw [hW1, (setCells_keep _ _ _ _).2]; rfl
     have k2 := fun j (hj : j < W1.heap.size) (h : j ≠ g) => World.heap_setCells_other W1 g (k * 2) [.string ⟨#[]⟩, .int .i64 0] hj h
     refine ⟨?_, ?_, ?_, ?_, ?_⟩
     · rw [World.os_setCells, hW1, World.os_setCells]; rfl
     · rw [(setCells_keep _ _ _ _).1, hW1, (setCells_keep _ _ _ _).1]; rfl
     · rw [World.output_setCells, hW1, World.output_setCells]; rfl
     · rw [(setCells_keep _ _ _ _).2, z1]; exact Nat.le_refl _
     · intro j hj h
       have h' : j ≠ g := fun e => h (by rw [e])
       rw [k2 j (by omega) h', hW1, k1 j hj h']; rfl)
 have hW : Hid (W1 = w.drew.setCells g (0 + i * 2) cs) := qhZ hW1
 have hic : i ≤ cap := by omega
 have hjc : i + 1 ≤ cap := by omega
 have hni : i + 1 ≤ k + 1 := by omega
 have hb2 : (k : Int) + 1 ≤ (cap : Int) := by omega
 have hck : ¬ cap = k := by omega
 have hkk : k + 1 - k = 1 := by omega
 have hp0 : (0 : Int) ≤ (i : Int) + 1 := by omega
 have hp1 : (i : Int) + 1 ≤ ((k : Int) + 1) := by omega
 rw [← hnl] at hE hs hi hn ⊢
 clear hW1 hg1 hg2 hel hev hABC hcsat hcell hfro hA hB hcs hE hg ht HE hnl
 go_enter Tryz.func164, Tryz.ntmps164
 go_wp2_with fail
 go_region_law (first | (refine step_append_room rfl (.tmp 22) (.tmp 25) 53 rfl 126 i9 2 Tryz.underlying53 hi9 hz1 g 0 i cap (by simp [Act.eval, Act.put]) ad (k + 1 - (i + 1)) (cap - (i + 1)) cs (by simp [Act.eval, Act.put]) s1.out hsrc.out s2.out (by omega) s3.out ?_; rw [← hW.out, show i + (k + 1 - (i + 1)) = k by omega]))
 go_wp2
 go_ret
 exact HFIN.out
def remE (es : List Ent) (p : List UInt8) : List Ent := es.filter fun e => decide (e.name ≠ p)
theorem remE_is {es : List Ent} {p : List UInt8} (hr : Rise es) (hi : isE es p = true) : remE es p = es.eraseIdx (posE es p) := by
 obtain ⟨k, hk⟩ : ∃ k, k = posE es p := ⟨_, rfl⟩
 unfold isE at hi
 simp only [Bool.and_eq_true, decide_eq_true_eq] at hi
 rw [← hk] at hi ⊢
 obtain ⟨hl, hn⟩ := hi
 have hge : ∀ t (h : t < es.length), es.getD t ent0 = es[t] := fun t h => by simp [List.getD, h]
 rw [hge k hl] at hn
 have hA : ∀ t (h : t < es.length), t ≠ k → es[t].name ≠ p := by
   intro t h hne e
   rcases Nat.lt_or_gt_of_ne hne with h1 | h1
   · have := rise_lt hr h1 hl
     rw [hge k hl, hge t h, e, hn, less_irr] at this; cases this
   · have := rise_lt hr h1 h
     rw [hge k hl, hge t h, e, hn, less_irr] at this; cases this
 have e : es = es.take k ++ es[k] :: es.drop (k + 1) := by rw [List.getElem_cons_drop, List.take_append_drop]
 have e2 := congrArg (List.filter fun e => decide (e.name ≠ p)) e
 rw [List.eraseIdx_eq_take_drop_succ]
 unfold remE
 rw [e2, List.filter_append, List.filter_cons]
 have h1 : (es.take k).filter (fun e => decide (e.name ≠ p)) = es.take k := List.filter_eq_self.2 (fun a ha => by
   obtain ⟨t, ht, rfl⟩ := List.getElem_of_mem ha
   have ht' : t < k ∧ t < es.length := by have h9 : t < min k es.length := by simpa using ht
                                          omega
   rw [List.getElem_take]
   simpa using hA t ht'.2 (by omega))
 have h2 : (es.drop (k + 1)).filter (fun e => decide (e.name ≠ p)) = es.drop (k + 1) := List.filter_eq_self.2 (fun a ha => by
   obtain ⟨t, ht, rfl⟩ := List.getElem_of_mem ha
   have ht' : t < es.length - (k + 1) := by simpa using ht
   rw [List.getElem_drop]
   simpa using hA (k + 1 + t) (by omega) (by omega))
 rw [h1, h2, if_neg (by simp [hn])]
theorem remE_len (es : List Ent) (p : List UInt8) : (remE es p).length ≤ es.length := List.length_filter_le _ _
theorem remE_lens : ∀ (es : List Ent) (p : List UInt8), lensE (remE es p) ≤ lensE es
 | [], p => Nat.le_refl _
 | a :: r, p => by
   have ih := remE_lens r p
   have e0 : lensE (a :: r) = a.name.length + lensE r := by simp [lensE]
   by_cases h : a.name ≠ p
   · have e1 : remE (a :: r) p = a :: remE r p := by unfold remE; rw [List.filter_cons, if_pos (by simpa using h)]
     have e2 : lensE (a :: remE r p) = a.name.length + lensE (remE r p) := by simp [lensE]
     rw [e1, e2, e0]; omega
   · have e1 : remE (a :: r) p = remE r p := by unfold remE; rw [List.filter_cons, if_neg (by simpa using h)]
     rw [e1, e0]; omega
theorem remE_mem {es : List Ent} {p : List UInt8} {e : Ent} (h : e ∈ remE es p) : e ∈ es := (List.mem_filter.1 h).1
def remN (p : List UInt8) (t : Int) (n : Nod) : Nod := { n with list := remE n.list p, time := t }
def remFs (f : FsD) (up : Nat) (p : List UInt8) (t : Int) : FsD := ⟨f.nodes.set up (remN p t (aC9 f.nodes up)), f.room⟩
def takFs (f : FsD) (up : Nat) (p : List UInt8) (t : Int) : FsD :=
 if links (nbN (aC9 f.nodes up).list p) (remFs f up p t).nodes = 0 then ⟨(remFs f up p t).nodes.set (nbN (aC9 f.nodes up).list p).toNat nod0, f.room⟩ else remFs f up p t
theorem takFs_yes {f : FsD} {up : Nat} {p : List UInt8} {t : Int} {nd : Nat} (hn : nbN (aC9 f.nodes up).list p = (nd : Int)) (h : links (nd : Int) (remFs f up p t).nodes = 0) : takFs f up p t = ⟨(remFs f up p t).nodes.set nd nod0, f.room⟩ := by
 unfold takFs; rw [hn, if_pos h, Int.toNat_natCast]
theorem takFs_no {f : FsD} {up : Nat} {p : List UInt8} {t : Int} {nd : Nat} (hn : nbN (aC9 f.nodes up).list p = (nd : Int)) (h : links (nd : Int) (remFs f up p t).nodes ≠ 0) : takFs f up p t = remFs f up p t := by
 unfold takFs; rw [hn, if_neg h]
theorem takFs_room (f : FsD) (up : Nat) (p : List UInt8) (t : Int) : (takFs f up p t).room = f.room := by
 unfold takFs; split <;> rfl
theorem szN_rem (p : List UInt8) (t : Int) (n : Nod) : szN (remN p t n) ≤ szN n := by
 have h1 := remE_len n.list p
 have h2 := remE_lens n.list p
 unfold szN remN
 simp only
 omega
theorem remFs_sz {f : FsD} {up : Nat} {p : List UInt8} {t : Int} (h : up < f.nodes.length) : szF (remFs f up p t) ≤ szF f := by
 have h1 := szNs_set h (remN p t (aC9 f.nodes up))
 have h2 := szN_rem p t (aC9 f.nodes up)
 have hlen : (f.nodes.set up (remN p t (aC9 f.nodes up))).length = f.nodes.length := List.length_set
 unfold szF remFs
 simp only [hlen]
 omega
theorem zero_sz {ns : List Nod} {k : Nat} : szNs (ns.set k nod0) ≤ szNs ns := by
 by_cases h : k < ns.length
 · have h1 := szNs_set h nod0
   have h2 : szN nod0 = 0 := by simp [szN, nod0, lensE]
   omega
 · rw [List.set_eq_of_length_le (by omega)]; exact Nat.le_refl _
theorem takFs_sz {f : FsD} {up : Nat} {p : List UInt8} {t : Int} (h : up < f.nodes.length) : szF (takFs f up p t) ≤ szF f := by
 have h1 := remFs_sz (p := p) (t := t) h
 unfold takFs
 split
 · have h2 := zero_sz (ns := (remFs f up p t).nodes) (k := (nbN (aC9 f.nodes up).list p).toNat)
   unfold szF at h1 ⊢
   simp only [List.length_set]
   omega
 · exact h1
theorem set_fit {ns : List Nod} {k : Nat} {q : Nod} (hf : aV9 ns) (hq : q.data.length ≤ maxLen ∧ ∀ e ∈ q.list, e.name.length ≤ maxLen) : aV9 (ns.set k q) := by
 intro n hn
 rcases List.mem_or_eq_of_mem_set hn with h | rfl
 · exact hf n h
 · exact hq
theorem remFs_fit {f : FsD} {up : Nat} {p : List UInt8} {t : Int} (h : up < f.nodes.length) (hf : aV9 f.nodes) : aV9 (remFs f up p t).nodes := by
 have hm : aC9 f.nodes up ∈ f.nodes := by rw [show aC9 f.nodes up = f.nodes[up] from aR9 h]; exact List.getElem_mem h
 exact set_fit hf ⟨(hf _ hm).1, fun e he => (hf _ hm).2 e (remE_mem he)⟩
theorem takFs_fit {f : FsD} {up : Nat} {p : List UInt8} {t : Int} (h : up < f.nodes.length) (hf : aV9 f.nodes) : aV9 (takFs f up p t).nodes := by
 unfold takFs
 split
 · exact set_fit (remFs_fit h hf) ⟨by simp [nod0], fun e he => by cases he⟩
 · exact remFs_fit h hf
theorem remFs_len (f : FsD) (up : Nat) (p : List UInt8) (t : Int) : (remFs f up p t).nodes.length = f.nodes.length := List.length_set
theorem remFs_lead {f : FsD} {up : Nat} {p : List UInt8} {t : Int} (h : up < f.nodes.length) (hl : Lead f.nodes) : Lead (remFs f up p t).nodes := by
 intro n hn e he
 rw [remFs_len]
 rcases List.mem_or_eq_of_mem_set hn with h1 | rfl
 · exact hl n h1 e he
 · have hm : aC9 f.nodes up ∈ f.nodes := by rw [show aC9 f.nodes up = f.nodes[up] from aR9 h]; exact List.getElem_mem h
   exact hl _ hm e (remE_mem he)
theorem nbN_in {f : FsD} {up : Nat} {p : List UInt8} (h : up < f.nodes.length) (hl : Lead f.nodes) (hr : Rise (aC9 f.nodes up).list) (hi : isE (aC9 f.nodes up).list p = true) : ∃ nd : Nat, nbN (aC9 f.nodes up).list p = (nd : Int) ∧ nd < f.nodes.length ∧ atE (aC9 f.nodes up).list p = (nd : Int) := by
 have h1 := atE_is hr p
 have h2 : nbN (aC9 f.nodes up).list p = ((aC9 f.nodes up).list.getD (posE (aC9 f.nodes up).list p) ent0).node := by unfold nbN; rw [if_pos hi]
 rw [if_pos hi] at h1
 have hm : aC9 f.nodes up ∈ f.nodes := by rw [show aC9 f.nodes up = f.nodes[up] from aR9 h]; exact List.getElem_mem h
 have hp : posE (aC9 f.nodes up).list p < (aC9 f.nodes up).list.length := by unfold isE at hi; simp at hi; exact hi.1
 have he : (aC9 f.nodes up).list.getD (posE (aC9 f.nodes up).list p) ent0 = (aC9 f.nodes up).list[posE (aC9 f.nodes up).list p] := by simp [List.getD, hp]
 obtain ⟨h3, h4⟩ := hl _ hm _ (List.getElem_mem hp)
 rw [he] at h1 h2
 refine ⟨((aC9 f.nodes up).list[posE (aC9 f.nodes up).list p]).node.toNat, by rw [h2]; omega, by omega, by rw [h1]; omega⟩
set_option maxRecDepth 100000 in
theorem dropName_any (f : FsD) (u g t : Int) (up : Nat) (nm : List UInt8) (nd : Nat) (hup : up < f.nodes.length) (hr : Rise (aC9 f.nodes up).list) (hi : isE (aC9 f.nodes up).list nm = true) (hnd : nbN (aC9 f.nodes up).list nm = (nd : Int)) (hndl : nd < f.nodes.length) (hld : Lead f.nodes) (hs : szF f ≤ 1048576)
   (d R : Nat) (nv : Value) (ps : List (Nod × Value)) (w : World) (hR : R ≤ w.heap.size) (hRd : R ≤ d) (hD : Drf w d R nv ps f u g t) :
   Calls Tryz.prog 126 #[.pointer (some ⟨d, 0, none⟩), .agg #[.int .i64 up, .string (bs nm)]] w fun e w' => e = .returned (.tuple #[]) ∧ Below R w w' ∧ ∃ ps2, w'.heap[d]? = some (.cells #[nv, .int .i64 f.room, .int .i64 u, .int .i64 g, .int .i64 t] 75) ∧ ps2.map Prod.fst = (takFs f up nm t).nodes ∧ Own w' R nv ps2 := by
 obtain ⟨oo, cc, rfl, -⟩ := aM9 hD.own.row
 have HD := qhZ hD
 have hul : up < ps.length := by rw [hD.len]; exact hup
 have hpl8 : ps.length ≤ 1048576 := by rw [hD.len]; exact (aG9 hs).1
 have hnl : nd < ps.length := by rw [hD.len]; exact hndl
 obtain ⟨G, cap, e0, hRG, hGl, hnc, hm, hc, hfr⟩ := hD.own.at hul
 simp only [Value.slice.injEq, true_and] at e0
 obtain ⟨rfl, rfl⟩ := e0
 have hq1 : ps[up].1 = aC9 f.nodes up := at_map hD.map hul
 have HQ1 := qhZ hq1
 have hnm : aC9 f.nodes up ∈ f.nodes := by rw [show aC9 f.nodes up = f.nodes[up] from aR9 hup]; exact List.getElem_mem hup
 have hll : (aC9 f.nodes up).list.length ≤ 1048576 := ((aG9 hs).2 _ hnm).1
 have HEA : Hid (EntsA w ps[up].2 (aC9 f.nodes up).list) := qhZ (by rw [← hq1]; exact (hD.own.ent _ (List.getElem_mem hul)).readM (by rw [hq1]; exact (hD.fit _ hnm).2))
 have HNC : Hid (NodC w G (up * 7) ps[up].2 (aC9 f.nodes up)) := qhZ (by rw [← hq1]; exact hc)
 have HEN : Hid (Ents w R ps[up].2 (aC9 f.nodes up).list) := qhZ (by rw [← hq1]; exact hD.own.ent _ (List.getElem_mem hul))
 have HDG : Hid (d ≠ G) := qhZ (by
   have := ne_some (own_not hD.own.row hD.box (by decide))
   intro e; exact this (by rw [e]; rfl))
 have HDL : Hid (some d ≠ ps[up].2.ownBlock) := qhZ (ne_some (own_not HEN.out hD.box (by decide)))
 have HGL : Hid (some G ≠ ps[up].2.ownBlock) := qhZ (ne_some (ents_ne hD.own.row HEN.out rfl))
 have HRL : Hid (∀ b, ps[up].2.ownBlock = some b → R ≤ b ∧ b < w.heap.size) := qhZ (World.ownsRow.lt HEN.out)
 obtain ⟨xn, hxn⟩ : ∃ xn, xn = bs nm := ⟨_, rfl⟩
 have hxl : xn.data.toList = nm := by rw [hxn]; exact aY9 _
 obtain ⟨k, hk⟩ : ∃ k, k = posE (aC9 f.nodes up).list nm := ⟨_, rfl⟩
 have hkl : k < (aC9 f.nodes up).list.length := by rw [hk]; unfold isE at hi; simp at hi; exact hi.1
 have HEB : Hid (∀ W, Below w.heap.size w W → Calls Tryz.prog 122 #[.pointer (some ⟨G, up * 7, none⟩), .string xn] W fun e w' => e = .returned (.tuple #[.int .i64 (k : Nat), .bool true]) ∧ Below W.heap.size W w') := qhZ (fun W h => by
   have := entryByName_any (aC9 f.nodes up) G (up * 7) _ xn W (Nat.lt_of_lt_of_le hGl h.size) (HNC.out.below h hGl) (HEA.out.below h) hll hr
   rw [hxl, hi, ← hk] at this
   exact this)
 have HRE : Hid (remE (aC9 f.nodes up).list nm = (aC9 f.nodes up).list.eraseIdx k) := qhZ (by rw [hk]; exact remE_is hr hi)
 have hnk : (aC9 f.nodes up).list[k].node = (nd : Int) := by
   rw [← hnd]; unfold nbN; rw [if_pos hi, ← hk]; simp [List.getD, hkl]
 have HPS := qhZ hD.map
 have HFIT := qhZ hD.fit
 have HS := qhZ hs
 have HLD := qhZ hld
 have HND := qhZ hnd
 rw [← hxn]
 have HK0 : Hid (Below w.heap.size w (w.alloc (.cells #[.int .i64 up, .string xn] 77))) := qhZ ((Below.refl _ _).alloc (Nat.le_refl _) _)
 have KB0 := qhZ (heap_alloc_new w (.cells #[.int .i64 up, .string xn] 77))
 obtain ⟨lv, hlv⟩ : ∃ lv, lv = ps[up].2 := ⟨_, rfl⟩
 rw [← hlv] at HEN HDL HGL HRL HEA
 have HLV := qhZ hlv
 have x6 : w.cell? ⟨G, up * 7 + 6, none⟩ = some lv := by rw [hlv]; exact hc.c6
 obtain ⟨tm, htm⟩ : ∃ tm, tm = (aC9 f.nodes up).time := ⟨_, rfl⟩
 have x4 : w.cell? ⟨G, up * 7 + 4, none⟩ = some (.int .i64 tm) := by rw [htm]; exact HNC.out.c4
 rcases owns_forms HEN.out with ⟨-, h0⟩ | ⟨ge, ce, rfl⟩
 · omega
 have hge : ge < w.heap.size := (HRL.out ge rfl).2
 have xk : w.cell? ⟨ge, k * 2 + 1, none⟩ = some (.int .i64 nd) := by
   obtain ⟨o9, c9, e9, -, h9⟩ := HEA.out
   simp only [Value.slice.injEq] at e9
   obtain ⟨rfl, -, -⟩ := e9
   obtain ⟨g8, f8, e8, -, -, h8, -⟩ := h9 k hkl
   simp only [Option.some.injEq, Addr.mk.injEq, and_true] at e8
   obtain ⟨rfl, rfl⟩ := e8
   rw [hnk] at h8
   simpa using h8
 obtain ⟨es, hes⟩ : ∃ es, es = (aC9 f.nodes up).list := ⟨_, rfl⟩
 have HES := qhZ hes
 rw [← hes] at HEN HRE hkl hll x6
 clear hD hr hxl hxn hk hq1 hnm hlv hc hi hnd hnk hs hld hes htm HEA HNC
 go_enter Tryz.func126, Tryz.ntmps126
 have d0 : (w.alloc (.cells #[.int .i64 up, .string xn] 77)).cell? ⟨d, 0, none⟩ = some (.slice (some ⟨G, 0, none⟩) ps.length cc) := (aA9 (aD9 HK0.out HD.out.box) 0).trans rfl
 have z0 := fun dd os => cell_regrown (w := w.alloc (.cells #[.int .i64 up, .string xn] 77)) d0 dd os
 have b0 : (w.alloc (.cells #[.int .i64 up, .string xn] 77)).cell? ⟨w.heap.size, 0, none⟩ = some (.int .i64 up) := (aA9 KB0.out 0).trans rfl
 have z1 := fun dd os => cell_regrown (w := w.alloc (.cells #[.int .i64 up, .string xn] 77)) b0 dd os
 go_wp2
 refine wp_region_quiet_below (by kernel_rfl) (by kernel_rfl) ?_
 repeat (first | go_big_quiet_step (fail) | quiet_step (fail))
 refine wpQuiet_nil ?_
 intro w1 hwq
 have hb1 : Below (w.alloc (.cells #[.int .i64 up, .string xn] 77)).heap.size (w.alloc (.cells #[.int .i64 up, .string xn] 77)) w1 := by obtain ⟨pp, rfl⟩ := hwq; exact below_regrown _ _ _
 have HB1 := qhZ (aL9 HK0.out hb1)
 have KB1 := qhZ (aD9 hb1 KB0.out)
 have c1 : w1.cell? ⟨w.heap.size, 1, none⟩ = some (.string xn) := (aA9 KB1.out 1).trans rfl
 clear hwq hb1 d0 z0 b0 z1
 go_wp2_with fail
 refine (HEB.out _ HB1.out).mono ?_
 rintro e w2 ⟨rfl, hb2⟩
 have HB2 := qhZ (aL9 HB1.out hb2)
 have e2 : w2.cell? ⟨G, up * 7 + 6, none⟩ = some (Value.slice (some ⟨ge, 0, none⟩) es.length ce) := (HB2.out.cell (p := ⟨G, up * 7 + 6, none⟩) hGl).trans x6
 have k2 : w2.cell? ⟨ge, k * 2 + 1, none⟩ = some (.int .i64 nd) := (HB2.out.cell (p := ⟨ge, k * 2 + 1, none⟩) hge).trans xk
 have KD2 := qhZ (aD9 HB2.out HD.out.box)
 have HO2 := qhZ (HD.out.own.below HB2.out)
 have HE2 : Hid (Ents w2 R (Value.slice (some ⟨ge, 0, none⟩) es.length ce) es) := qhZ (by
   have := HO2.out.ent _ (List.getElem_mem hul)
   rw [HQ1.out, ← HLV.out, ← HES.out] at this
   exact this)
 have hk0 : (0 : Int) ≤ (k : Int) := by omega
 have hk1 : (k : Int) < (es.length : Int) := by omega
 have HX4 : Hid (w2.cell? ⟨G, up * 7 + 4, none⟩ = some (.int .i64 tm)) := qhZ ((HB2.out.cell (p := ⟨G, up * 7 + 4, none⟩) hGl).trans x4)
 have hR2 : R ≤ w2.heap.size := Nat.le_trans hR HB2.out.size
 have HGf : Hid (∀ j, w2.frozen? ⟨G, j, none⟩ = false) := qhZ (fun j => (World.frozen?_of_block (HB2.out.block G hGl)).trans (hfr j))
 clear hb2 c1 x6 x4 xk hfr
 go_wp2_with (go_at_call 164; (with_reducible refine (delete_one es ge ce R k w2 HE2.out hkl (by omega)).mono ?_))
 rintro e w3 ⟨rfl, hE3, hg3⟩
 have HE3 := qhZ hE3
 have HG3 := qhZ hg3
 have hGL := HGL.out
 have hDL := HDL.out
 have k6 : w3.cell? ⟨G, up * 7 + 6, none⟩ = some (Value.slice (some ⟨ge, 0, none⟩) es.length ce) := hg3.cell e2 hGL
 have k4 : w3.cell? ⟨G, up * 7 + 4, none⟩ = some (.int .i64 tm) := hg3.cell HX4.out hGL
 have kf : ∀ j, w3.frozen? ⟨G, j, none⟩ = false := fun j => (World.frozen?_of_block (hg3.block G (Nat.lt_of_lt_of_le hGl HB2.out.size) hGL)).trans (HGf.out _)
 have KD3 := qhZ ((hg3.block d (aB9 KD2.out) hDL).trans KD2.out)
 have d30 : w3.cell? ⟨d, 0, none⟩ = some (.slice (some ⟨G, 0, none⟩) ps.length cc) := (aA9 KD3.out 0).trans rfl
 have d3 : w3.cell? ⟨d, 4, none⟩ = some (.int .i64 t) := (aA9 KD3.out 4).trans rfl
 obtain ⟨n3, hn3⟩ : ∃ n3, n3 = (es.eraseIdx k).length := ⟨_, rfl⟩
 rw [← hn3] at HE3 ⊢
 have HOW := qhZ (HO2.out.list hul (lv' := Value.slice (some ⟨ge, 0, none⟩) n3 ce) (es' := es.eraseIdx k) (by rw [← HLV.out]; exact HG3.out) HE3.out (.inl (by rw [← HLV.out]; rfl)))
 obtain ⟨W5, hW5⟩ : ∃ W5, W5 = (w3.setCell ⟨G, up * 7 + 6, none⟩ (Value.slice (some ⟨ge, 0, none⟩) n3 ce)).setCell ⟨G, up * 7 + 4, none⟩ (.int .i64 t) := ⟨_, rfl⟩
 have hdg := HDG.out
 have KD5 : Hid (W5.heap[d]? = some (.cells #[.slice (some ⟨G, 0, none⟩) ps.length cc, .int .i64 f.room, .int .i64 u, .int .i64 g, .int .i64 t] 75)) := qhZ (by
   rw [hW5]
   exact (Below.heap_setCell _ ⟨G, up * 7 + 4, none⟩ _ _ hdg).trans ((Below.heap_setCell w3 ⟨G, up * 7 + 6, none⟩ _ _ hdg).trans KD3.out))
 have HB5 : Hid (Below R w W5) := qhZ (by
   rw [hW5]
   exact (((HB2.out.mono hR).trans (bel_grown HG3.out hR2 (fun b hb => (HRL.out b hb).1))).setCell (p := ⟨G, up * 7 + 6, none⟩) hRG _).setCell (p := ⟨G, up * 7 + 4, none⟩) hRG _)
 obtain ⟨qs, hqs⟩ : ∃ qs, qs = (ps.set up ({ ps[up].1 with list := es.eraseIdx k }, Value.slice (some ⟨ge, 0, none⟩) n3 ce)).set up (remN nm t (aC9 f.nodes up), Value.slice (some ⟨ge, 0, none⟩) n3 ce) := ⟨_, rfl⟩
 have hql : qs.length = ps.length := by rw [hqs]; simp
 have HO5 : Hid (Own W5 R (.slice (some ⟨G, 0, none⟩) ps.length cc) qs) := qhZ (by
   have h1 := HOW.out
   obtain ⟨rs, hrs⟩ : ∃ rs, rs = ps.set up ({ ps[up].1 with list := es.eraseIdx k }, Value.slice (some ⟨ge, 0, none⟩) n3 ce) := ⟨_, rfl⟩
   have hrl : rs.length = ps.length := by rw [hrs]; simp
   rw [← hrs, ← hrl] at h1
   have hru : up < rs.length := by omega
   have hr9 : rs[up]'hru = ({ ps[up].1 with list := es.eraseIdx k }, Value.slice (some ⟨ge, 0, none⟩) n3 ce) := by simp [hrs]
   have h2 := h1.turn (i := up) (j := 4) hru (by decide) (.int .i64 t) { (rs[up]'hru).1 with time := t } rfl rfl
   rw [hr9, hrl] at h2
   rw [hW5, hqs, ← hrs]
   have e9 : ({ ({ ps[up].1 with list := es.eraseIdx k } : Nod) with time := t } : Nod) = remN nm t (aC9 f.nodes up) := by
     unfold remN; rw [← HES.out, HRE.out, HQ1.out]
   rw [← e9]
   exact h2)
 have HMP : Hid (qs.map Prod.fst = (remFs f up nm t).nodes) := qhZ (by
   rw [hqs, List.map_set, List.map_set, HPS.out, List.set_set]; rfl)
 have HLEN : Hid ((remFs f up nm t).nodes.length = ps.length) := qhZ (by rw [remFs_len, ← HD.out.len])
 have HNA5 : Hid (NodsA W5 (.slice (some ⟨G, 0, none⟩) ps.length cc) (remFs f up nm t).nodes) := qhZ (by
   have h := HO5.out.read f.room (by rw [HMP.out]; exact remFs_fit hup HFIT.out)
   rw [HMP.out] at h
   obtain ⟨nvz, e8, h8⟩ := h
   simp only [Value.agg.injEq, Array.mk.injEq, List.cons.injEq, and_true] at e8
   rw [e8]; exact h8)
 have HSZ5 : Hid (szNs (remFs f up nm t).nodes ≤ 1048576) := qhZ (by have := remFs_sz (p := nm) (t := t) hup; have := HS.out; unfold szF at *; omega)
 have HPL := qhZ (placesIn_any (remFs f up nm t).nodes _ _ HNA5.out HSZ5.out (by rw [HLEN.out]; exact hpl8) (remFs_lead hup HLD.out))
 clear hE3 hg3 hGL hDL hqs e2 k2 hn3
 go_wp2_with (go_at_call 117; rw [← hW5]; (with_reducible refine HPL.out.mono ?_))
 rintro e w6 ⟨pv, rfl, hp, hb6⟩
 obtain ⟨Gp, cp, rfl, hcp, hcm, -, hrr⟩ := hp
 unfold maxLen at hcm
 rw [HLEN.out] at hcp ⊢
 have p0 := hrr.cell (j := nd * 3) (by rw [HLEN.out]; omega)
 rw [plF0, pl_links] at p0
 have KD6 := qhZ (aD9 hb6 KD5.out)
 have HB6 := qhZ (HB5.out.trans (hb6.mono (Nat.le_trans hR HB5.out.size)))
 have HO6 := qhZ (HO5.out.below hb6)
 obtain ⟨lk, hlk⟩ : ∃ lk, lk = links (nd : Int) (remFs f up nm t).nodes := ⟨_, rfl⟩
 rw [← hlk] at p0
 have hn0 : (0 : Int) ≤ (nd : Int) := by omega
 have hn1 : (nd : Int) < (ps.length : Int) := by omega
 have d6 : w6.cell? ⟨d, 0, none⟩ = some (.slice (some ⟨G, 0, none⟩) ps.length cc) := (aA9 KD6.out 0).trans rfl
 clear hb6 hrr k6 k4 kf d3 d30 hW5
 by_cases hz : lk = 0
 · have HF : Hid (takFs f up nm t = ⟨(remFs f up nm t).nodes.set nd nod0, f.room⟩) := qhZ (takFs_yes HND.out (by rw [← hlk, hz]))
   subst hz
   rw [← hql] at HO6
   have hnq : nd < qs.length := by omega
   obtain ⟨g9, cap9, e9, hRg9, hgl9, hn9, hm9, hc9, hfr9⟩ := HO6.out.at (i := nd) hnq
   simp only [Value.slice.injEq, Option.some.injEq, Addr.mk.injEq, and_true, true_and] at e9
   obtain ⟨rfl, rfl⟩ := e9
   have HOZ := qhZ (HO6.out.whole (i := nd) hnq nod0 rfl)
   rw [hql] at HOZ
   have HMZ : Hid ((qs.set nd (nod0, Value.slice none 0 0)).map Prod.fst = (takFs f up nm t).nodes) := qhZ (by rw [List.map_set, HMP.out, HF.out])
   have HBZ := qhZ (bel_row (i := nd) HB6.out hRG (.int .i64 0) (.int .i64 0) (.int .i64 0) (.int .i64 0) (.int .i64 0) (.string ⟨#[]⟩) (.slice none 0 0))
   have KDZ := qhZ ((row_ne (w := w6) (i := nd) hdg (.int .i64 0) (.int .i64 0) (.int .i64 0) (.int .i64 0) (.int .i64 0) (.string ⟨#[]⟩) (.slice none 0 0)).trans KD6.out)
   obtain ⟨q0, q1, q2, q3, q4, q5, q6⟩ := hc9
   have qf := hfr9
   clear hql hlk
   go_wp2
   go_end0
   first
     | exact ⟨rfl, HBZ.out, KDZ.out, _, HMZ.out, HOZ.out⟩
     | exact ⟨rfl, HBZ.out, _, KDZ.out, HMZ.out, HOZ.out⟩
 · have HF : Hid (takFs f up nm t = remFs f up nm t) := qhZ (takFs_no HND.out (by rw [← hlk]; exact hz))
   have hzb : ((lk : Int) == 0) = false := beq_eq_false_iff_ne.2 (by omega)
   clear hlk hz
   go_wp2
   go_end0
   first
     | exact ⟨rfl, HB6.out, KD6.out, _, by rw [HF.out]; exact HMP.out, HO6.out⟩
     | exact ⟨rfl, HB6.out, _, KD6.out, by rw [HF.out]; exact HMP.out, HO6.out⟩
def tkC (f : FsD) (u g : Int) (up : Nat) (nm : List UInt8) (dir : Bool) : Int :=
 if isE (aC9 f.nodes up).list nm = false then 2
 else if dir = false ∧ (aC9 f.nodes (nbN (aC9 f.nodes up).list nm).toNat).kind = 2 then 7
 else if dir = true ∧ (aC9 f.nodes (nbN (aC9 f.nodes up).list nm).toNat).kind ≠ 2 then 3
 else if 0 < (aC9 f.nodes (nbN (aC9 f.nodes up).list nm).toNat).list.length then 9
 else if mayB u g (aC9 f.nodes up).mode (aC9 f.nodes up).uid (aC9 f.nodes up).gid 3 = false then 4 else 0
def cutC (f : FsD) (u g : Int) (l : List UInt8) (dir : Bool) : Int :=
 if (fp0 f.nodes u g l).1 ≠ 0 then (fp0 f.nodes u g l).1 else tkC f u g (fp0 f.nodes u g l).2.1 (fp0 f.nodes u g l).2.2 dir
def cutG (f : FsD) (u g : Int) (l : List UInt8) (t : Int) : FsD := takFs f (fp0 f.nodes u g l).2.1 (fp0 f.nodes u g l).2.2 t
theorem cutC_bad {f : FsD} {u g : Int} {l : List UInt8} {dir : Bool} {cd : Int} {nd : Nat} {nm : List UInt8} (h : fp0 f.nodes u g l = (cd, nd, nm)) (hc : cd ≠ 0) : cutC f u g l dir = cd := by unfold cutC; rw [h]; simp [hc]
theorem cutC_go {f : FsD} {u g : Int} {l : List UInt8} {dir : Bool} {up : Nat} {nm : List UInt8} (h : fp0 f.nodes u g l = (0, up, nm)) : cutC f u g l dir = tkC f u g up nm dir := by unfold cutC; rw [h]; simp
theorem tkC_none {f : FsD} {u g : Int} {up : Nat} {nm : List UInt8} {dir : Bool} (h : isE (aC9 f.nodes up).list nm = false) : tkC f u g up nm dir = 2 := by unfold tkC; rw [if_pos h]
theorem tkC_kind {f : FsD} {u g : Int} {up : Nat} {nm : List UInt8} {nd : Nat} {dir : Bool} (h : isE (aC9 f.nodes up).list nm = true) (hn : nbN (aC9 f.nodes up).list nm = (nd : Int)) : tkC f u g up nm dir =
   if dir = false ∧ (aC9 f.nodes nd).kind = 2 then 7 else if dir = true ∧ (aC9 f.nodes nd).kind ≠ 2 then 3 else if 0 < (aC9 f.nodes nd).list.length then 9
   else if mayB u g (aC9 f.nodes up).mode (aC9 f.nodes up).uid (aC9 f.nodes up).gid 3 = false then 4 else 0 := by
 unfold tkC; rw [if_neg (by rw [h]; decide), hn, Int.toNat_natCast]
theorem cutG_facts {f : FsD} {u g : Int} {l : List UInt8} {t : Int} {dir : Bool} (hk : bC9 f u g = true) (hs : szF f ≤ 1048576) (hnf : aV9 f.nodes) (h0 : cutC f u g l dir = 0) : szF (cutG f u g l t) ≤ 2097152 ∧ aV9 (cutG f u g l t).nodes := by
 obtain ⟨⟨cd, up, nm⟩, hf⟩ : ∃ q, fp0 f.nodes u g l = q := ⟨_, rfl⟩
 by_cases hc : cd = 0
 · subst hc
   obtain ⟨-, hup, -⟩ := fp0_facts (look_of (bN9 hk) hs).1 hf
   unfold cutG
   rw [hf]
   show szF (takFs f up nm t) ≤ 2097152 ∧ aV9 (takFs f up nm t).nodes
   exact ⟨by have := takFs_sz (p := nm) (t := t) hup; omega, takFs_fit hup hnf⟩
 · rw [cutC_bad hf hc] at h0; exact absurd h0 hc
end Go.Proofs.YtknhacblialboaaGreatDoor
