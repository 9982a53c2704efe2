/-
  Joined: WriS.
  Conditions: as each states.
-/
import Derived.Test.YtpkmkpeabfmbiaaGreatDoorLib15
import Derived.Test.YtpkmkpeabfmbiaaGreatDoorLib20
import Derived.Test.YtpkmkpeabfmbiaaGreatDoorLib23

/-
  The program's checkRoom, write and WriteFile.
  Conditions: at most 2^20 values and letters together; texts of at most 2^20 bytes; the variable errors.errorType as the program's text lays it.
-/
namespace Go.Proofs.YtpkmkpeabfmbiaaGreatDoor
open Go.ChangeShapes Go.WideShapes Go.ChangeAt Go.RowKit Go.Joins Go.Shelf
set_option linter.unusedVariables false
set_option linter.unusedSimpArgs false

set_option maxHeartbeats 2000000 in
theorem bytesOf_big (ns : List Nod) (v : Value) (w : World) (hR : NodsA w v ns) (hT : sumD ns ≤ 1073741824) (hl : ns.length ≤ 1048576) : Calls Tryz.prog 117 #[v] w fun e w' => e = .returned (.int .i64 (sumD ns : Nat)) ∧ w = w' := by
  obtain ⟨o, c, rfl, hm, hH⟩ := hR
  have HH := Lib.hid hH
  clear hH
  unfold maxLen at hm
  go_enter Tryz.func117, Tryz.ntmps117
  go_wp2
  go_loop [3, 7] (fun t i => ∃ k : Nat, k ≤ ns.length ∧ i = .int .i64 k ∧ t = .int .i64 (sumD (ns.take k) : Nat)) (fun _ i => ns.length - (intOf i).toNat)
  case atStart => exact ⟨0, Nat.zero_le _, rfl, rfl⟩
  case round =>
    obtain ⟨k, hk, rfl, rfl⟩ := hrel
    by_cases hlt : k < ns.length
    · obtain ⟨g, off, lv, rfl, hg, hc, he, hml⟩ := HH.out k hlt
      have HS := Lib.hid (sumD_take hlt)
      have hle := sumD_pre ns (k + 1)
      have d5 := hc.c5
      have HZ : Hid ((bs ns[k].data).size = ns[k].data.length) := Lib.hid (bs_size _)
      obtain ⟨x, hxx⟩ : ∃ x, x = bs ns[k].data := ⟨_, rfl⟩
      rw [← hxx] at d5 HZ
      have hx : sumD (ns.take k) + x.size ≤ 1073741824 := by rw [HZ.out, ← HS.out]; omega
      clear hc he hml hxx hle
      go_wp2
      go_round
      case rel => exact ⟨k + 1, hlt, by go_num, by rw [HS.out, ← HZ.out]; go_num⟩
      case measure => simp [intOf]; omega
    · have HT : Hid (ns.take k = ns) := Lib.hid (List.take_of_length_le (by omega))
      go_wp2
      go_ret
      exact ⟨ret_int (by rw [HT.out]), rfl⟩


theorem bytesOf_is {ns : List Nod} {v : Value} {w : World} {n : Nat} (h : sumD ns = n) (hR : NodsA w v ns) (hT : n ≤ 1073741824) (hl : ns.length ≤ 1048576) : Calls Tryz.prog 117 #[v] w fun e w' => e = .returned (.int .i64 (n : Int)) ∧ Below w.heap.size w w' := by
  subst h
  refine (bytesOf_big ns v w hR hT hl).mono ?_
  rintro e w' ⟨rfl, rfl⟩
  exact ⟨rfl, Below.refl _ _⟩
set_option maxRecDepth 100000 in
set_option maxHeartbeats 2000000 in
theorem checkRoom_any (ns : List Nod) (o : Option Addr) (n0 c0 : Nat) (room : Int) (x2 x3 x4 : Value) (d : Nat) (w : World) (hD : w.heap[d]? = some (.cells #[.slice o n0 c0, .int .i64 room, x2, x3, x4] 150)) (hN : NodsA w (.slice o n0 c0) ns) (hT : sumD ns ≤ 1073741824) (hl : ns.length ≤ 1048576) :
    Calls Tryz.prog 104 #[.pointer (some ⟨d, 0, none⟩)] w fun e w' => e = .returned (errC (if room < (sumD ns : Int) then 8 else 0)) ∧ Below w.heap.size w w' := by
  have HD := Lib.hid hD
  have HN := Lib.hid hN
  have HL := Lib.hid hl
  obtain ⟨SS, hSS⟩ : ∃ SS, sumD ns = SS := ⟨_, rfl⟩
  have HSS := Lib.hid hSS
  rw [hSS] at hT ⊢
  have HT := Lib.hid hT
  have HK0 : Hid (Below w.heap.size w w) := Lib.hid (Below.refl _ _)
  have KS : Hid (∀ W, Below w.heap.size w W → (fun w' => w'.cell? ⟨d, 0, none⟩ = some (.slice o n0 c0) ∧ w'.cell? ⟨d, 1, none⟩ = some (.int .i64 room)) W) := Lib.hid (fun W h => ⟨(cell_blk (blk_step h HD.out) 0).trans rfl, (cell_blk (blk_step h HD.out) 1).trans rfl⟩)
  clear hD hN hl hSS
  by_cases hr : room < (SS : Int)
  · have HV : Hid (errC (if room < (SS : Int) then 8 else 0) = errC 8) := Lib.hid (by rw [if_pos hr])
    go_enter Tryz.func104, Tryz.ntmps104
    go_wp2
    go_region_held3 (fun w' => w'.cell? ⟨d, 0, none⟩ = some (.slice o n0 c0) ∧ w'.cell? ⟨d, 1, none⟩ = some (.int .i64 room)) (first | exact KS.out _ (by (first | (with_reducible exact HK0.out) | (with_reducible exact bel_dr HK0.out) | (with_reducible exact HKa.out) | (with_reducible exact bel_dr HKa.out))))
      (first | (go_at_call 117; (with_reducible refine (bytesOf_is HSS.out (HN.out.below (by (first | (with_reducible exact HK0.out) | (with_reducible exact bel_dr HK0.out)))) HT.out HL.out).mono ?_); rintro e wa ⟨rfl, hba⟩; have HKa := Lib.hid (bel_both (w := w) (by (first | (with_reducible exact HK0.out) | (with_reducible exact bel_dr HK0.out))) hba).2; clear hba))
    go_wp2
    go_ret
    exact ⟨rfl, HKa.out⟩
  · have HV : Hid (errC (if room < (SS : Int) then 8 else 0) = .nilIface) := Lib.hid (by rw [if_neg hr]; rfl)
    go_enter Tryz.func104, Tryz.ntmps104
    go_wp2
    go_region_held3 (fun w' => w'.cell? ⟨d, 0, none⟩ = some (.slice o n0 c0) ∧ w'.cell? ⟨d, 1, none⟩ = some (.int .i64 room)) (first | exact KS.out _ (by (first | (with_reducible exact HK0.out) | (with_reducible exact bel_dr HK0.out) | (with_reducible exact HKa.out) | (with_reducible exact bel_dr HKa.out))))
      (first | (go_at_call 117; (with_reducible refine (bytesOf_is HSS.out (HN.out.below (by (first | (with_reducible exact HK0.out) | (with_reducible exact bel_dr HK0.out)))) HT.out HL.out).mono ?_); rintro e wa ⟨rfl, hba⟩; have HKa := Lib.hid (bel_both (w := w) (by (first | (with_reducible exact HK0.out) | (with_reducible exact bel_dr HK0.out))) hba).2; clear hba))
    go_wp2
    go_ret
    exact ⟨rfl, HKa.out⟩
theorem sumD_set (ns : List Nod) (i : Nat) (q : Nod) (h : i < ns.length) : (sumD (ns.set i q) : Int) = (sumD ns : Int) - ((nodeAt ns i).data.length : Int) + (q.data.length : Int) := by
  rw [show nodeAt ns i = ns[i] from getD_at h]
  unfold sumD
  induction ns generalizing i with
  | nil => simp at h
  | cons a r ih =>
    cases i with
    | zero => simp; omega
    | succ k =>
      have := ih k (by simpa using h)
      simp only [List.set_cons_succ, List.map_cons, List.sum_cons, List.getElem_cons_succ]
      omega
set_option maxHeartbeats 2000000 in
theorem write_long (f : FsD) (u g t : Int) (s x : ByteArray) (hs : szF f ≤ 1048576) (hk : askB4 f u g = true) (hss : s.size ≤ 1048576) (hfit : NodsFit f.nodes)
    (pb xb d R : Nat) (nv : Value) (ps : List (Nod × Value)) (w1 : World) (hD : w1.heap[d]? = some (.cells #[nv, .int .i64 f.room, .int .i64 u, .int .i64 g, .int .i64 t] 150)) (hps : ps.map Prod.fst = f.nodes) (hO : Own w1 R nv ps) (hx : 60 < x.size) : Calls Tryz.prog 71 #[.pointer (some ⟨d, 0, none⟩), .string s, .string x] w1 fun e w' => e = .returned (errC 1) ∧ Below w1.heap.size w1 w' := by
  have hxi : (60 : Int) < (x.size : Int) := by omega
  clear hD hO
  go_enter Tryz.func71, Tryz.ntmps71
  go_wp2
  go_ret
  exact ⟨rfl, Below.refl _ _⟩
set_option maxRecDepth 100000 in
set_option maxHeartbeats 2000000 in
theorem write_bad (f : FsD) (u g t : Int) (s x : ByteArray) (hs : szF f ≤ 1048576) (hk : askB4 f u g = true) (hss : s.size ≤ 1048576) (hfit : NodsFit f.nodes)
    (pb xb d R : Nat) (nv : Value) (ps : List (Nod × Value)) (w1 : World) (hD : w1.heap[d]? = some (.cells #[nv, .int .i64 f.room, .int .i64 u, .int .i64 g, .int .i64 t] 150)) (hps : ps.map Prod.fst = f.nodes) (hO : Own w1 R nv ps) (hx : x.size ≤ 60) (cd : Int) (nd : Nat) (hfd : filW f.nodes u g s.data.toList 2 = (cd, nd)) (hc : cd ≠ 0) : Calls Tryz.prog 71 #[.pointer (some ⟨d, 0, none⟩), .string s, .string x] w1 fun e w' => e = .returned (errV s cd) ∧ Below w1.heap.size w1 w' := by
  have hxi : ¬ ((60 : Int) < (x.size : Int)) := by omega
  obtain ⟨oo, cc, rfl, -⟩ := owns_form hO.row
  have HE := Lib.hid (errV_not s hc)
  have HFD := Lib.hid hfd
  have HFA : Hid (FsA w1 (.agg #[.slice oo ps.length cc, .int .i64 f.room]) f) := Lib.hid (by have h := hO.read f.room (by rw [hps]; exact hfit); rw [hps] at h; exact h)
  have HD := Lib.hid hD
  have HS := Lib.hid hs
  have HK := Lib.hid hk
  have HSS := Lib.hid hss
  have HO := Lib.hid hO
  have HPS := Lib.hid hps
  have HFIT := Lib.hid hfit
  have HK0 : Hid (Below w1.heap.size w1 w1) := Lib.hid (Below.refl _ _)
  have KS : Hid (∀ W, Below w1.heap.size w1 W → (fun w' => w'.cell? ⟨d, 0, none⟩ = some (.slice oo ps.length cc) ∧ w'.cell? ⟨d, 1, none⟩ = some (.int .i64 f.room) ∧ w'.cell? ⟨d, 2, none⟩ = some (.int .i64 u) ∧ w'.cell? ⟨d, 3, none⟩ = some (.int .i64 g)) W) := Lib.hid (fun W h => ⟨(cell_blk (blk_step h HD.out) 0).trans rfl, (cell_blk (blk_step h HD.out) 1).trans rfl, (cell_blk (blk_step h HD.out) 2).trans rfl, (cell_blk (blk_step h HD.out) 3).trans rfl⟩)
  clear hD hfd hs hk hss hO hps hc hfit
  go_enter Tryz.func71, Tryz.ntmps71
  go_wp2
  go_region_held3 (fun w' => w'.cell? ⟨d, 0, none⟩ = some (.slice oo ps.length cc) ∧ w'.cell? ⟨d, 1, none⟩ = some (.int .i64 f.room) ∧ w'.cell? ⟨d, 2, none⟩ = some (.int .i64 u) ∧ w'.cell? ⟨d, 3, none⟩ = some (.int .i64 g)) (first | exact KS.out _ (by (first | (with_reducible exact HK0.out) | (with_reducible exact bel_dr HK0.out) | (with_reducible exact HKa.out) | (with_reducible exact bel_dr HKa.out))))
    (first | (go_at_call 103; (with_reducible refine (fileAt_is HFD.out (HFA.out.below (by (first | (with_reducible exact HK0.out) | (with_reducible exact bel_dr HK0.out)))) HS.out HK.out (by decide) HSS.out).mono ?_); rintro e wa ⟨rfl, hba⟩; have HKa := Lib.hid (bel_both (w := w1) (by (first | (with_reducible exact HK0.out) | (with_reducible exact bel_dr HK0.out))) hba).2; clear hba))
  rw [HE.out]
  go_wp2
  go_ret
  exact ⟨by rw [HE.out]; rfl, HKa.out⟩
set_option maxRecDepth 100000 in
set_option maxHeartbeats 4000000 in
theorem write_go (f : FsD) (u g t : Int) (s x : ByteArray) (hs : szF f ≤ 1048576) (hk : askB4 f u g = true) (hss : s.size ≤ 1048576) (hfit : NodsFit f.nodes)
    (pb xb d R : Nat) (nv : Value) (ps : List (Nod × Value)) (w1 : World) (hD : w1.heap[d]? = some (.cells #[nv, .int .i64 f.room, .int .i64 u, .int .i64 g, .int .i64 t] 150)) (hps : ps.map Prod.fst = f.nodes) (hO : Own w1 R nv ps) (hx : x.size ≤ 60) (nd : Nat) (hfd : filW f.nodes u g s.data.toList 2 = (0, nd)) (hlt : nd < f.nodes.length) (hRd : R ≤ d) : Calls Tryz.prog 71 #[.pointer (some ⟨d, 0, none⟩), .string s, .string x] w1 fun e w' => e = .returned (errC (if f.room < (sumD (f.nodes.set nd (wriN x.data.toList t (nodeAt f.nodes nd))) : Int) then 8 else 0)) ∧ Below R w1 w' ∧ ∃ nv2 ps2, w'.heap[d]? = some (.cells #[nv2, .int .i64 f.room, .int .i64 u, .int .i64 g, .int .i64 t] 150) ∧ ps2.map Prod.fst = f.nodes.set nd (wriN x.data.toList t (nodeAt f.nodes nd)) ∧ Own w' R nv2 ps2 := by
  have hxi : ¬ ((60 : Int) < (x.size : Int)) := by omega
  have HX60 := Lib.hid hx
  have hlps : ps.length = f.nodes.length := by rw [← hps]; simp
  have hpl : nd < ps.length := by omega
  have HLP := Lib.hid hlps
  clear hlps
  obtain ⟨gg, cc, rfl, hRg, hgl, hn9, hm9, hc9, hfr9⟩ := hO.at hpl
  have HN := Lib.hid (at_map hps hpl)
  have hdg : d ≠ gg := fun e => by
    subst e
    rcases hO.row.2 with ⟨h1, _⟩ | ⟨g2, c2, cur2, h1, h2, h3, _⟩
    · simp at h1
    · simp only [Value.slice.injEq, Option.some.injEq, Addr.mk.injEq, and_true, true_and] at h1
      rw [← h1.1, hD] at h3
      simp at h3
  have h0i : (0 : Int) ≤ (nd : Int) := by omega
  have h1i : (nd : Int) < (ps.length : Int) := by omega
  have HFD := Lib.hid hfd
  have hlen := (lists_small hs).1
  have HSU := Lib.hid (sumD_fs hs)
  have HLT := Lib.hid hlt
  obtain ⟨ns, hns⟩ : ∃ ns, f.nodes.set nd (wriN x.data.toList t (nodeAt f.nodes nd)) = ns := ⟨_, rfl⟩
  rw [hns]
  obtain ⟨EE, hEE⟩ : ∃ EE, errC (if f.room < (sumD ns : Int) then 8 else 0) = EE := ⟨_, rfl⟩
  rw [hEE]
  have HNS := Lib.hid hns
  have HEE := Lib.hid hEE
  clear hns hEE
  have HFA : Hid (FsA w1 (.agg #[.slice (some ⟨gg, 0, none⟩) ps.length cc, .int .i64 f.room]) f) := Lib.hid (by have h := hO.read f.room (by rw [hps]; exact hfit); rw [hps] at h; exact h)
  have HD := Lib.hid hD
  have HS := Lib.hid hs
  have HK := Lib.hid hk
  have HSS := Lib.hid hss
  have HO := Lib.hid hO
  have HPS := Lib.hid hps
  have HFIT := Lib.hid hfit
  have HK0 : Hid (Below w1.heap.size w1 w1) := Lib.hid (Below.refl _ _)
  have KS : Hid (∀ W, Below w1.heap.size w1 W → (fun w' => w'.cell? ⟨d, 0, none⟩ = some (.slice (some ⟨gg, 0, none⟩) ps.length cc) ∧ w'.cell? ⟨d, 1, none⟩ = some (.int .i64 f.room) ∧ w'.cell? ⟨d, 2, none⟩ = some (.int .i64 u) ∧ w'.cell? ⟨d, 3, none⟩ = some (.int .i64 g)) W) := Lib.hid (fun W h => ⟨(cell_blk (blk_step h HD.out) 0).trans rfl, (cell_blk (blk_step h HD.out) 1).trans rfl, (cell_blk (blk_step h HD.out) 2).trans rfl, (cell_blk (blk_step h HD.out) 3).trans rfl⟩)
  clear hD hfd hs hk hss hO hps hfit hc9 hlt hfr9
  go_enter Tryz.func71, Tryz.ntmps71
  go_wp2
  go_region_held3 (fun w' => w'.cell? ⟨d, 0, none⟩ = some (.slice (some ⟨gg, 0, none⟩) ps.length cc) ∧ w'.cell? ⟨d, 1, none⟩ = some (.int .i64 f.room) ∧ w'.cell? ⟨d, 2, none⟩ = some (.int .i64 u) ∧ w'.cell? ⟨d, 3, none⟩ = some (.int .i64 g)) (first | exact KS.out _ (by (first | (with_reducible exact HK0.out) | (with_reducible exact bel_dr HK0.out) | (with_reducible exact HKa.out) | (with_reducible exact bel_dr HKa.out))))
    (first | (go_at_call 103; (with_reducible refine (fileAt_is HFD.out (HFA.out.below (by (first | (with_reducible exact HK0.out) | (with_reducible exact bel_dr HK0.out)))) HS.out HK.out (by decide) HSS.out).mono ?_); rintro e wa ⟨rfl, hba⟩; have HKa := Lib.hid (bel_both (w := w1) (by (first | (with_reducible exact HK0.out) | (with_reducible exact bel_dr HK0.out))) hba).2; clear hba))
  rw [errV_okQ]
  have HDa := Lib.hid (blk_step HKa.out HD.out)
  have HOa := Lib.hid (HO.out.below HKa.out)
  have HFAa := Lib.hid (HFA.out.below HKa.out)
  obtain ⟨gg2, cc2, e2, -, hgl2, -, -, hc2, hfr2⟩ := HOa.out.at hpl
  simp only [Value.slice.injEq, Option.some.injEq, Addr.mk.injEq, and_true, true_and] at e2
  obtain ⟨rfl, rfl⟩ := e2
  have x5 := hc2.c5
  have x4 := hc2.c4
  have da0 : wa.cell? ⟨d, 0, none⟩ = some (.slice (some ⟨gg, 0, none⟩) ps.length cc) := cell_blk HDa.out 0
  have da4 : wa.cell? ⟨d, 4, none⟩ = some (.int .i64 t) := cell_blk HDa.out 4
  have HW8 := Lib.hid (HOa.out.turn hpl (show 5 < 7 by decide) (.string x) { (ps[nd]'hpl).1 with data := x.data.toList } (by show (nodV _).set 5 (.string x) = _; unfold nodV; simp [bs_of]) rfl)
  have HW9 : Hid (Own ((wa.setCell ⟨gg, nd * 7 + 5, none⟩ (.string x)).setCell ⟨gg, nd * 7 + 4, none⟩ (.int .i64 t)) R (.slice (some ⟨gg, 0, none⟩) ps.length cc) (ps.set nd (wriN x.data.toList t (ps[nd]'hpl).1, (ps[nd]'hpl).2))) := Lib.hid (by
    have hlen8 : (ps.set nd ({ (ps[nd]'hpl).1 with data := x.data.toList }, (ps[nd]'hpl).2)).length = ps.length := by simp
    have hnd8 : nd < (ps.set nd ({ (ps[nd]'hpl).1 with data := x.data.toList }, (ps[nd]'hpl).2)).length := by simpa using hpl
    have hel8 : (ps.set nd ({ (ps[nd]'hpl).1 with data := x.data.toList }, (ps[nd]'hpl).2))[nd]'hnd8 = ({ (ps[nd]'hpl).1 with data := x.data.toList }, (ps[nd]'hpl).2) := by simp
    have h8 : Own (wa.setCell ⟨gg, nd * 7 + 5, none⟩ (.string x)) R (.slice (some ⟨gg, 0, none⟩) (ps.set nd ({ (ps[nd]'hpl).1 with data := x.data.toList }, (ps[nd]'hpl).2)).length cc) (ps.set nd ({ (ps[nd]'hpl).1 with data := x.data.toList }, (ps[nd]'hpl).2)) := by rw [hlen8]; exact HW8.out
    have h9 := h8.turn hnd8 (show 4 < 7 by decide) (.int .i64 t) (wriN x.data.toList t (ps[nd]'hpl).1) (by rw [hel8]; rfl) (by rw [hel8]; rfl)
    rw [hel8, hlen8, List.set_set] at h9
    exact h9)
  have HMAP : Hid ((ps.set nd (wriN x.data.toList t (ps[nd]'hpl).1, (ps[nd]'hpl).2)).map Prod.fst = ns) := Lib.hid (by rw [map_turn HPS.out, HN.out, HNS.out])
  have HNF : Hid (NodsFit ns) := Lib.hid (by
    have h := setF_fit (ask := true) (f := f) (r := (0, nd)) (h := wriN x.data.toList t) HFIT.out (wriN_fit (by have := HX60.out; omega)) (fun _ => rfl)
    rw [setF_yes] at h
    rw [← HNS.out]; exact h)
  have HSM : Hid (sumD ns ≤ 1073741824) := Lib.hid (by
    have h := sumD_set f.nodes nd (wriN x.data.toList t (nodeAt f.nodes nd)) HLT.out
    rw [HNS.out] at h
    have h2 := HSU.out
    have h3 := HX60.out
    have h4 : (wriN x.data.toList t (nodeAt f.nodes nd)).data.length = x.size := len_size x
    rw [h4] at h
    omega)
  have HLN : Hid (ns.length ≤ 1048576) := Lib.hid (by rw [← HNS.out]; simpa using hlen)
  have HDb : Hid (((wa.setCell ⟨gg, nd * 7 + 5, none⟩ (.string x)).setCell ⟨gg, nd * 7 + 4, none⟩ (.int .i64 t)).heap[d]? = some (.cells #[.slice (some ⟨gg, 0, none⟩) ps.length cc, .int .i64 f.room, .int .i64 u, .int .i64 g, .int .i64 t] 150)) := Lib.hid ((Below.heap_setCell _ ⟨gg, nd * 7 + 4, none⟩ _ d (by simp only; omega)).trans ((Below.heap_setCell _ ⟨gg, nd * 7 + 5, none⟩ _ d (by simp only; omega)).trans HDa.out))
  have HBb : Hid (Below R w1 ((wa.setCell ⟨gg, nd * 7 + 5, none⟩ (.string x)).setCell ⟨gg, nd * 7 + 4, none⟩ (.int .i64 t))) := Lib.hid (((HKa.out.mono (Nat.le_trans hRg (Nat.le_of_lt hgl))).setCell (p := ⟨gg, nd * 7 + 5, none⟩) hRg _).setCell (p := ⟨gg, nd * 7 + 4, none⟩) hRg _)
  clear hc2
  go_wp2_with fail
  refine (checkRoom_any ns _ _ _ f.room _ _ _ d _ HDb.out (by have h := HW9.out.read f.room (by rw [HMAP.out]; exact HNF.out); rw [HMAP.out] at h; obtain ⟨nv7, e7, h7⟩ := h; simp only [Value.agg.injEq, Array.mk.injEq, List.cons.injEq, and_true] at e7; rw [e7]; exact h7) HSM.out HLN.out).mono ?_
  rintro e wb ⟨rfl, hbb⟩
  rw [HEE.out]
  have HBc : Hid (Below R w1 wb) := Lib.hid (HBb.out.trans (hbb.mono (Nat.le_trans hRg (Nat.le_trans (Nat.le_of_lt hgl2) (by simp)))))
  have HDc := Lib.hid (blk_step hbb HDb.out)
  have HOc := Lib.hid (HW9.out.below hbb)
  clear hbb
  go_wp2
  go_ret
  exact ⟨rfl, HBc.out, _, _, HDc.out, HMAP.out, HOc.out⟩
set_option maxHeartbeats 2000000 in
/-- The closure: its two texts come out of boxes. -/
theorem writeFile1_of (s x : ByteArray) (pb xb d : Nat) (w1 : World) (hP : w1.heap[pb]? = some (.cells #[.string s] 9)) (hX : w1.heap[xb]? = some (.cells #[.string x] 9)) (Q : Ending → World → Prop)
    (h : Calls Tryz.prog 71 #[.pointer (some ⟨d, 0, none⟩), .string s, .string x] w1 fun e w' => ∃ E, e = .returned E ∧ Q (.returned E) w') :
    Calls Tryz.prog 70 #[.pointer (some ⟨d, 0, none⟩), .pointer (some ⟨pb, 0, none⟩), .pointer (some ⟨xb, 0, none⟩)] w1 Q := by
  have p0 : w1.cell? ⟨pb, 0, none⟩ = some (.string s) := cell_blk hP 0
  have y0 : w1.cell? ⟨xb, 0, none⟩ = some (.string x) := cell_blk hX 0
  have HH := Lib.hid h
  clear hP hX h
  go_enter Tryz.func70, Tryz.ntmps70
  go_wp2_with fail
  refine HH.out.mono ?_
  rintro e w2 ⟨E, rfl, hq⟩
  have HQ := Lib.hid hq
  clear hq p0 y0
  go_wp2
  exact HQ.out
theorem app1_2 (a b c : Value) : #[a] ++ #[b, c] = #[a, b, c] := rfl
theorem al5s (w : World) (a b c d e : Obj) : let W := ((((w.alloc a).alloc b).alloc c).alloc d).alloc e
    W.heap[w.heap.size]? = some a ∧ W.heap[w.heap.size + 1]? = some b ∧ W.heap[w.heap.size + 2]? = some c ∧ W.heap[w.heap.size + 3]? = some d ∧ W.heap[w.heap.size + 4]? = some e := by
  have s : ∀ (w : World) (o : Obj) (i : Nat) (z : Obj), w.heap[i]? = some z → (w.alloc o).heap[i]? = some z := fun w o i z h => (Below.heap_alloc w o i (lt_of_heap h)).trans h
  have n : ∀ (w : World) (o : Obj) (i : Nat), i = w.heap.size → (w.alloc o).heap[i]? = some o := fun w o i h => by rw [h]; exact heap_alloc_new w o
  exact ⟨s _ _ _ _ (s _ _ _ _ (s _ _ _ _ (s _ _ _ _ (n _ _ _ rfl)))), s _ _ _ _ (s _ _ _ _ (s _ _ _ _ (n _ _ _ (by simp)))), s _ _ _ _ (s _ _ _ _ (n _ _ _ (by simp))), s _ _ _ _ (n _ _ _ (by simp)), n _ _ _ (by simp)⟩
theorem bel5 (w : World) (a b c d e : Obj) : Below w.heap.size w (((((w.alloc a).alloc b).alloc c).alloc d).alloc e) := bel_al (bel_al (bel_al (bel_al (bel_al (Below.refl _ w)))))
set_option maxHeartbeats 2000000 in
/-- tryOn with WriteFile's closure. -/
theorem tryOn_write (f : FsD) (v : Value) (u g t : Int) (s x : ByteArray) (pb xb : Nat) (w : World) (hR : FsA w v f) (hs : szF f ≤ 1048576) (hss : s.size ≤ 1048576) (hE : ErrT w) (hP : w.heap[pb]? = some (.cells #[.string s] 9)) (hX : w.heap[xb]? = some (.cells #[.string x] 9)) :
    Calls Tryz.prog 69 #[v, .agg #[.int .i64 u, .int .i64 g], .int .i64 t, .func (.func 70) #[] #[.pointer (some ⟨pb, 0, none⟩), .pointer (some ⟨xb, 0, none⟩)]] w fun e w' => FsAns w (setF (askT f u g t) f (wriW f u g s.data.toList x.data.toList) (wriN x.data.toList t)).nodes (setF (askT f u g t) f (wriW f u g s.data.toList x.data.toList) (wriN x.data.toList t)).room (setC (askT f u g t) (wriW f u g s.data.toList x.data.toList)) (askT f u g t) e w' := by
  have hfit : NodsFit f.nodes := by obtain ⟨nv, rfl, hN⟩ := hR; exact hN.fit
  have hxl : x.data.toList.length = x.size := len_size x
  cases hA : askT f u g t with
  | false =>
    refine (tryOn_no f v u g t 70 _ w hR hs hA).mono ?_
    rintro e w' ⟨rfl, hb⟩
    exact ⟨_, [], rfl, rfl, Own.nil _ _, hb⟩
  | true =>
    obtain ⟨hk, ht⟩ : askB4 f u g = true ∧ inB 0 1000000 t = true := by unfold askT at hA; simpa using hA
    by_cases hx : 60 < x.size
    · have hr : wriW f u g s.data.toList x.data.toList = (1, 0) := by unfold wriW; rw [hxl, if_pos hx]
      rw [hr, setF_bad (by simp)]
      exact tryOn_bad f (errC 1) 1 (by decide) (fun W h => codeOfC_any 1 W h) v u g t 70 _ w hR hs hE hk ht (enters_of Tryz.func70 (by kernel_rfl) rfl) (fun w1 d R nv ps h1 h2 h3 h4 h5 h6 => by
        rw [app1_2]
        exact writeFile1_of s x pb xb d w1 (blk_step h3 hP) (blk_step h3 hX) _ ((write_long f u g t s x hs hk hss hfit pb xb d R nv ps w1 h4 h5 h6 hx).mono fun e w' hh => ⟨_, hh.1, rfl, hh.2.mono (Nat.le_trans h2 (Nat.le_of_lt (lt_of_heap h4))), nv, ps, blk_step hh.2 h4, h6.below hh.2⟩))
    · obtain ⟨⟨cd, nd⟩, hfd⟩ : ∃ q, filW f.nodes u g s.data.toList 2 = q := ⟨_, rfl⟩
      have hlt : nd < f.nodes.length := by have h7 := filW_lt (look_of (ask_good hk) hs).1 u g s.data.toList 2; rw [hfd] at h7; exact h7
      by_cases hc : cd = 0
      · subst hc
        have hsum := sumD_set f.nodes nd (wriN x.data.toList t (nodeAt f.nodes nd)) hlt
        have hq4 : (wriN x.data.toList t (nodeAt f.nodes nd)).data.length = x.size := hxl
        rw [hq4] at hsum
        by_cases hro : f.room < (sumD f.nodes : Int) - ((nodeAt f.nodes nd).data.length : Int) + (x.size : Int)
        · have hr : wriW f u g s.data.toList x.data.toList = (8, 0) := by unfold wriW; rw [hxl, if_neg hx, hfd]; simp [hro]
          rw [hr, setF_bad (by simp)]
          have he : errC (if f.room < (sumD (f.nodes.set nd (wriN x.data.toList t (nodeAt f.nodes nd))) : Int) then 8 else 0) = errC 8 := by rw [if_pos (by omega)]
          exact tryOn_bad f (errC 8) 8 (by decide) (fun W h => codeOfC_any 8 W h) v u g t 70 _ w hR hs hE hk ht (enters_of Tryz.func70 (by kernel_rfl) rfl) (fun w1 d R nv ps h1 h2 h3 h4 h5 h6 => by
            rw [app1_2]
            exact writeFile1_of s x pb xb d w1 (blk_step h3 hP) (blk_step h3 hX) _ ((write_go f u g t s x hs hk hss hfit pb xb d R nv ps w1 h4 h5 h6 (by omega) nd hfd hlt h2).mono fun e w' hh => by
              obtain ⟨a1, a2, nv9, ps9, a3, a4, a5⟩ := hh
              rw [he] at a1
              exact ⟨_, a1, rfl, a2, nv9, ps9, a3, a5⟩))
        · have hr : wriW f u g s.data.toList x.data.toList = (0, nd) := by unfold wriW; rw [hxl, if_neg hx, hfd]; simp [hro]
          rw [hr, setF_yes]
          have he : errC (if f.room < (sumD (f.nodes.set nd (wriN x.data.toList t (nodeAt f.nodes nd))) : Int) then 8 else 0) = .nilIface := by rw [if_neg (by omega)]; rfl
          exact tryOn_ok f ⟨f.nodes.set nd (wriN x.data.toList t (nodeAt f.nodes nd)), f.room⟩ v u g t 70 _ w hR hs hE hk ht (enters_of Tryz.func70 (by kernel_rfl) rfl) (fun w1 d R nv ps h1 h2 h3 h4 h5 h6 => by
            rw [app1_2]
            exact writeFile1_of s x pb xb d w1 (blk_step h3 hP) (blk_step h3 hX) _ ((write_go f u g t s x hs hk hss hfit pb xb d R nv ps w1 h4 h5 h6 (by omega) nd hfd hlt h2).mono fun e w' hh => by
              obtain ⟨a1, a2, nv9, ps9, a3, a4, a5⟩ := hh
              rw [he] at a1
              exact ⟨_, a1, rfl, a2, nv9, ps9, a3, a4, a5⟩))
      · have hr : wriW f u g s.data.toList x.data.toList = (cd, 0) := by unfold wriW; rw [hxl, if_neg hx, hfd]; simp [hc]
        rw [hr, setF_bad (by simpa using hc)]
        exact tryOn_bad f (errV s cd) cd hc (fun W h => codeOf_any s cd W h) v u g t 70 _ w hR hs hE hk ht (enters_of Tryz.func70 (by kernel_rfl) rfl) (fun w1 d R nv ps h1 h2 h3 h4 h5 h6 => by
          rw [app1_2]
          exact writeFile1_of s x pb xb d w1 (blk_step h3 hP) (blk_step h3 hX) _ ((write_bad f u g t s x hs hk hss hfit pb xb d R nv ps w1 h4 h5 h6 (by omega) cd nd hfd hc).mono fun e w' hh => ⟨_, hh.1, rfl, hh.2.mono (Nat.le_trans h2 (Nat.le_of_lt (lt_of_heap h4))), nv, ps, blk_step hh.2 h4, h6.below hh.2⟩))

set_option maxRecDepth 100000 in
set_option maxHeartbeats 2000000 in
theorem writeFile_any (f : FsD) (v : Value) (u g : Int) (s x : ByteArray) (t : Int) (w : World) (hR : FsA w v f) (hs : szF f ≤ 1048576) (hss : s.size ≤ 1048576) (hsx : x.size ≤ 1048576) (hE : ErrT w) :
    Calls Tryz.prog 33 #[v, .agg #[.int .i64 u, .int .i64 g], .string s, .string x, .int .i64 t] w fun e w' => FsAns w (setF (askT f u g t) f (wriW f u g s.data.toList x.data.toList) (wriN x.data.toList t)).nodes (setF (askT f u g t) f (wriW f u g s.data.toList x.data.toList) (wriN x.data.toList t)).room (setC (askT f u g t) (wriW f u g s.data.toList x.data.toList)) (askT f u g t) e w' := by
  have hmf : ∀ (fn : Fn) (first cap : Array Value) (w : World), (Instr.makeFunc fn first cap).run Tryz.prog w = .ok (.func fn first cap) w := fun _ _ _ _ => rfl
  unfold FsAns
  have HR := Lib.hid hR
  have HS := Lib.hid hs
  have HSS := Lib.hid hss
  have HET := Lib.hid hE
  obtain ⟨F, hF⟩ : ∃ F, (setF (askT f u g t) f (wriW f u g s.data.toList x.data.toList) (wriN x.data.toList t)) = F := ⟨_, rfl⟩
  obtain ⟨CD, hCD⟩ : ∃ C, (setC (askT f u g t) (wriW f u g s.data.toList x.data.toList)) = C := ⟨_, rfl⟩
  obtain ⟨AK, hAK⟩ : ∃ A, (askT f u g t) = A := ⟨_, rfl⟩
  have HCALL : Hid (∀ (pb xb : Nat) (W : World) (v9 : Value), FsA W v9 f → ErrT W → W.heap[pb]? = some (.cells #[.string s] 9) → W.heap[xb]? = some (.cells #[.string x] 9) →
      Calls Tryz.prog 69 #[v9, .agg #[.int .i64 u, .int .i64 g], .int .i64 t, .func (.func 70) #[] #[.pointer (some ⟨pb, 0, none⟩), .pointer (some ⟨xb, 0, none⟩)]] W fun e w' => ∃ nv ps, e = .returned (.tuple #[.agg #[nv, .int .i64 F.room], .int .i64 CD, .bool AK]) ∧ ps.map Prod.fst = F.nodes ∧ Own w' W.heap.size nv ps ∧ Below W.heap.size W w') := Lib.hid (fun pb xb W v9 h2 h3 h4 h5 => by
    have hq := tryOn_write f v9 u g t s x pb xb W h2 HS.out HSS.out h3 h4 h5
    rw [hF, hCD, hAK] at hq
    exact hq)
  rw [hF, hCD, hAK]
  obtain ⟨nv, rfl, hN⟩ := hR
  obtain ⟨o, c, rfl, -, -⟩ := hN
  have HB6 := Lib.hid (bel5 w (.cells #[.slice o f.nodes.length c, .int .i64 f.room] 34) (.cells #[.int .i64 u, .int .i64 g] 36) (.cells #[.string s] 9) (.cells #[.string x] 9) (.cells #[.slice none 0 0, .int .i64 0] 34))
  obtain ⟨k0, k1, k2, k3, k4⟩ := al5s w (.cells #[.slice o f.nodes.length c, .int .i64 f.room] 34) (.cells #[.int .i64 u, .int .i64 g] 36) (.cells #[.string s] 9) (.cells #[.string x] 9) (.cells #[.slice none 0 0, .int .i64 0] 34)
  have K2 := Lib.hid k2
  have K3 := Lib.hid k3
  have KZ := Lib.hid k4
  have HSZ : Hid ((((((w.alloc (.cells #[.slice o f.nodes.length c, .int .i64 f.room] 34)).alloc (.cells #[.int .i64 u, .int .i64 g] 36)).alloc (.cells #[.string s] 9)).alloc (.cells #[.string x] 9)).alloc (.cells #[.slice none 0 0, .int .i64 0] 34)).heap.size = w.heap.size + 5) := Lib.hid (by simp)
  have HR6 := Lib.hid (HR.out.below HB6.out)
  have HE6 := Lib.hid (HET.out.below HB6.out HET.out.1)
  clear hs hss hE k0 k1 k2 k3 k4 hF hCD hAK
  go_enter Tryz.func33, Tryz.ntmps33
  go_wp2_with fail
  refine (HCALL.out (w.heap.size + 2) (w.heap.size + 3) _ _ HR6.out HE6.out K2.out K3.out).mono ?_
  rintro e w2 ⟨nv2, ps2, rfl, hps2, hO2, hb2⟩
  obtain ⟨oo2, cc2, rfl, -⟩ := owns_form hO2.row
  have HB2 := Lib.hid (bel_step HB6.out hb2)
  have KZ2 := Lib.hid (blk_step hb2 KZ.out)
  have HPS := Lib.hid hps2
  have hsz := HSZ.out
  have HO2 := Lib.hid (hO2.low (R := w.heap.size + 5) (Nat.le_of_eq hsz.symm))
  have z0 := (cell_blk KZ2.out 0).trans rfl
  have z1 := (cell_blk KZ2.out 1).trans rfl
  have zf := frozen_blk KZ2.out
  have hq := two_set KZ2.out (.slice oo2 ps2.length cc2) (.int .i64 F.room)
  have t0 := (cell_blk hq 0).trans rfl
  have t1 := (cell_blk hq 1).trans rfl
  have HA9 : Hid (Own _ w.heap.size _ _) := Lib.hid (((HO2.out.besides (b := w.heap.size + 4) (by omega) 0 (.slice oo2 ps2.length cc2)).besides (b := w.heap.size + 4) (by omega) 1 (.int .i64 F.room)).low (by omega))
  have HB9 := Lib.hid (bel_set2 (G := w.heap.size + 4) (x := .slice oo2 ps2.length cc2) (y := .int .i64 F.room) HB2.out (by omega))
  clear hps2 hO2 hb2 hq
  go_wp2
  refine bodyPost_ret (v := .tuple #[.agg #[.slice oo2 ps2.length cc2, .int .i64 F.room], .int .i64 CD, .bool AK]) (by simp [results, Tryz.results33, go_sem, t0, t1]) rfl ?_
  first
    | exact ⟨_, ps2, rfl, HPS.out, HA9.out, HB9.out⟩
    | exact ⟨_, rfl, ps2, HPS.out, HA9.out, HB9.out⟩
end Go.Proofs.YtpkmkpeabfmbiaaGreatDoor
