
/-
  The walks of impl.partsIn and of its closure.
  Conditions: a text's length is a length.
-/
import Derived.Test.YthobfdcomcknoaaDoorIterC
namespace Go.Proofs.YthobfdcomcknoaaDoor
open Go.RowKit Go.Shelf
set_option linter.unusedVariables false
attribute [local go_sem] Oper.semAt_some

set_option maxHeartbeats 1000000 in
theorem partsIn_in (F : Fence) (n : Nat) (hf : F.fn 25) (hro : F.round = none) (s : ByteArray) (w : World) :
    CallsIn F n Tryd.prog 25 #[.string s] w fun e w' => e = .returned (.func (.func 28) #[] #[.pointer (some ⟨w.heap.size, 0, none⟩)]) ∧ w' = w.alloc (.cells #[.string s] 9) := by
  refine callsIn_of_wp Tryd.func25 rfl hf ?_ hro
  simp only [Tryd.ntmps25, List.size_toArray, List.length_cons, List.length_nil, Nat.reduceAdd, Nat.reduceSub, Array.replicate_succ, Array.replicate_zero, List.push_toArray, List.append_toArray, List.nil_append, List.cons_append]
  gi_wp2
  go_ret
  exact ⟨rfl, rfl⟩

set_option maxRecDepth 100000 in
set_option maxHeartbeats 2000000 in
theorem iter_in (F : Fence) (n : Nat) (hf : F.fn 28) (hro : F.round = none) (hn : 1 ≤ n) (l b : Nat) (s : ByteArray) (hs : s.size ≤ maxLen) (J Jx : List ByteArray → World → Prop) (W : World) (hJ : AbidesFrom W.heap.size J)
    (hY : ∀ pre x W1, J pre W1 → pre.length < (parts s.data.toList).length → YieldAt F (n - 1) Tryd.prog l #[.string x] W1 fun e W' =>
      (e = .returned (.bool true) ∧ J (pre ++ [x]) W' ∧ KpB b W1 W') ∨ (e = .returned (.bool false) ∧ Jx (pre ++ [x]) W'))
    (hB : W.cell? ⟨b, 0, none⟩ = some (.string s)) (h0 : J [] W) :
    CallsIn F n Tryd.prog 28 #[.func (.yield l) #[] #[], .pointer (some ⟨b, 0, none⟩)] W fun e W' => (∃ v, e = .returned v) ∧
      ((∃ ys, ys = (parts s.data.toList).map bs ∧ J ys W') ∨ (∃ pre, pre <+: (parts s.data.toList).map bs ∧ Jx pre W')) := by
  unfold maxLen at hs
  refine callsIn_of_wp Tryd.func28 rfl hf ?_ hro
  simp only [Tryd.ntmps28, List.size_toArray, List.length_cons, List.length_nil, Nat.reduceAdd, Nat.reduceSub, Array.replicate_succ, Array.replicate_zero, List.push_toArray, List.append_toArray, List.nil_append, List.cons_append]
  gi_wp2
  gi_loopw [3] (fun f wr => ∃ (pos frm : Nat), f = .int .i64 frm ∧ Cut s pos frm ∧ wr.heap[W.heap.size]? = some (.stringIter s pos) ∧ wr.cell? ⟨b, 0, none⟩ = some (.string s) ∧ J ((given s pos).map bs) wr)
    (fun _ wr => s.size - wr.iterPos W.heap.size)
  case atStart =>
    refine ⟨0, 0, rfl, Cut.start s, ?_, ?_, ?_⟩
    · exact World.iter_heap W s 0
    · exact (World.cell?_of_block (a := ⟨b, 0, none⟩) (Below.heap_alloc W _ b (World.block_lt_of_cell? W _ hB))).trans hB
    · rw [given_start]
      exact hJ [] W _ none h0 (World.grownBy_alloc W _ none) (fun r e => by cases e)
  case round =>
    obtain ⟨pos, frm, rfl, hC, hit, hcell, hj⟩ := hrel
    have HC := Lib.hid hC
    have htop := hC.top
    have hle := hC.le
    clear hC
    by_cases hp : pos < s.size
    · by_cases h47 : (Utf8.decode s pos).1 = 47
      · obtain ⟨hb47, hw1⟩ := slash_byte hp h47
        have hnx : ∀ ty, (Instr.next (.pointer (some ⟨W.heap.size, 0, none⟩)) true ty).run Tryd.prog wr = .ok (.tuple #[.bool true, .int .i64 pos, .int .i32 47]) (wr.iterAt W.heap.size s (pos + 1)) := by
          intro ty
          rw [Lib.run_next_any_at wr W.heap.size s pos ty hit hp, h47, hw1]
          rfl
        have hit2 := Lib.iterAt_heap wr W.heap.size s pos (pos + 1) hit
        have hcell2 := cell_iterAt hit hcell (pos + 1)
        have hj2 := abides_next hJ hj hit (Nat.le_refl _) (pos + 1)
        have HS := Lib.hid (HC.out.slash hp hb47).1
        have HM : Hid (wr.iterPos W.heap.size = pos) := Lib.hid (by simp [World.iterPos, hit])
        by_cases hlt : frm < pos
        · have HG := Lib.hid (HC.out.gives hp hb47 hlt)
          have hpre : (given s pos).length < (parts s.data.toList).length := len_of_prefix (by rw [← HG.out]; exact given_prefix s (pos + 1))
          have HX : Hid (s.extract frm pos = bs ((s.data.toList.take pos).drop frm)) := Lib.hid (bs_ext s frm pos)
          obtain ⟨fn, tmps, assign, body, hy, hR⟩ := hY ((given s pos).map bs) (s.extract frm pos) _ hj2 (by simpa using hpre)
          clear hb47 hw1 h47
          have HIT := Lib.hid hit2
          clear hit hit2
          gi_wp2
          refine hR.mono ?_
          rintro e W3 (⟨rfl, hJ3, hk3⟩ | ⟨rfl, hJx3⟩)
          · have hc3 : W3.cell? ⟨b, 0, none⟩ = some (.string s) := hk3.2.trans hcell2
            gi_wp2
            go_roundw
            case rel =>
              refine ⟨pos + 1, pos + 1, by go_num, HS.out, hk3.1.same _ _ HIT.out rfl, hc3, ?_⟩
              rw [HG.out, List.map_append, List.map_cons, List.map_nil, ← HX.out]
              exact hJ3
            case measure =>
              have : W3.iterPos W.heap.size = pos + 1 := by simp [World.iterPos, hk3.1.same _ _ HIT.out rfl]
              rw [HM.out, this]; omega
          · gi_wp2
            refine bodyPost_ret (results_none rfl _ _ _) rfl ?_
            refine ⟨⟨_, rfl⟩, .inr ⟨_, ?_, hJx3⟩⟩
            have := map_prefix (given_prefix s (pos + 1))
            rw [HG.out, List.map_append, List.map_cons, List.map_nil, ← HX.out] at this
            exact this
        · have HG := Lib.hid (HC.out.skips hp hb47 hlt)
          clear hb47 hw1 h47
          have HIT := Lib.hid hit2
          clear hit hit2
          gi_wp2
          refine ⟨fun _ h => (by cases h), ?_⟩
          gi_wp2
          go_roundw
          case rel => exact ⟨pos + 1, pos + 1, by go_num, HS.out, HIT.out, hcell2, by rw [HG.out]; exact hj2⟩
          case measure =>
            have : (wr.iterAt W.heap.size s (pos + 1)).iterPos W.heap.size = pos + 1 := by simp [World.iterPos, HIT.out]
            rw [HM.out, this]; omega
      · obtain ⟨HR, HG⟩ := HC.out.rune hp h47
        have hd := decode_bytes s pos hp
        have hdl := decode_le s pos
        obtain ⟨r, hr⟩ : ∃ r, r = (Utf8.decode s pos).1 := ⟨_, rfl⟩
        obtain ⟨wd, hwd⟩ : ∃ wd, wd = (Utf8.decode s pos).2 := ⟨_, rfl⟩
        have hnx : ∀ ty, (Instr.next (.pointer (some ⟨W.heap.size, 0, none⟩)) true ty).run Tryd.prog wr = .ok (.tuple #[.bool true, .int .i64 pos, .int .i32 (r : Int)]) (wr.iterAt W.heap.size s (pos + wd)) := by
          intro ty
          rw [hr, hwd]
          exact Lib.run_next_any_at wr W.heap.size s pos ty hit hp
        rw [← hr] at h47 hdl
        rw [← hwd] at HR HG hd
        have hne : ((r : Int) != 47) = true := by simp; omega
        have HR' := Lib.hid HR
        have HG' := Lib.hid HG
        obtain ⟨hd1, hd2, _⟩ := hd
        clear HR HG hr hwd
        have hit2 := Lib.iterAt_heap wr W.heap.size s pos (pos + wd) hit
        have hcell2 := cell_iterAt hit hcell (pos + wd)
        have hj2 := abides_next hJ hj hit (Nat.le_refl _) (pos + wd)
        have HM : Hid (wr.iterPos W.heap.size = pos) := Lib.hid (by simp [World.iterPos, hit])
        have HIT := Lib.hid hit2
        clear hit hit2
        gi_wp2
        go_roundw
        case rel => exact ⟨pos + wd, frm, rfl, HR'.out, HIT.out, hcell2, by rw [HG'.out]; exact hj2⟩
        case measure =>
          have : (wr.iterAt W.heap.size s (pos + wd)).iterPos W.heap.size = pos + wd := by simp [World.iterPos, HIT.out]
          rw [HM.out, this]; omega
    · obtain rfl : pos = s.size := by omega
      have hnx : ∀ ty, (Instr.next (.pointer (some ⟨W.heap.size, 0, none⟩)) true ty).run Tryd.prog wr = _ := fun ty => Lib.run_next_end_at wr W.heap.size s s.size ty hit hp
      clear hit
      by_cases hlt : frm < s.size
      · have HG := Lib.hid (HC.out.last hlt)
        have hpre : (given s s.size).length < (parts s.data.toList).length := by rw [HG.out]; simp
        have HX : Hid (s.extract frm s.size = bs ((s.data.toList.take s.size).drop frm)) := Lib.hid (bs_ext s frm s.size)
        obtain ⟨fn, tmps, assign, body, hy, hR⟩ := hY ((given s s.size).map bs) (s.extract frm s.size) _ hj (by simpa using hpre)
        gi_wp2
        refine hR.mono ?_
        rintro e W3 (⟨rfl, hJ3, hk3⟩ | ⟨rfl, hJx3⟩)
        · gi_wp2
          go_end0
          refine ⟨⟨_, rfl⟩, .inl ⟨_, rfl, ?_⟩⟩
          rw [HG.out, List.map_append, List.map_cons, List.map_nil, ← HX.out]
          exact hJ3
        · gi_wp2
          go_end0
          refine ⟨⟨_, rfl⟩, .inr ⟨_, ?_, hJx3⟩⟩
          rw [HG.out, List.map_append, List.map_cons, List.map_nil, ← HX.out]
          exact List.prefix_refl _
      · have HG := Lib.hid (HC.out.ended hlt)
        gi_wp2
        go_end0
        exact ⟨⟨_, rfl⟩, .inl ⟨_, rfl, by rw [HG.out]; exact hj⟩⟩

theorem iter_stops (F : Fence) (n : Nat) (hf : F.fn 28) (hro : F.round = none) (hn : 1 ≤ n) (b : Nat) (s : ByteArray) (hs : s.size ≤ maxLen) (w : World) (hb : b < w.heap.size) (hc : w.cell? ⟨b, 0, none⟩ = some (.string s)) :
    SeqStopsK F n Tryd.prog 28 #[.pointer (some ⟨b, 0, none⟩)] (fun x : ByteArray => #[Value.string x]) (KpB b) (fun ys => ys = (parts s.data.toList).map bs) (fun pre => pre <+: (parts s.data.toList).map bs) (parts s.data.toList).length w := fun l J Jx W hW hJ _ hY h0 =>
  iter_in F n hf hro hn l b s hs J Jx W hJ hY ((hW.cell (p := ⟨b, 0, none⟩) hb).trans hc) h0
end Go.Proofs.YthobfdcomcknoaaDoor
