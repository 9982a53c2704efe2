/-
  Joined: ErrC ErrD ErrE TryA ErrF CollC InoB.
  Conditions: as each states.
-/
import Derived.Stop.Asserts
import Derived.RowKitTokens
import Derived.LaidEql
import Derived.Defers
import Derived.Test.YtpkmkpeabfmbiaaGreatDoorLib1
import Derived.Test.YtpkmkpeabfmbiaaGreatDoorLib3
import Derived.Test.YtpkmkpeabfmbiaaGreatDoorLib4
import Derived.Test.YtpkmkpeabfmbiaaGreatDoorLib5
import Derived.Test.YtpkmkpeabfmbiaaGreatDoorLib10
import Derived.Test.YtpkmkpeabfmbiaaGreatDoorLib11

/-
  errors.As at a target of type *impl.codeFault, for the two errors that chapter 4 makes (none, and a fault with its path around a code); impl.codeOf.
  Conditions: the variable errors.errorType as the program's text lays it.
-/
namespace Go.Proofs.YtpkmkpeabfmbiaaGreatDoor
open Go.ChangeShapes Go.WideShapes Go.ChangeAt Go.RowKit Go.Joins Go.Extern.Stop Go.Stop Go.Extern
set_option linter.unusedVariables false
set_option linter.unusedSimpArgs false

/-- A fault with its path around a code. -/
def faultV (p : ByteArray) (c : Int) : Value := .iface 131 (.agg #[.string p, .iface 129 (.agg #[.int .i64 c])])
def codeV (c : Int) : Value := .iface 129 (.agg #[.int .i64 c])
/-- The variable errors.errorType holds the type error. -/
def ErrT (w : World) : Prop := 0 < w.heap.size ∧ w.cell? ⟨0, 0, none⟩ = some (.iface 200 (.agg #[.pointer (some ⟨2, 68, none⟩)]))
theorem ErrT.below {B : Nat} {w w' : World} (h : ErrT w) (hb : Below B w w') (hB : 0 < B) : ErrT w' :=
  ⟨Nat.lt_of_lt_of_le h.1 hb.size, by rw [hb.cell (p := ⟨0, 0, none⟩) hB]; exact h.2⟩
theorem ErrT.drew {w : World} (h : ErrT w) : ErrT w.drew := h

theorem as_nil (t : Value) (w : World) : Calls Tryz.prog 91 #[.nilIface, t] w fun e w' => e = .returned (.bool false) ∧ w = w' := by
  go_enter Tryz.func91, Tryz.ntmps91
  go_wp2
  go_ret
  exact ⟨rfl, rfl⟩

theorem ec_valueOfP (t : Addr) (w : World) : (ReflectliteValue.unpack (.iface 141 (.pointer (some t)))).run Tryz.prog w
    = .ok (.agg #[.pointer (some ⟨2, 141, none⟩), .pointer (some ⟨w.heap.size, 0, none⟩), .int .u64 150]) (w.alloc (.cells #[.pointer (some t)] 141)) := by kernel_rfl
theorem ec_typeP (a : Addr) (w : World) : (ReflectliteValue.methodAny (ReflectliteValue.valueError "reflectlite.Value.Type" 0) (fun t _ _ _ => ReflectliteType.toType t) #[.agg #[.pointer (some ⟨2, 141, none⟩), .pointer (some a), .int .u64 150]]).run Tryz.prog w
    = .ok (.iface 200 (.agg #[.pointer (some ⟨2, 141, none⟩)])) w := by kernel_rfl
theorem ec_mKind (h : Value) (w : World) : (Go.method 354 200 (.agg #[h]) "Kind").run Tryz.prog w = .ok (187, h) w := by kernel_rfl
theorem ec_mElem (h : Value) (w : World) : (Go.method 354 200 (.agg #[h]) "Elem").run Tryz.prog w = .ok (199, .agg #[h]) w := by kernel_rfl
theorem ec_mImpl (h : Value) (w : World) : (Go.method 354 200 (.agg #[h]) "Implements").run Tryz.prog w = .ok (200, .agg #[h]) w := by kernel_rfl
theorem ec_mAssg (h : Value) (w : World) : (Go.method 354 200 (.agg #[h]) "AssignableTo").run Tryz.prog w = .ok (197, .agg #[h]) w := by kernel_rfl
theorem ec_kindP (w : World) : ((ReflectliteType.abiMethod fun t => (fun a : Nat => Value.int IntKind.u8 (a : Int)) <$> Rtype.kind t) #[.pointer (some ⟨2, 141, none⟩)]).run Tryz.prog w = .ok (.int .u8 22) w := by kernel_rfl
theorem ec_kindE (w : World) : ((ReflectliteType.abiMethod fun t => (fun a : Nat => Value.int IntKind.u8 (a : Int)) <$> Rtype.kind t) #[.pointer (some ⟨2, 129, none⟩)]).run Tryz.prog w = .ok (.int .u8 25) w := by kernel_rfl
theorem rlm (z : Sem Value) (f : TypeId → Addr → Nat → Nat → Sem Value) (v : Value) :
    ReflectliteValue.method z f #[v] = (do match ← ReflectliteValue.parts v with | none => z | some (t, a, fl) => f t a fl (fl % 32)) := rfl
theorem ec_partsP (a : Addr) (w : World) : (ReflectliteValue.parts (.agg #[.pointer (some ⟨2, 141, none⟩), .pointer (some a), .int .u64 150])).run Tryz.prog w = .ok (some (141, a, 150)) w := by kernel_rfl
theorem ec_isNil (a p : Addr) (W : World) (ha : W.cell? a = some (.pointer (some p))) :
    (ReflectliteValue.method (ReflectliteValue.valueError "reflectlite.Value.IsNil" 0) ReflectliteValue.isNil #[.agg #[.pointer (some ⟨2, 141, none⟩), .pointer (some a), .int .u64 150]]).run Tryz.prog W = .ok (.bool false) W := by
  rw [rlm]
  simp only [Sem.run_bind, ec_partsP, Result.andThen]
  simp [ReflectliteValue.isNil, loadVar, isAgg, underlying, Tryz.underlying141, ha, Result.andThen]
theorem ec_elemT (w : World) : (ReflectliteType.method ReflectliteType.elem #[.agg #[.pointer (some ⟨2, 141, none⟩)]]).run Tryz.prog w = .ok (.iface 200 (.agg #[.pointer (some ⟨2, 129, none⟩)])) w := by kernel_rfl
theorem ec_implE (w : World) : (ReflectliteType.relation "Implements" ReflectliteType.implements_ #[.agg #[.pointer (some ⟨2, 129, none⟩)], .iface 200 (.agg #[.pointer (some ⟨2, 68, none⟩)])]).run Tryz.prog w = .ok (.bool true) w := by kernel_rfl
theorem ec_typeOfE (v : Value) (w : World) : (ReflectliteType.typeOf #[.iface 129 v]).run Tryz.prog w = .ok (.iface 200 (.agg #[.pointer (some ⟨2, 129, none⟩)])) w := by kernel_rfl
theorem ec_typeOfF (v : Value) (w : World) : (ReflectliteType.typeOf #[.iface 131 v]).run Tryz.prog w = .ok (.iface 200 (.agg #[.pointer (some ⟨2, 131, none⟩)])) w := by kernel_rfl
theorem ec_assgE (w : World) : (ReflectliteType.relation "AssignableTo" ReflectliteType.assignableTo #[.agg #[.pointer (some ⟨2, 129, none⟩)], .iface 200 (.agg #[.pointer (some ⟨2, 129, none⟩)])]).run Tryz.prog w = .ok (.bool true) w := by kernel_rfl
theorem ec_assgF (w : World) : (ReflectliteType.relation "AssignableTo" ReflectliteType.assignableTo #[.agg #[.pointer (some ⟨2, 131, none⟩)], .iface 200 (.agg #[.pointer (some ⟨2, 129, none⟩)])]).run Tryz.prog w = .ok (.bool false) w := by kernel_rfl
theorem ec_valueOfE (c : Int) (w : World) : (ReflectliteValue.unpack (.iface 129 (.agg #[.int .i64 c]))).run Tryz.prog w
    = .ok (.agg #[.pointer (some ⟨2, 129, none⟩), .pointer (some ⟨w.heap.size, 0, none⟩), .int .u64 153]) (w.alloc (.cells #[.int .i64 c] 129)) := by kernel_rfl
theorem ec_elemOf (w : World) : (Rtype.elem? 141).run Tryz.prog w = .ok (some 129) w := by kernel_rfl
theorem ec_mkE (p : Addr) (w : World) : (ReflectliteValue.mk 129 p ReflectliteValue.flagAddr).run Tryz.prog w = .ok (.agg #[.pointer (some ⟨2, 129, none⟩), .pointer (some p), .int .u64 409]) w := by kernel_rfl
theorem ec_elemV (a p : Addr) (W : World) (ha : W.cell? a = some (.pointer (some p))) :
    (ReflectliteValue.method (ReflectliteValue.valueError "reflectlite.Value.Elem" 0) ReflectliteValue.elem #[.agg #[.pointer (some ⟨2, 141, none⟩), .pointer (some a), .int .u64 150]]).run Tryz.prog W
      = .ok (.agg #[.pointer (some ⟨2, 129, none⟩), .pointer (some p), .int .u64 409]) W := by
  rw [rlm]
  simp only [Sem.run_bind, ec_partsP, Result.andThen]
  simp [ReflectliteValue.elem, loadVar, isAgg, underlying, Tryz.underlying141, ha, Result.andThen, ec_elemOf, ec_mkE]
theorem rls (v x : Value) : ReflectliteValue.set #[v, x] = (do
    let (some (dst, a, fl), some (src, b, _)) := (← ReflectliteValue.parts v, ← ReflectliteValue.parts x)
      | unsupported (.noEntry "extern/(internal/reflectlite.Value).Set.zeroValue")
    if fl / ReflectliteValue.flagAddr % 2 == 0 then unsupported (.noEntry "extern/(internal/reflectlite.Value).Set.unaddressable")
    let val ← loadVar src b
    if ← Rtype.directlyAssignable dst src then storeVar dst a val
    else if ← Rtype.implements dst src then
      if (← Rtype.kind src) == 20 then
        match val with
        | .nilIface => unsupported (.noEntry "extern/reflectlite: a nil value of one interface type handed on as a value of another")
        | _ => storeVar dst a val
      else storeVar dst a (.iface src val)
    else panicString ("reflectlite.Set: value of type " ++ (← Rtype.spelt src) ++ " is not assignable to type " ++ (← Rtype.spelt dst))
    pure (.tuple #[])) := rfl
theorem ec_partsEa (a : Addr) (w : World) : (ReflectliteValue.parts (.agg #[.pointer (some ⟨2, 129, none⟩), .pointer (some a), .int .u64 409])).run Tryz.prog w = .ok (some (129, a, 409)) w := by kernel_rfl
theorem ec_partsE (a : Addr) (w : World) : (ReflectliteValue.parts (.agg #[.pointer (some ⟨2, 129, none⟩), .pointer (some a), .int .u64 153])).run Tryz.prog w = .ok (some (129, a, 153)) w := by kernel_rfl
theorem ec_direct (w : World) : (Rtype.directlyAssignable 129 129).run Tryz.prog w = .ok true w := by kernel_rfl
theorem ec_size (w : World) : (sizeOf 129).run Tryz.prog w = .ok 1 w := by kernel_rfl
theorem ec_load (b : Addr) (c : Int) (W : World) (hb : W.cell? b = some (.int .i64 c)) : (loadVar 129 b).run Tryz.prog W = .ok (.agg #[.int .i64 c]) W := by
  have hb0 : W.cell? (b.add 0) = some (.int .i64 c) := by simpa [Addr.add] using hb
  have h1 : (loadCells b 1).run Tryz.prog W = .ok #[.int .i64 c] W := by
    unfold loadCells loadCellsFrom loadCellsFrom
    simp [hb0, Result.andThen]
  have h2 : (isAgg 129).run Tryz.prog W = .ok true W := by kernel_rfl
  unfold loadVar
  simp only [Sem.run_bind, h2, Result.andThen, if_true, ec_size, h1, Sem.run_pure]
theorem ec_store (ta : Addr) (c : Int) (old : Value) (W : World) (ht : W.cell? ta = some old) (hf : W.frozen? ta = false) : (storeVar 129 ta (.agg #[.int .i64 c])).run Tryz.prog W = .ok () (W.setCell ta (.int .i64 c)) := by
  have h1 : (Value.agg #[.int .i64 c]).cells = #[.int .i64 c] := rfl
  have h3 : ta.add 0 = ta := by simp [Addr.add]
  have h2 : (store ta (.int .i64 c)).run Tryz.prog W = .ok () (W.setCell ta (.int .i64 c)) := by
    rw [run_store Tryz.prog W ta _ _ (by rfl)]
    simp [ht, hf]
  unfold storeVar
  simp only [Sem.run_bind, h1, ec_size, Result.andThen]
  simp [storeCells, h3, h2, Result.andThen]
theorem ec_set (ta b : Addr) (c : Int) (old : Value) (W : World) (hb : W.cell? b = some (.int .i64 c)) (ht : W.cell? ta = some old) (hf : W.frozen? ta = false) :
    (ReflectliteValue.set #[.agg #[.pointer (some ⟨2, 129, none⟩), .pointer (some ta), .int .u64 409], .agg #[.pointer (some ⟨2, 129, none⟩), .pointer (some b), .int .u64 153]]).run Tryz.prog W
      = .ok (.tuple #[]) (W.setCell ta (.int .i64 c)) := by
  rw [rls]
  simp only [Sem.run_bind, ec_partsEa, ec_partsE, Result.andThen]
  simp [ReflectliteValue.flagAddr, ec_load b c W hb, Result.andThen, ec_direct, ec_store ta c old W ht hf]
theorem ec_noAs (v : Value) (xT : TypeId) (w : World) : (Instr.typeAssert (.iface 131 v) xT 205 true).run Tryz.prog w = .ok (.tuple #[.nilIface, .bool false]) w :=
  run_typeAssert_lacksB Tryz.underlying205 (by kernel_rfl) (by kernel_rfl) v xT w
theorem ec_unwrap (v : Value) (xT : TypeId) (w : World) : (Instr.typeAssert (.iface 131 v) xT 208 true).run Tryz.prog w = .ok (.tuple #[.iface 131 v, .bool true]) w :=
  run_typeAssert_hasB Tryz.underlying208 (by kernel_rfl) v xT w
end Go.Proofs.YtpkmkpeabfmbiaaGreatDoor


/-
  errors.As at a target of type *impl.codeFault and a fault with its path around a code: the code; impl.codeOf.
  Conditions: the variable errors.errorType as the program's text lays it.
-/
namespace Go.Proofs.YtpkmkpeabfmbiaaGreatDoor
open Go.ChangeShapes Go.WideShapes Go.ChangeAt Go.RowKit Go.Joins Go.Extern.Stop Go.Stop Go.Extern
set_option linter.unusedVariables false
set_option linter.unusedSimpArgs false

theorem ec_mUnwrap (v : Array Value) (w : World) : (Go.method 354 131 (.agg v) "Unwrap").run Tryz.prog w = .ok (192, .agg v) w := by kernel_rfl

set_option maxRecDepth 100000 in
set_option maxHeartbeats 8000000 in
theorem as_fault (p : ByteArray) (c : Int) (t : Addr) (old : Value) (w : World) (hg : ErrT w) (ht0 : w.cell? t = some old) (hf0 : w.frozen? t = false) :
    Calls Tryz.prog 91 #[faultV p c, .iface 141 (.pointer (some t))] w fun ev w' => ev = .returned (.bool true) ∧ w' = (((((w.alloc (.cells #[.pointer (some t)] 141)).alloc (.cells #[.pointer (some ⟨2, 141, none⟩), .pointer (some ⟨w.heap.size, 0, none⟩), .int .u64 150] 172)).alloc (.cells #[.pointer (some ⟨2, 141, none⟩), .pointer (some ⟨w.heap.size, 0, none⟩), .int .u64 150] 172)).alloc (.cells #[.string p, .iface 129 (.agg #[.int .i64 c])] 131)).alloc (.cells #[.int .i64 c] 129)).setCell t (.int .i64 c) := by
  obtain ⟨hg1, hg0⟩ := hg
  unfold faultV
  have h6 := @run_callFunc_extern Tryz.prog 125 _ (fun args => ReflectliteValue.unpack (args.getD 0 (.tuple #[]))) Tryz.func125 (by kernel_rfl) (by kernel_rfl) (by kernel_rfl) (by kernel_rfl)
  have h7 := @run_callFunc_extern Tryz.prog 126 _ (ReflectliteValue.methodAny (ReflectliteValue.valueError "reflectlite.Value.Type" 0) (fun t _ _ _ => ReflectliteType.toType t)) Tryz.func126 (by kernel_rfl) (by kernel_rfl) (by kernel_rfl) (by kernel_rfl)
  have h8 := @run_callFunc_extern Tryz.prog 127 _ (ReflectliteValue.method (ReflectliteValue.valueError "reflectlite.Value.IsNil" 0) ReflectliteValue.isNil) Tryz.func127 (by kernel_rfl) (by kernel_rfl) (by kernel_rfl) (by kernel_rfl)
  have h27 := @run_callFunc_extern Tryz.prog 187 _ (ReflectliteType.abiMethod fun t => do pure (.int .u8 (← Rtype.kind t))) Tryz.func187 (by kernel_rfl) (by kernel_rfl) (by kernel_rfl) (by kernel_rfl)
  have h37 := @run_callFunc_extern Tryz.prog 199 _ (ReflectliteType.method ReflectliteType.elem) Tryz.func199 (by kernel_rfl) (by kernel_rfl) (by kernel_rfl) (by kernel_rfl)
  have h38 := @run_callFunc_extern Tryz.prog 200 _ (ReflectliteType.relation "Implements" ReflectliteType.implements_) Tryz.func200 (by kernel_rfl) (by kernel_rfl) (by kernel_rfl) (by kernel_rfl)
  have h10 := @run_callFunc_extern Tryz.prog 146 _ ReflectliteType.typeOf Tryz.func146 (by kernel_rfl) (by kernel_rfl) (by kernel_rfl) (by kernel_rfl)
  have h35 := @run_callFunc_extern Tryz.prog 197 _ (ReflectliteType.relation "AssignableTo" ReflectliteType.assignableTo) Tryz.func197 (by kernel_rfl) (by kernel_rfl) (by kernel_rfl) (by kernel_rfl)
  have h11 := @run_callFunc_extern Tryz.prog 147 _ (ReflectliteValue.method (ReflectliteValue.valueError "reflectlite.Value.Elem" 0) ReflectliteValue.elem) Tryz.func147 (by kernel_rfl) (by kernel_rfl) (by kernel_rfl) (by kernel_rfl)
  have h12 := @run_callFunc_extern Tryz.prog 148 _ ReflectliteValue.set Tryz.func148 (by kernel_rfl) (by kernel_rfl) (by kernel_rfl) (by kernel_rfl)
  have tE := ec_typeOfE
  have tF := ec_typeOfF
  have mA := ec_mAssg
  have aE := ec_assgE
  have aF := ec_assgF
  have vE := ec_valueOfE
  have f6 := ec_valueOfP
  have f7 := ec_typeP
  have mK := ec_mKind
  have mE := ec_mElem
  have mI := ec_mImpl
  have kP := ec_kindP
  have kE := ec_kindE
  have eT := ec_elemT
  have iE := ec_implE
  have nA := ec_noAs
  have uW := ec_unwrap
  have mU := ec_mUnwrap
  have n8 := ec_isNil ⟨w.heap.size, 0, none⟩ t ((w.alloc (.cells #[.pointer (some t)] 141)).alloc (.cells #[.pointer (some ⟨2, 141, none⟩), .pointer (some ⟨w.heap.size, 0, none⟩), .int .u64 150] 172)) (by simp)
  have hg2 : ((w.alloc (.cells #[.pointer (some t)] 141)).alloc (.cells #[.pointer (some ⟨2, 141, none⟩), .pointer (some ⟨w.heap.size, 0, none⟩), .int .u64 150] 172)).cell? ⟨0, 0, none⟩ = some (.iface 200 (.agg #[.pointer (some ⟨2, 68, none⟩)])) := by
    rw [World.cell?_alloc_lt _ _ ⟨0, 0, none⟩ (by first | (simp; done) | (simp; omega)), World.cell?_alloc_lt _ _ ⟨0, 0, none⟩ hg1]; exact hg0
  have htl : t.block < w.heap.size := by
    rcases Nat.lt_or_ge t.block w.heap.size with h | h
    · exact h
    · simp [World.cell?, Array.getElem?_eq_none h] at ht0
  have el := ec_elemV ⟨w.heap.size, 0, none⟩ t ((((w.alloc (.cells #[.pointer (some t)] 141)).alloc (.cells #[.pointer (some ⟨2, 141, none⟩), .pointer (some ⟨w.heap.size, 0, none⟩), .int .u64 150] 172)).alloc (.cells #[.pointer (some ⟨2, 141, none⟩), .pointer (some ⟨w.heap.size, 0, none⟩), .int .u64 150] 172)).alloc (.cells #[.string p, .iface 129 (.agg #[.int .i64 c])] 131)) (by rw [World.cell?_alloc_lt _ _ ⟨w.heap.size, 0, none⟩ (by simp; omega), World.cell?_alloc_lt _ _ ⟨w.heap.size, 0, none⟩ (by simp; omega)]; simp)
  have st := ec_set t ⟨w.heap.size + 1 + 1 + 1 + 1, 0, none⟩ c old (((((w.alloc (.cells #[.pointer (some t)] 141)).alloc (.cells #[.pointer (some ⟨2, 141, none⟩), .pointer (some ⟨w.heap.size, 0, none⟩), .int .u64 150] 172)).alloc (.cells #[.pointer (some ⟨2, 141, none⟩), .pointer (some ⟨w.heap.size, 0, none⟩), .int .u64 150] 172)).alloc (.cells #[.string p, .iface 129 (.agg #[.int .i64 c])] 131)).alloc (.cells #[.int .i64 c] 129))
    (by rw [World.cell?_alloc_at _ _ _ _ (by simp)]; rfl)
    (by rw [World.cell?_alloc_lt _ _ t (by simp; omega), World.cell?_alloc_lt _ _ t (by simp; omega), World.cell?_alloc_lt _ _ t (by simp; omega), World.cell?_alloc_lt _ _ t (by simp; omega), World.cell?_alloc_lt _ _ t htl]; exact ht0)
    (by rw [World.frozen?_alloc_old _ _ t (by simp; omega), World.frozen?_alloc_old _ _ t (by simp; omega), World.frozen?_alloc_old _ _ t (by simp; omega), World.frozen?_alloc_old _ _ t (by simp; omega), World.frozen?_alloc_old _ _ t (Nat.ne_of_lt htl)]; exact hf0)
  go_enter Tryz.func91, Tryz.ntmps91
  go_wp2
  refine wp_loop_rounds 2 ?_
  rw [rounds_succ]
  go_wp2
  rw [rounds_succ]
  go_wp2
  go_ret
  exact ⟨rfl, rfl⟩
end Go.Proofs.YtpkmkpeabfmbiaaGreatDoor


/-
  impl.codeOf: the code of an error that chapter 4 makes.
  Conditions: the variable errors.errorType as the program's text lays it.
-/
namespace Go.Proofs.YtpkmkpeabfmbiaaGreatDoor
open Go.ChangeShapes Go.WideShapes Go.ChangeAt Go.RowKit Go.Joins
set_option linter.unusedVariables false
set_option linter.unusedSimpArgs false

/-- No fault at code 0, else a fault with its path around the code. -/
def errV (p : ByteArray) (c : Int) : Value := if c = 0 then .nilIface else faultV p c
def errC (c : Int) : Value := if c = 0 then .nilIface else codeV c
set_option maxHeartbeats 4000000 in
theorem codeOf_any (p : ByteArray) (c : Int) (w : World) (hg : ErrT w) : Calls Tryz.prog 41 #[errV p c] w fun e w' => e = .returned (.int .i64 c) ∧ Below w.heap.size w w' := by
  have hb0 : Below w.heap.size w (w.alloc (.cells #[.int .i64 0] 129)) := (Below.refl _ _).alloc (Nat.le_refl _) _
  by_cases h : c = 0
  · subst h
    have he : errV p 0 = .nilIface := rfl
    rw [he]
    go_enter Tryz.func41, Tryz.ntmps41
    go_wp2_with fail
    refine (as_nil _ _).mono ?_
    rintro e w1 ⟨rfl, rfl⟩
    go_wp2
    go_ret
    exact ⟨rfl, hb0⟩
  · have he : errV p c = faultV p c := by unfold errV; rw [if_neg h]
    rw [he]
    have hE := hg.below hb0 hg.1
    have hc0 : (w.alloc (.cells #[.int .i64 0] 129)).cell? ⟨w.heap.size, 0, none⟩ = some (.int .i64 0) := by simp
    have hf0 : (w.alloc (.cells #[.int .i64 0] 129)).frozen? ⟨w.heap.size, 0, none⟩ = false := by simp
    have HE := Lib.hid hE
    have HC := Lib.hid hc0
    have HF := Lib.hid hf0
    have HB := Lib.hid hb0
    obtain ⟨fv, hfv⟩ : ∃ fv, fv = faultV p c := ⟨_, rfl⟩
    rw [← hfv]
    have HV := Lib.hid hfv
    clear hE hc0 hf0 hb0 hfv he
    go_enter Tryz.func41, Tryz.ntmps41
    go_wp2_with fail
    rw [HV.out]
    refine (as_fault p c _ _ _ HE.out HC.out HF.out).mono ?_
    rintro e w1 ⟨rfl, hw1⟩
    have hb1 : Below w.heap.size w w1 := by
      rw [hw1]
      exact ((((((HB.out.alloc HB.out.size _).alloc (by simp; omega) _).alloc (by simp; omega) _).alloc (by simp; omega) _).alloc (by simp; omega) _)).setCell (p := ⟨w.heap.size, 0, none⟩) (Nat.le_refl _) _
    have hc1 : w1.cell? ⟨w.heap.size, 0, none⟩ = some (.int .i64 c) := by
      rw [hw1]
      have hX : Below (w.heap.size + 1) (w.alloc (.cells #[.int .i64 0] 129)) ((((((w.alloc (.cells #[.int .i64 0] 129)).alloc (.cells #[.pointer (some ⟨w.heap.size, 0, none⟩)] 141)).alloc (.cells #[.pointer (some ⟨2, 141, none⟩), .pointer (some ⟨(w.alloc (.cells #[.int .i64 0] 129)).heap.size, 0, none⟩), .int .u64 150] 172)).alloc (.cells #[.pointer (some ⟨2, 141, none⟩), .pointer (some ⟨(w.alloc (.cells #[.int .i64 0] 129)).heap.size, 0, none⟩), .int .u64 150] 172)).alloc (.cells #[.string p, .iface 129 (.agg #[.int .i64 c])] 131)).alloc (.cells #[.int .i64 c] 129)) :=
        (((((Below.refl _ _).alloc (by simp) _).alloc (by simp) _).alloc (by simp) _).alloc (by simp) _).alloc (by simp) _
      exact World.cell?_setCell_same _ _ _ ((hX.cell (p := ⟨w.heap.size, 0, none⟩) (by simp)).trans HC.out)
    clear hw1
    go_wp2
    go_ret
    exact ⟨rfl, hb1⟩
end Go.Proofs.YtpkmkpeabfmbiaaGreatDoor


/-
  Contracts of impl.tryOn's deferred closure: nothing where the code is 0, else the file system anew.
  Conditions: at most 2^20 values and letters together.
-/
namespace Go.Proofs.YtpkmkpeabfmbiaaGreatDoor
open Go.ChangeShapes Go.WideShapes Go.ChangeAt Go.RowKit Go.Joins
set_option linter.unusedVariables false
set_option linter.unusedSimpArgs false

set_option maxHeartbeats 2000000 in
theorem undo_idle (pc pf pg : Nat) (u : FrameMode) (w : World) (hc : w.heap[pc]? = some (.cells #[.int .i64 0] 3)) :
    CallsD Tryz.prog 102 #[.pointer (some ⟨pc, 0, none⟩), .pointer (some ⟨pf, 0, none⟩), .pointer (some ⟨pg, 0, none⟩)] u w fun e u' w' => u' = u ∧ (e = .returned (.tuple #[]) ∧ w' = w) := by
  have k0 : w.cell? ⟨pc, 0, none⟩ = some (.int .i64 0) := cell_blk hc 0
  clear hc
  go_enter_d Tryz.func102, Tryz.ntmps102
  go_wp2
  go_end0
  exact ⟨rfl, rfl⟩
set_option maxHeartbeats 2000000 in
theorem undo_done (pc pf pg : Nat) (c : Int) (f : FsD) (nv gv : Value) (gr : Int) (B : Nat) (u : FrameMode) (w : World) (hz : c ≠ 0) (hc : w.heap[pc]? = some (.cells #[.int .i64 c] 3)) (hf : w.heap[pf]? = some (.cells #[nv, .int .i64 f.room] 34))
    (hg : w.heap[pg]? = some (.cells #[gv, .int .i64 gr] 34)) (hA : FsA w (.agg #[nv, .int .i64 f.room]) f) (hs : szF f ≤ 1048576) :
    CallsD Tryz.prog 102 #[.pointer (some ⟨pc, 0, none⟩), .pointer (some ⟨pf, 0, none⟩), .pointer (some ⟨pg, 0, none⟩)] u w fun e u' w' => u' = u ∧ (e = .returned (.tuple #[]) ∧ ∃ nv2 ps w2, ps.map Prod.fst = f.nodes ∧ Own w2 w.heap.size nv2 ps ∧ Below w.heap.size w w2 ∧ w' = (w2.setCell ⟨pg, 0, none⟩ nv2).setCell ⟨pg, 1, none⟩ (.int .i64 f.room)) := by
  have k0 : w.cell? ⟨pc, 0, none⟩ = some (.int .i64 c) := cell_blk hc 0
  have f0 : w.cell? ⟨pf, 0, none⟩ = some nv := cell_blk hf 0
  have f1 : w.cell? ⟨pf, 1, none⟩ = some (.int .i64 f.room) := cell_blk hf 1
  have HG := Lib.hid hg
  have HA := Lib.hid hA
  have kz : (c != 0) = true := by rw [bne_iff_ne]; exact hz
  clear hc hf hg hA hz
  go_enter_d Tryz.func102, Tryz.ntmps102
  go_wp2_with fail
  refine (copyFs_any f _ _ HA.out hs).mono ?_
  rintro e w2 ⟨nv2, ps, rfl, hps, hO, hb⟩
  obtain ⟨on, cn, rfl, -⟩ := owns_form hO.row
  have hg2 := (hb.block pg (lt_of_heap HG.out)).trans HG.out
  have g0 : w2.cell? ⟨pg, 0, none⟩ = some gv := cell_blk hg2 0
  have g1 : w2.cell? ⟨pg, 1, none⟩ = some (.int .i64 gr) := cell_blk hg2 1
  have gf := frozen_blk hg2
  have HO := Lib.hid hO
  have HB := Lib.hid hb
  have HPS := Lib.hid hps
  clear hO hb hg2 hps
  go_wp2
  go_end0
  exact ⟨rfl, _, ps, w2, HPS.out, HO.out, HB.out, rfl⟩
end Go.Proofs.YtpkmkpeabfmbiaaGreatDoor


/-
  errors.As at a target of type *impl.codeFault and a bare code: the code; impl.codeOf of it.
  Conditions: the variable errors.errorType as the program's text lays it.
-/
namespace Go.Proofs.YtpkmkpeabfmbiaaGreatDoor
open Go.ChangeShapes Go.WideShapes Go.ChangeAt Go.RowKit Go.Joins Go.Extern.Stop Go.Stop Go.Extern
set_option linter.unusedVariables false
set_option linter.unusedSimpArgs false


set_option maxRecDepth 100000 in
set_option maxHeartbeats 8000000 in
theorem as_code (c : Int) (t : Addr) (old : Value) (w : World) (hg : ErrT w) (ht0 : w.cell? t = some old) (hf0 : w.frozen? t = false) :
    Calls Tryz.prog 91 #[codeV c, .iface 141 (.pointer (some t))] w fun ev w' => ev = .returned (.bool true) ∧ ∃ W1, Below w.heap.size w W1 ∧ w' = W1.setCell t (.int .i64 c) := by
  obtain ⟨hg1, hg0⟩ := hg
  unfold codeV
  have h6 := @run_callFunc_extern Tryz.prog 125 _ (fun args => ReflectliteValue.unpack (args.getD 0 (.tuple #[]))) Tryz.func125 (by kernel_rfl) (by kernel_rfl) (by kernel_rfl) (by kernel_rfl)
  have h7 := @run_callFunc_extern Tryz.prog 126 _ (ReflectliteValue.methodAny (ReflectliteValue.valueError "reflectlite.Value.Type" 0) (fun t _ _ _ => ReflectliteType.toType t)) Tryz.func126 (by kernel_rfl) (by kernel_rfl) (by kernel_rfl) (by kernel_rfl)
  have h8 := @run_callFunc_extern Tryz.prog 127 _ (ReflectliteValue.method (ReflectliteValue.valueError "reflectlite.Value.IsNil" 0) ReflectliteValue.isNil) Tryz.func127 (by kernel_rfl) (by kernel_rfl) (by kernel_rfl) (by kernel_rfl)
  have h27 := @run_callFunc_extern Tryz.prog 187 _ (ReflectliteType.abiMethod fun t => do pure (.int .u8 (← Rtype.kind t))) Tryz.func187 (by kernel_rfl) (by kernel_rfl) (by kernel_rfl) (by kernel_rfl)
  have h37 := @run_callFunc_extern Tryz.prog 199 _ (ReflectliteType.method ReflectliteType.elem) Tryz.func199 (by kernel_rfl) (by kernel_rfl) (by kernel_rfl) (by kernel_rfl)
  have h38 := @run_callFunc_extern Tryz.prog 200 _ (ReflectliteType.relation "Implements" ReflectliteType.implements_) Tryz.func200 (by kernel_rfl) (by kernel_rfl) (by kernel_rfl) (by kernel_rfl)
  have h10 := @run_callFunc_extern Tryz.prog 146 _ ReflectliteType.typeOf Tryz.func146 (by kernel_rfl) (by kernel_rfl) (by kernel_rfl) (by kernel_rfl)
  have h35 := @run_callFunc_extern Tryz.prog 197 _ (ReflectliteType.relation "AssignableTo" ReflectliteType.assignableTo) Tryz.func197 (by kernel_rfl) (by kernel_rfl) (by kernel_rfl) (by kernel_rfl)
  have h11 := @run_callFunc_extern Tryz.prog 147 _ (ReflectliteValue.method (ReflectliteValue.valueError "reflectlite.Value.Elem" 0) ReflectliteValue.elem) Tryz.func147 (by kernel_rfl) (by kernel_rfl) (by kernel_rfl) (by kernel_rfl)
  have h12 := @run_callFunc_extern Tryz.prog 148 _ ReflectliteValue.set Tryz.func148 (by kernel_rfl) (by kernel_rfl) (by kernel_rfl) (by kernel_rfl)
  have tE := ec_typeOfE
  have tF := ec_typeOfF
  have mA := ec_mAssg
  have aE := ec_assgE
  have aF := ec_assgF
  have vE := ec_valueOfE
  have f6 := ec_valueOfP
  have f7 := ec_typeP
  have mK := ec_mKind
  have mE := ec_mElem
  have mI := ec_mImpl
  have kP := ec_kindP
  have kE := ec_kindE
  have eT := ec_elemT
  have iE := ec_implE
  have nA := ec_noAs
  have n8 := ec_isNil ⟨w.heap.size, 0, none⟩ t ((w.alloc (.cells #[.pointer (some t)] 141)).alloc (.cells #[.pointer (some ⟨2, 141, none⟩), .pointer (some ⟨w.heap.size, 0, none⟩), .int .u64 150] 172)) (by simp)
  have hg2 : ((w.alloc (.cells #[.pointer (some t)] 141)).alloc (.cells #[.pointer (some ⟨2, 141, none⟩), .pointer (some ⟨w.heap.size, 0, none⟩), .int .u64 150] 172)).cell? ⟨0, 0, none⟩ = some (.iface 200 (.agg #[.pointer (some ⟨2, 68, none⟩)])) := by
    rw [World.cell?_alloc_lt _ _ ⟨0, 0, none⟩ (by first | (simp; done) | (simp; omega)), World.cell?_alloc_lt _ _ ⟨0, 0, none⟩ hg1]; exact hg0
  have htl : t.block < w.heap.size := by
    rcases Nat.lt_or_ge t.block w.heap.size with h | h
    · exact h
    · simp [World.cell?, Array.getElem?_eq_none h] at ht0
  have el := ec_elemV ⟨w.heap.size, 0, none⟩ t (((w.alloc (.cells #[.pointer (some t)] 141)).alloc (.cells #[.pointer (some ⟨2, 141, none⟩), .pointer (some ⟨w.heap.size, 0, none⟩), .int .u64 150] 172)).alloc (.cells #[.pointer (some ⟨2, 141, none⟩), .pointer (some ⟨w.heap.size, 0, none⟩), .int .u64 150] 172)) (by rw [World.cell?_alloc_lt _ _ ⟨w.heap.size, 0, none⟩ (by simp; omega), World.cell?_alloc_lt _ _ ⟨w.heap.size, 0, none⟩ (by simp)]; simp)
  have st := ec_set t ⟨w.heap.size + 1 + 1 + 1, 0, none⟩ c old ((((w.alloc (.cells #[.pointer (some t)] 141)).alloc (.cells #[.pointer (some ⟨2, 141, none⟩), .pointer (some ⟨w.heap.size, 0, none⟩), .int .u64 150] 172)).alloc (.cells #[.pointer (some ⟨2, 141, none⟩), .pointer (some ⟨w.heap.size, 0, none⟩), .int .u64 150] 172)).alloc (.cells #[.int .i64 c] 129))
    (by rw [World.cell?_alloc_at _ _ _ _ (by simp)]; rfl)
    (by rw [World.cell?_alloc_lt _ _ t (by simp; omega), World.cell?_alloc_lt _ _ t (by simp; omega), World.cell?_alloc_lt _ _ t (by simp; omega), World.cell?_alloc_lt _ _ t htl]; exact ht0)
    (by rw [World.frozen?_alloc_old _ _ t (by simp; omega), World.frozen?_alloc_old _ _ t (by simp; omega), World.frozen?_alloc_old _ _ t (by simp; omega), World.frozen?_alloc_old _ _ t (Nat.ne_of_lt htl)]; exact hf0)
  go_enter Tryz.func91, Tryz.ntmps91
  go_wp2
  refine wp_loop_rounds 1 ?_
  rw [rounds_succ]
  go_wp2
  go_ret
  exact ⟨rfl, _, ((((Below.refl _ _).alloc (Nat.le_refl _) _).alloc (by simp) _).alloc (by simp; omega) _).alloc (by simp; omega) _, rfl⟩

set_option maxHeartbeats 4000000 in
theorem codeOfC_any (c : Int) (w : World) (hg : ErrT w) : Calls Tryz.prog 41 #[errC c] w fun e w' => e = .returned (.int .i64 c) ∧ Below w.heap.size w w' := by
  by_cases h : c = 0
  · subst h
    exact codeOf_any ⟨#[]⟩ 0 w hg
  · have he : errC c = codeV c := by unfold errC; rw [if_neg h]
    rw [he]
    have hb0 : Below w.heap.size w (w.alloc (.cells #[.int .i64 0] 129)) := (Below.refl _ _).alloc (Nat.le_refl _) _
    have hE := hg.below hb0 hg.1
    have hc0 : (w.alloc (.cells #[.int .i64 0] 129)).cell? ⟨w.heap.size, 0, none⟩ = some (.int .i64 0) := by simp
    have hf0 : (w.alloc (.cells #[.int .i64 0] 129)).frozen? ⟨w.heap.size, 0, none⟩ = false := by simp
    have HE := Lib.hid hE
    have HC := Lib.hid hc0
    have HF := Lib.hid hf0
    have HB := Lib.hid hb0
    obtain ⟨fv, hfv⟩ : ∃ fv, fv = codeV c := ⟨_, rfl⟩
    rw [← hfv]
    have HV := Lib.hid hfv
    clear hE hc0 hf0 hb0 hfv he
    go_enter Tryz.func41, Tryz.ntmps41
    go_wp2_with fail
    rw [HV.out]
    refine (as_code c _ _ _ HE.out HC.out HF.out).mono ?_
    rintro e w1 ⟨rfl, W1, hW1, hw1⟩
    have hb1 : Below w.heap.size w w1 := by
      rw [hw1]
      exact (HB.out.trans (hW1.mono (by simp))).setCell (p := ⟨w.heap.size, 0, none⟩) (Nat.le_refl _) _
    have hc1 : w1.cell? ⟨w.heap.size, 0, none⟩ = some (.int .i64 c) := by
      rw [hw1]
      exact World.cell?_setCell_same _ _ _ ((hW1.cell (p := ⟨w.heap.size, 0, none⟩) (by simp)).trans HC.out)
    clear hw1 hW1
    go_wp2
    go_ret
    exact ⟨rfl, hb1⟩
end Go.Proofs.YtpkmkpeabfmbiaaGreatDoor


/-
  Contracts of slices.AppendSeq and slices.Collect over impl.partsIn; of impl.isWhole, isWholePath, strings.HasSuffix at a slash.
  Conditions: a text of at most 2^30 bytes.
-/
namespace Go.Proofs.YtpkmkpeabfmbiaaGreatDoor
open Go.RowKit Go.Shelf
set_option linter.unusedVariables false
set_option linter.unusedSimpArgs false
attribute [local go_sem] Oper.semAt_some

def got (xs : List ByteArray) : List (List UInt8) := xs.map fun x => x.data.toList
theorem got_snoc (xs : List ByteArray) (x : ByteArray) : got (xs ++ [x]) = got xs ++ [x.data.toList] := by simp [got]
theorem got_parts (ps : List (List UInt8)) : got (ps.map bs) = ps := by
  unfold got
  rw [List.map_map]
  conv => rhs; rw [← List.map_id ps]
  exact List.map_congr_left fun p _ => bs_list p
theorem got_len (xs : List ByteArray) : (got xs).length = xs.length := by simp [got]

set_option maxRecDepth 100000 in
set_option maxHeartbeats 4000000 in
theorem appendSeq_any (s : ByteArray) (b : Nat) (w : World) (hs : s.size ≤ 1073741824) (hb : b < w.heap.size) (hc : w.cell? ⟨b, 0, none⟩ = some (.string s)) :
    Calls Tryz.prog 142 #[.slice none 0 0, .func (.func 143) #[] #[.pointer (some ⟨b, 0, none⟩)]] w fun e w' => ∃ v, e = .returned v ∧ Lst w' w.heap.size v (parts s.data.toList) ∧ Below w.heap.size w w' := by
  obtain ⟨i0, hi, hz0, hz1, hz2⟩ := info_parts strInfo
  have hpl := parts_le s.data.toList
  rw [len_size] at hpl
  refine (callsIn_wide (n := 6)).1 ?_
  refine callsIn_of_wp_marks Tryz.func142 rfl trivial ?_ rfl
  simp only [Tryz.ntmps142, List.size_toArray, List.length_cons, List.length_nil, Nat.reduceAdd, Nat.reduceSub, Array.replicate_succ, Array.replicate_zero, List.push_toArray, List.append_toArray, List.nil_append, List.cons_append]
  gi_wp2
  have bK := Boxed.new w 116 (.slice none 0 0)
  have hB0 : Below w.heap.size w (w.alloc (.cells #[.slice none 0 0] 116)) := (Below.refl _ w).alloc (Nat.le_refl _) _
  have hc0 : (w.alloc (.cells #[.slice none 0 0] 116)).cell? ⟨b, 0, none⟩ = some (.string s) := (hB0.cell (p := ⟨b, 0, none⟩) hb).trans hc
  refine wpIn_rangeFunc_ownF rfl (by omega) (gf := 143) (lb := #[.pointer (some ⟨b, 0, none⟩)]) rfl trivial (enters_of Tryz.func143 (by kernel_rfl) rfl)
    (iter_stops Fence.wide (6 - 1) trivial rfl (by omega) b s (by unfold maxLen; omega) _ (by simp; omega) hc0) kpB_t (kpB_b (by simp; omega)) (Below.refl _ _) (fun _ => rfl)
    (fun pre W => (∃ v, Boxed W w.heap.size 116 v ∧ W.ownsRow w.heap.size 9 1 v (got pre).length (strs (got pre)) ∧ True) ∧ Below w.heap.size w W)
    (fun _ _ _ => False)
    (OwnFrom.and (Own.from (holdsRow_own w.heap.size w.heap.size 116 9 1 (fun pre => (got pre).length) (fun pre => strs (got pre)) (fun _ _ => True)) _) (ownFrom_below (Nat.le_refl _) (by simp)))
    (fun _ _ _ _ _ hs _ _ => hs)
    ⟨⟨_, bK, World.ownsRow_nil _ _ _ _, trivial⟩, hB0⟩
    ?a1 ?assign ?body ?done ?stop
  case assign =>
    intro l x W K hK
    gi_wp2
    exact hK
  case body =>
    rintro l pre x W ⟨⟨v, hv, hrow, _⟩, hB⟩ hlt
    have hgl := got_len pre
    have HE := Lib.hid (got_snoc pre x)
    have hcK := hv.cell
    have hsW := hB.size
    obtain ⟨cs, hcs⟩ : ∃ cs, cs = got pre := ⟨_, rfl⟩
    rw [← hcs] at hrow hgl HE
    have hgl' : cs.length ≤ pre.length := by omega
    clear hgl hcs
    gi_wp2_with (gi_at_builtin; refine wpListIn_append_own _ rfl _ _ 116 rfl w.heap.size 9 i0 (.string ⟨#[]⟩) 1 16 Tryz.underlying116 hi hz0 hz1 hz2 rfl (by decide) _ _ _ rfl (hrow.alloc _) ⟨W.heap.size, 0, none⟩ 1 1 [.string x] rfl rfl (cell_one_new _ _ _) (by simp [Value.oneCell']) (by unfold maxLen; omega) (by omega) (by simp; omega) ?_; intro v' w1 hown' hgrow _; obtain ⟨g', cap', rfl⟩ := ownsRow_succ hown'; obtain ⟨hv1, hv2, hr2, hk2, hb2⟩ := hv.appended (by decide) hrow hB.size (Nat.le_refl _) hown' hgrow; have hcK1 := hv1.cell; have hfK1 := hv1.frozen)
    exact ⟨hk2, ⟨hk2.walks, hb2.cell (p := ⟨b, 0, none⟩) hb⟩, ⟨_, hv2, by rw [HE.out]; exact Lst.snoc (bs_of x).symm hr2, trivial⟩, hB.trans hb2⟩
  case done =>
    rintro D ys W hD rfl ⟨⟨v, hv, hrow, _⟩, hB⟩ hK
    have HR : Lst W w.heap.size v (parts s.data.toList) := by
      have h0 : Lst W w.heap.size v (got ((parts s.data.toList).map bs)) := hrow
      rwa [got_parts] at h0
    clear hrow
    have hc := hv.cell
    gi_wp2
    refine ⟨by simp, .inl ⟨_, _, rfl, run_takeDeferred hK, ?_⟩⟩
    exact ⟨_, results_tmp rfl _ _ _, v, rfl, ownsRow_putObj HR _ hK rfl, hB.trans (belowK_b (w := w) (Nat.le_refl _) W D _ _ (by simp at hD; omega) hK rfl rfl)⟩
  case stop =>
    rintro D c pre W _ _ h _
    exact h.elim

set_option maxHeartbeats 400000 in
theorem collect_any (s : ByteArray) (b : Nat) (w : World) (hs : s.size ≤ 1073741824) (hb : b < w.heap.size) (hc : w.cell? ⟨b, 0, none⟩ = some (.string s)) :
    Calls Tryz.prog 121 #[.func (.func 143) #[] #[.pointer (some ⟨b, 0, none⟩)]] w fun e w' => ∃ v, e = .returned v ∧ Lst w' w.heap.size v (parts s.data.toList) ∧ Below w.heap.size w w' := by
  go_enter Tryz.func121, Tryz.ntmps121
  go_wp2_with fail
  refine (appendSeq_any s b w hs hb hc).mono ?_
  rintro e w1 ⟨v, rfl, hL, hb1⟩
  go_wp2
  go_ret
  exact ⟨v, rfl, hL, hb1⟩


theorem whole_size {s : ByteArray} (h : 0 < s.size) : wholeB s.data.toList = decide ((s[0]'h) = 47) := by
  have hl := len_size s
  unfold wholeB
  have : s.data.toList.head? = some (s[0]'h) := by
    rw [List.head?_eq_getElem?, List.getElem?_eq_getElem (by omega)]
    rfl
  rw [this, Bool.eq_iff_iff]
  simp
theorem cut_one {s : ByteArray} (h : 0 < s.size) : ((s.extract 0 1).toList == [47]) = wholeB s.data.toList := by
  rw [whole_size h, ByteArray.toList_eq, Bool.eq_iff_iff]
  have hs : s.data.toList.length = s.size := len_size s
  have : (s.extract 0 1).data.toList = [s[0]'h] := by
    apply List.ext_getElem?
    intro i
    rcases i with _ | i
    · simp [ByteArray.data_extract, h]; rfl
    · simp [ByteArray.data_extract]; omega
  rw [this]
  simp
set_option maxHeartbeats 1000000 in
theorem isWhole_any (s : ByteArray) (w : World) : Calls Tryz.prog 118 #[.string s] w fun e w' => e = .returned (.bool (wholeB s.data.toList)) ∧ w = w' := by
  by_cases h0 : 0 < s.size
  · have HC := Lib.hid (cut_one h0)
    have h1 : (1 : Int) ≤ (s.size : Int) := by omega
    go_enter Tryz.func118, Tryz.ntmps118
    go_wp2
    go_ret
    exact ⟨by rw [← HC.out]; rfl, rfl⟩
  · have HE : Hid (wholeB s.data.toList = false) := Lib.hid (by
      have : s.data.toList = [] := List.eq_nil_of_length_eq_zero (by rw [len_size]; omega)
      rw [this]; rfl)
    have h1 : ¬ (1 : Int) ≤ (s.size : Int) := by omega
    go_enter Tryz.func118, Tryz.ntmps118
    go_wp2
    go_ret
    exact ⟨by rw [HE.out]; rfl, rfl⟩

set_option maxHeartbeats 400000 in
theorem isWholePath_any (s : ByteArray) (w : World) (hs : s.size ≤ 1073741824) : Calls Tryz.prog 85 #[.string s] w fun e w' => e = .returned (.bool (wgB s.data.toList)) ∧ Below w.heap.size w w' := by
  by_cases hw : wholeB s.data.toList = true
  · have HW := Lib.hid hw
    have HE : Hid (wgB s.data.toList = goodB s.data.toList) := Lib.hid (by simp [wgB, hw])
    clear hw
    go_enter Tryz.func85, Tryz.ntmps85
    go_wp2_with fail
    refine (isWhole_any _ _).mono ?_
    rintro e w1 ⟨rfl, rfl⟩
    rw [HW.out]
    go_wp2_with fail
    refine (goodPath_any _ _ (by unfold maxLen; omega)).mono ?_
    rintro e w2 ⟨rfl, hb⟩
    go_wp2
    go_ret
    exact ⟨ret_bool HE.out.symm, hb⟩
  · have HW := Lib.hid (show wholeB s.data.toList = false by simpa using hw)
    have HE : Hid (wgB s.data.toList = false) := Lib.hid (by simp [wgB, HW.out])
    clear hw
    go_enter Tryz.func85, Tryz.ntmps85
    go_wp2_with fail
    refine (isWhole_any _ _).mono ?_
    rintro e w1 ⟨rfl, rfl⟩
    rw [HW.out]
    go_wp2
    go_ret
    exact ⟨ret_bool HE.out.symm, Below.refl _ _⟩

theorem cut_last {s : ByteArray} (h : 0 < s.size) : ((s.extract (s.size - 1) s.size).toList == [47]) = slashB s.data.toList := by
  rw [slash_at h, ByteArray.toList_eq, Bool.eq_iff_iff]
  have hs : s.data.toList.length = s.size := len_size s
  have : (s.extract (s.size - 1) s.size).data.toList = [s[s.size - 1]'(by omega)] := by
    apply List.ext_getElem?
    intro i
    rcases i with _ | i
    · have h2 : s.size - 1 < s.data.size := by have : s.data.size = s.size := rfl; omega
      have h3 : (s[s.size - 1]'(by omega)) = s.data.toList[s.size - 1]'(by omega) := rfl
      rw [h3]
      simp [ByteArray.data_extract, List.getElem?_take, List.getElem?_drop, h]
      omega
    · have h2 : s.data.size = s.size := rfl
      simp [ByteArray.data_extract]; omega
  rw [this]
  simp
set_option maxHeartbeats 1000000 in
theorem hasSlash_any (s : ByteArray) (w : World) (h0 : 0 < s.size) (hs : s.size ≤ 1073741824) : Calls Tryz.prog 86 #[.string s, .string ⟨#[47]⟩] w fun e w' => e = .returned (.bool (slashB s.data.toList)) ∧ w = w' := by
  have HC := Lib.hid (cut_last h0)
  have h1 : (1 : Int) ≤ (s.size : Int) := by omega
  go_enter Tryz.func86, Tryz.ntmps86
  go_wp2
  go_ret
  exact ⟨by rw [← HC.out]; rfl, rfl⟩
end Go.Proofs.YtpkmkpeabfmbiaaGreatDoor


/-
  Contracts of the program's isGoodEntry, of the four kinds' isGood, of isGoodNode.
  Conditions: the node's cells read as plain data; a list of at most 2^20 entries.
-/

namespace Go.Proofs.YtpkmkpeabfmbiaaGreatDoor
open Go.ChangeShapes Go.WideShapes Go.ChangeAt Go.RowKit Go.Joins
set_option linter.unusedVariables false
set_option linter.unusedSimpArgs false

theorem goodName_is {l : List UInt8} {b : Bool} (h : nameB l = b) (s : ByteArray) (hs : s = bs l) (w : World) : Calls Tryz.prog 164 #[.string s] w fun e w' => e = .returned (.bool b) ∧ Below w.heap.size w w' :=
  (goodName_any s w).mono fun e w' ⟨h1, h2⟩ => ⟨by rw [h1, hs, ← h]; simp [bs], h2⟩

set_option maxHeartbeats 1000000 in
theorem isGoodEntry_any (e : Ent) (count : Int) (s : ByteArray) (w : World) (hs : s = bs e.name) : Calls Tryz.prog 155 #[.agg #[.string s, .int .i64 e.node], .int .i64 count] w fun x w' => x = .returned (.bool (nameB e.name && inB 0 (count - 1) e.node)) ∧ Below w.heap.size w w' := by
  obtain ⟨nm, r⟩ := e
  simp only at hs ⊢
  have HS := Lib.hid hs
  have hb0 : Below w.heap.size w (w.alloc (.cells #[.string s, .int .i64 r] 125)) := (Below.refl _ _).alloc (Nat.le_refl _) _
  have HB := Lib.hid hb0
  have HK := Lib.hid (heap_alloc_new w (.cells #[.string s, .int .i64 r] 125))
  clear hs hb0
  by_cases hn : nameB nm = true
  · have HN := Lib.hid hn
    by_cases h0 : 0 ≤ r
    · by_cases h1 : r < count
      · have HF : Hid (true = (nameB nm && inB 0 (count - 1) r)) := Lib.hid (by rw [hn, ← inB_mk h0 (by omega)]; rfl)
        clear hn
        go_enter Tryz.func155, Tryz.ntmps155
        go_wp2_with fail
        refine (goodName_is HN.out _ HS.out _).mono ?_
        rintro e w1 ⟨rfl, hb1⟩
        have HB1 := Lib.hid (HB.out.trans (hb1.mono HB.out.size))
        have k1 := (hb1.block w.heap.size (lt_of_heap HK.out)).trans HK.out
        have x1 := (cell_blk k1 1).trans rfl
        clear hb1 k1
        go_wp2
        go_ret
        exact ⟨ret_bool HF.out, HB1.out⟩
      · have HF : Hid (false = (nameB nm && inB 0 (count - 1) r)) := Lib.hid (by rw [hn, ← inB_no (.inr (by omega))]; rfl)
        clear hn
        go_enter Tryz.func155, Tryz.ntmps155
        go_wp2_with fail
        refine (goodName_is HN.out _ HS.out _).mono ?_
        rintro e w1 ⟨rfl, hb1⟩
        have HB1 := Lib.hid (HB.out.trans (hb1.mono HB.out.size))
        have k1 := (hb1.block w.heap.size (lt_of_heap HK.out)).trans HK.out
        have x1 := (cell_blk k1 1).trans rfl
        clear hb1 k1
        go_wp2
        go_ret
        exact ⟨ret_bool (by rw [← HF.out]; simp [h1]), HB1.out⟩
    · have HF : Hid (false = (nameB nm && inB 0 (count - 1) r)) := Lib.hid (by rw [hn, ← inB_no (.inl (by omega))]; rfl)
      clear hn
      go_enter Tryz.func155, Tryz.ntmps155
      go_wp2_with fail
      refine (goodName_is HN.out _ HS.out _).mono ?_
      rintro e w1 ⟨rfl, hb1⟩
      have HB1 := Lib.hid (HB.out.trans (hb1.mono HB.out.size))
      have k1 := (hb1.block w.heap.size (lt_of_heap HK.out)).trans HK.out
      have x1 := (cell_blk k1 1).trans rfl
      clear hb1 k1
      go_wp2
      go_ret
      exact ⟨ret_bool HF.out, HB1.out⟩
  · have HN : Hid (nameB nm = false) := Lib.hid (by simpa using hn)
    have HF : Hid (false = (nameB nm && inB 0 (count - 1) r)) := Lib.hid (by rw [HN.out]; rfl)
    clear hn
    go_enter Tryz.func155, Tryz.ntmps155
    go_wp2_with fail
    refine (goodName_is HN.out _ HS.out _).mono ?_
    rintro e w1 ⟨rfl, hb1⟩
    have HB1 := Lib.hid (HB.out.trans (hb1.mono HB.out.size))
    clear hb1
    go_wp2
    go_ret
    exact ⟨ret_bool HF.out, HB1.out⟩

set_option maxHeartbeats 2000000 in
theorem freeGood_any (q : Nod) (lv : Value) (g p : Nat) (w : World) (hg : g < w.heap.size) (hc : NodC w g p lv q) (hE : EntsA w lv q.list) : Calls Tryz.prog 135 #[.agg #[.pointer (some ⟨g, p, none⟩)]] w fun e w' => e = .returned (.bool (noneB q && (q.data.isEmpty && q.list.isEmpty))) ∧ Below w.heap.size w w' := by
  have hb0 : Below w.heap.size w (w.alloc (.cells #[.pointer (some ⟨g, p, none⟩)] 191)) := (Below.refl _ _).alloc (Nat.le_refl _) _
  have HB := Lib.hid hb0
  have HK := Lib.hid (heap_alloc_new w (.cells #[.pointer (some ⟨g, p, none⟩)] 191))
  have HC := Lib.hid hc
  have HE := Lib.hid hE
  clear hb0 hc hE
  by_cases h1 : noneB q = true
  · have H1 := Lib.hid h1
    by_cases h2 : q.data.isEmpty = true
    · have H2 : Hid ((!q.data.isEmpty) = false) := Lib.hid (by rw [h2]; rfl)
      have HF : Hid ((noneB q && (q.data.isEmpty && q.list.isEmpty)) = q.list.isEmpty) := Lib.hid (by rw [h1, h2]; rfl)
      clear h1 h2
      go_enter Tryz.func135, Tryz.ntmps135
      go_wp2_with fail
      refine (hasNone_any q lv g p _ (Nat.lt_of_lt_of_le hg HB.out.size) (HC.out.below HB.out hg)).mono ?_
      rintro e w1 ⟨rfl, hb1⟩
      rw [H1.out]
      have HB1 := Lib.hid (HB.out.trans (hb1.mono HB.out.size))
      have HK1 := Lib.hid ((hb1.block w.heap.size (lt_of_heap HK.out)).trans HK.out)
      have x1 := (cell_blk HK1.out 0).trans rfl
      clear hb1
      go_wp2_with fail
      refine (hasData_any q lv g p _ (Nat.lt_of_lt_of_le hg HB1.out.size) (HC.out.below HB1.out hg)).mono ?_
      rintro e w2 ⟨rfl, hb2⟩
      rw [H2.out]
      have HB2 := Lib.hid (HB1.out.trans (hb2.mono HB1.out.size))
      have HK2 := Lib.hid ((hb2.block w.heap.size (lt_of_heap HK1.out)).trans HK1.out)
      have x2 := (cell_blk HK2.out 0).trans rfl
      clear hb2
      go_wp2_with fail
      refine (hasList_any q lv g p _ (Nat.lt_of_lt_of_le hg HB2.out.size) (HC.out.below HB2.out hg) (HE.out.below HB2.out)).mono ?_
      rintro e w3 ⟨rfl, hb3⟩
      have HB3 := Lib.hid (HB2.out.trans (hb3.mono HB2.out.size))
      clear hb3
      go_wp2
      go_ret
      exact ⟨ret_bool (by rw [HF.out]), HB3.out⟩
    · have H2 : Hid ((!q.data.isEmpty) = true) := Lib.hid (by simpa using h2)
      have HF : Hid ((noneB q && (q.data.isEmpty && q.list.isEmpty)) = false) := Lib.hid (by rw [h1, show q.data.isEmpty = false by simpa using h2]; rfl)
      clear h1 h2
      go_enter Tryz.func135, Tryz.ntmps135
      go_wp2_with fail
      refine (hasNone_any q lv g p _ (Nat.lt_of_lt_of_le hg HB.out.size) (HC.out.below HB.out hg)).mono ?_
      rintro e w1 ⟨rfl, hb1⟩
      rw [H1.out]
      have HB1 := Lib.hid (HB.out.trans (hb1.mono HB.out.size))
      have HK1 := Lib.hid ((hb1.block w.heap.size (lt_of_heap HK.out)).trans HK.out)
      have x1 := (cell_blk HK1.out 0).trans rfl
      clear hb1
      go_wp2_with fail
      refine (hasData_any q lv g p _ (Nat.lt_of_lt_of_le hg HB1.out.size) (HC.out.below HB1.out hg)).mono ?_
      rintro e w2 ⟨rfl, hb2⟩
      rw [H2.out]
      have HB2 := Lib.hid (HB1.out.trans (hb2.mono HB1.out.size))
      clear hb2
      go_wp2
      go_ret
      exact ⟨ret_bool HF.out.symm, HB2.out⟩
  · have H1 : Hid (noneB q = false) := Lib.hid (by simpa using h1)
    have HF : Hid ((noneB q && (q.data.isEmpty && q.list.isEmpty)) = false) := Lib.hid (by rw [H1.out]; rfl)
    clear h1
    go_enter Tryz.func135, Tryz.ntmps135
    go_wp2_with fail
    refine (hasNone_any q lv g p _ (Nat.lt_of_lt_of_le hg HB.out.size) (HC.out.below HB.out hg)).mono ?_
    rintro e w1 ⟨rfl, hb1⟩
    rw [H1.out]
    have HB1 := Lib.hid (HB.out.trans (hb1.mono HB.out.size))
    clear hb1
    go_wp2
    go_ret
    exact ⟨ret_bool HF.out.symm, HB1.out⟩
end Go.Proofs.YtpkmkpeabfmbiaaGreatDoor
