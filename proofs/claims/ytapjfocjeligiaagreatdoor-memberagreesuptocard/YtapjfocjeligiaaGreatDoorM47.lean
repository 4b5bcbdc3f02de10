import Derived.Test.YtapjfocjeligiaaGreatDoorM32
import Derived.WalkKit
import Derived.LaidEql
import Derived.Stop.Asserts
import Derived.RowKitTokens
namespace Go.Proofs.YtapjfocjeligiaaGreatDoor
open Go.RowKit Go.Extern.Stop Go.Stop Go.Extern
set_option linter.unusedVariables false
set_option linter.unusedSimpArgs false

theorem as_nil (t : Value) (w : World) : Calls Tryz.prog 42 #[.nilIface, t] w fun e w' => e = .returned (.bool false) ∧ w' = w := by
  go_enter Tryz.func42, Tryz.ntmps42
  go_wp2
  go_ret
  exact ⟨rfl, rfl⟩
theorem rlm (z : Sem Value) (f : TypeId → Addr → Nat → Nat → Sem Value) (v : Value) :
    ReflectliteValue.method z f #[v] = (do match ← ReflectliteValue.parts v with | none => z | some (t, a, fl) => f t a fl (fl % 32)) := rfl
theorem rls (v x : Value) : ReflectliteValue.set #[v, x] = (do
    let (some (dst, a, fl), some (src, b, _)) := (← ReflectliteValue.parts v, ← ReflectliteValue.parts x)
      | unsupported (.noEntry "extern/(internal/reflectlite.Value).Set.zeroValue")
    if fl / ReflectliteValue.flagAddr % 2 == 0 then unsupported (.noEntry "extern/(internal/reflectlite.Value).Set.unaddressable")
    let val ← loadVar src b
    if ← Rtype.directlyAssignable dst src then storeVar dst a val
    else if ← Rtype.implements dst src then
      if (← Rtype.kind src) == 20 then
        match val with
        | .nilIface => unsupported (.noEntry "extern/reflectlite: a nil value of one interface type handed on as a value of another")
        | _ => storeVar dst a val
      else storeVar dst a (.iface src val)
    else panicString ("reflectlite.Set: value of type " ++ (← Rtype.spelt src) ++ " is not assignable to type " ++ (← Rtype.spelt dst))
    pure (.tuple #[])) := rfl
theorem meKind (h : Value) (w : World) : (Go.method 304 128 (.agg #[h]) "Kind").run Tryz.prog w = .ok (148, h) w := by kernel_rfl
theorem meElem (h : Value) (w : World) : (Go.method 304 128 (.agg #[h]) "Elem").run Tryz.prog w = .ok (160, .agg #[h]) w := by kernel_rfl
theorem meImplements (h : Value) (w : World) : (Go.method 304 128 (.agg #[h]) "Implements").run Tryz.prog w = .ok (161, .agg #[h]) w := by kernel_rfl
theorem meAssignableTo (h : Value) (w : World) : (Go.method 304 128 (.agg #[h]) "AssignableTo").run Tryz.prog w = .ok (158, .agg #[h]) w := by kernel_rfl
theorem vomP (t : Addr) (w : World) : (ReflectliteValue.unpack (.iface 79 (.pointer (some t)))).run Tryz.prog w = .ok (.agg #[.pointer (some ⟨4, 79, none⟩), .pointer (some ⟨w.heap.size, 0, none⟩), .int .u64 150]) (w.alloc (.cells #[.pointer (some t)] 79)) := by kernel_rfl
theorem tymP (a : Addr) (w : World) : (ReflectliteValue.methodAny (ReflectliteValue.valueError "reflectlite.Value.Type" 0) (fun t _ _ _ => ReflectliteType.toType t) #[.agg #[.pointer (some ⟨4, 79, none⟩), .pointer (some a), .int .u64 150]]).run Tryz.prog w = .ok (.iface 128 (.agg #[.pointer (some ⟨4, 79, none⟩)])) w := by kernel_rfl
theorem kdmP (w : World) : ((ReflectliteType.abiMethod fun t => (fun a : Nat => Value.int IntKind.u8 (a : Int)) <$> Rtype.kind t) #[.pointer (some ⟨4, 79, none⟩)]).run Tryz.prog w = .ok (.int .u8 22) w := by kernel_rfl
theorem kdmT (w : World) : ((ReflectliteType.abiMethod fun t => (fun a : Nat => Value.int IntKind.u8 (a : Int)) <$> Rtype.kind t) #[.pointer (some ⟨4, 77, none⟩)]).run Tryz.prog w = .ok (.int .u8 22) w := by kernel_rfl
theorem pamP (a : Addr) (w : World) : (ReflectliteValue.parts (.agg #[.pointer (some ⟨4, 79, none⟩), .pointer (some a), .int .u64 150])).run Tryz.prog w = .ok (some (79, a, 150)) w := by kernel_rfl
theorem inmP (a p : Addr) (W : World) (ha : W.cell? a = some (.pointer (some p))) :
    (ReflectliteValue.method (ReflectliteValue.valueError "reflectlite.Value.IsNil" 0) ReflectliteValue.isNil #[.agg #[.pointer (some ⟨4, 79, none⟩), .pointer (some a), .int .u64 150]]).run Tryz.prog W = .ok (.bool false) W := by
  rw [rlm]
  simp only [Sem.run_bind, pamP, Result.andThen]
  simp [ReflectliteValue.isNil, loadVar, isAgg, underlying, Tryz.underlying79, ha, Result.andThen]
theorem elmP (w : World) : (ReflectliteType.method ReflectliteType.elem #[.agg #[.pointer (some ⟨4, 79, none⟩)]]).run Tryz.prog w = .ok (.iface 128 (.agg #[.pointer (some ⟨4, 77, none⟩)])) w := by kernel_rfl
theorem immT (w : World) : (ReflectliteType.relation "Implements" ReflectliteType.implements_ #[.agg #[.pointer (some ⟨4, 77, none⟩)], .iface 128 (.agg #[.pointer (some ⟨4, 54, none⟩)])]).run Tryz.prog w = .ok (.bool true) w := by kernel_rfl
theorem tomT (v : Value) (w : World) : (ReflectliteType.typeOf #[.iface 77 v]).run Tryz.prog w = .ok (.iface 128 (.agg #[.pointer (some ⟨4, 77, none⟩)])) w := by kernel_rfl
theorem vomT (e : Addr) (w : World) : (ReflectliteValue.unpack (.iface 77 (.pointer (some e)))).run Tryz.prog w = .ok (.agg #[.pointer (some ⟨4, 77, none⟩), .pointer (some ⟨w.heap.size, 0, none⟩), .int .u64 150]) (w.alloc (.cells #[.pointer (some e)] 77)) := by kernel_rfl
theorem eomP (w : World) : (Rtype.elem? 79).run Tryz.prog w = .ok (some 77) w := by kernel_rfl
theorem mkmT (p : Addr) (w : World) : (ReflectliteValue.mk 77 p ReflectliteValue.flagAddr).run Tryz.prog w = .ok (.agg #[.pointer (some ⟨4, 77, none⟩), .pointer (some p), .int .u64 406]) w := by kernel_rfl
theorem evmP (a p : Addr) (W : World) (ha : W.cell? a = some (.pointer (some p))) :
    (ReflectliteValue.method (ReflectliteValue.valueError "reflectlite.Value.Elem" 0) ReflectliteValue.elem #[.agg #[.pointer (some ⟨4, 79, none⟩), .pointer (some a), .int .u64 150]]).run Tryz.prog W
      = .ok (.agg #[.pointer (some ⟨4, 77, none⟩), .pointer (some p), .int .u64 406]) W := by
  rw [rlm]
  simp only [Sem.run_bind, pamP, Result.andThen]
  simp [ReflectliteValue.elem, loadVar, isAgg, underlying, Tryz.underlying79, ha, Result.andThen, eomP, mkmT]
theorem pamA (a : Addr) (w : World) : (ReflectliteValue.parts (.agg #[.pointer (some ⟨4, 77, none⟩), .pointer (some a), .int .u64 406])).run Tryz.prog w = .ok (some (77, a, 406)) w := by kernel_rfl
theorem pamT (a : Addr) (w : World) : (ReflectliteValue.parts (.agg #[.pointer (some ⟨4, 77, none⟩), .pointer (some a), .int .u64 150])).run Tryz.prog w = .ok (some (77, a, 150)) w := by kernel_rfl
theorem dimT (w : World) : (Rtype.directlyAssignable 77 77).run Tryz.prog w = .ok true w := by kernel_rfl
theorem semT (ta b e : Addr) (old : Value) (W : World) (hb : W.cell? b = some (.pointer (some e))) (ht : W.cell? ta = some old) (hf : W.frozen? ta = false) :
    (ReflectliteValue.set #[.agg #[.pointer (some ⟨4, 77, none⟩), .pointer (some ta), .int .u64 406], .agg #[.pointer (some ⟨4, 77, none⟩), .pointer (some b), .int .u64 150]]).run Tryz.prog W
      = .ok (.tuple #[]) (W.setCell ta (.pointer (some e))) := by
  rw [rls]
  simp only [Sem.run_bind, pamA, pamT, Result.andThen]
  simp [ReflectliteValue.flagAddr, loadVar, isAgg, underlying, Tryz.underlying77, hb, Result.andThen, dimT, storeVar, Value.cells, storeCells, Addr.add]
  rw [run_store Tryz.prog W ta _ _ (by rfl)]
  simp [ht, hf]
theorem namT (v : Value) (xT : TypeId) (w : World) : (Instr.typeAssert (.iface 77 v) xT 133 true).run Tryz.prog w = .ok (.tuple #[.nilIface, .bool false]) w := run_typeAssert_lacksB Tryz.underlying133 (by kernel_rfl) (by kernel_rfl) v xT w
theorem asmm (w : World) : (ReflectliteType.relation "AssignableTo" ReflectliteType.assignableTo #[.agg #[.pointer (some ⟨4, 77, none⟩)], .iface 128 (.agg #[.pointer (some ⟨4, 77, none⟩)])]).run Tryz.prog w = .ok (.bool true) w := by kernel_rfl
theorem asmw (w : World) : (ReflectliteType.relation "AssignableTo" ReflectliteType.assignableTo #[.agg #[.pointer (some ⟨4, 77, none⟩)], .iface 128 (.agg #[.pointer (some ⟨4, 80, none⟩)])]).run Tryz.prog w = .ok (.bool false) w := by kernel_rfl
theorem vowP (t : Addr) (w : World) : (ReflectliteValue.unpack (.iface 81 (.pointer (some t)))).run Tryz.prog w = .ok (.agg #[.pointer (some ⟨4, 81, none⟩), .pointer (some ⟨w.heap.size, 0, none⟩), .int .u64 150]) (w.alloc (.cells #[.pointer (some t)] 81)) := by kernel_rfl
theorem tywP (a : Addr) (w : World) : (ReflectliteValue.methodAny (ReflectliteValue.valueError "reflectlite.Value.Type" 0) (fun t _ _ _ => ReflectliteType.toType t) #[.agg #[.pointer (some ⟨4, 81, none⟩), .pointer (some a), .int .u64 150]]).run Tryz.prog w = .ok (.iface 128 (.agg #[.pointer (some ⟨4, 81, none⟩)])) w := by kernel_rfl
theorem kdwP (w : World) : ((ReflectliteType.abiMethod fun t => (fun a : Nat => Value.int IntKind.u8 (a : Int)) <$> Rtype.kind t) #[.pointer (some ⟨4, 81, none⟩)]).run Tryz.prog w = .ok (.int .u8 22) w := by kernel_rfl
theorem kdwT (w : World) : ((ReflectliteType.abiMethod fun t => (fun a : Nat => Value.int IntKind.u8 (a : Int)) <$> Rtype.kind t) #[.pointer (some ⟨4, 80, none⟩)]).run Tryz.prog w = .ok (.int .u8 22) w := by kernel_rfl
theorem pawP (a : Addr) (w : World) : (ReflectliteValue.parts (.agg #[.pointer (some ⟨4, 81, none⟩), .pointer (some a), .int .u64 150])).run Tryz.prog w = .ok (some (81, a, 150)) w := by kernel_rfl
theorem inwP (a p : Addr) (W : World) (ha : W.cell? a = some (.pointer (some p))) :
    (ReflectliteValue.method (ReflectliteValue.valueError "reflectlite.Value.IsNil" 0) ReflectliteValue.isNil #[.agg #[.pointer (some ⟨4, 81, none⟩), .pointer (some a), .int .u64 150]]).run Tryz.prog W = .ok (.bool false) W := by
  rw [rlm]
  simp only [Sem.run_bind, pawP, Result.andThen]
  simp [ReflectliteValue.isNil, loadVar, isAgg, underlying, Tryz.underlying81, ha, Result.andThen]
theorem elwP (w : World) : (ReflectliteType.method ReflectliteType.elem #[.agg #[.pointer (some ⟨4, 81, none⟩)]]).run Tryz.prog w = .ok (.iface 128 (.agg #[.pointer (some ⟨4, 80, none⟩)])) w := by kernel_rfl
theorem imwT (w : World) : (ReflectliteType.relation "Implements" ReflectliteType.implements_ #[.agg #[.pointer (some ⟨4, 80, none⟩)], .iface 128 (.agg #[.pointer (some ⟨4, 54, none⟩)])]).run Tryz.prog w = .ok (.bool true) w := by kernel_rfl
theorem towT (v : Value) (w : World) : (ReflectliteType.typeOf #[.iface 80 v]).run Tryz.prog w = .ok (.iface 128 (.agg #[.pointer (some ⟨4, 80, none⟩)])) w := by kernel_rfl
theorem vowT (e : Addr) (w : World) : (ReflectliteValue.unpack (.iface 80 (.pointer (some e)))).run Tryz.prog w = .ok (.agg #[.pointer (some ⟨4, 80, none⟩), .pointer (some ⟨w.heap.size, 0, none⟩), .int .u64 150]) (w.alloc (.cells #[.pointer (some e)] 80)) := by kernel_rfl
theorem eowP (w : World) : (Rtype.elem? 81).run Tryz.prog w = .ok (some 80) w := by kernel_rfl
theorem mkwT (p : Addr) (w : World) : (ReflectliteValue.mk 80 p ReflectliteValue.flagAddr).run Tryz.prog w = .ok (.agg #[.pointer (some ⟨4, 80, none⟩), .pointer (some p), .int .u64 406]) w := by kernel_rfl
theorem evwP (a p : Addr) (W : World) (ha : W.cell? a = some (.pointer (some p))) :
    (ReflectliteValue.method (ReflectliteValue.valueError "reflectlite.Value.Elem" 0) ReflectliteValue.elem #[.agg #[.pointer (some ⟨4, 81, none⟩), .pointer (some a), .int .u64 150]]).run Tryz.prog W
      = .ok (.agg #[.pointer (some ⟨4, 80, none⟩), .pointer (some p), .int .u64 406]) W := by
  rw [rlm]
  simp only [Sem.run_bind, pawP, Result.andThen]
  simp [ReflectliteValue.elem, loadVar, isAgg, underlying, Tryz.underlying81, ha, Result.andThen, eowP, mkwT]
theorem pawA (a : Addr) (w : World) : (ReflectliteValue.parts (.agg #[.pointer (some ⟨4, 80, none⟩), .pointer (some a), .int .u64 406])).run Tryz.prog w = .ok (some (80, a, 406)) w := by kernel_rfl
theorem pawT (a : Addr) (w : World) : (ReflectliteValue.parts (.agg #[.pointer (some ⟨4, 80, none⟩), .pointer (some a), .int .u64 150])).run Tryz.prog w = .ok (some (80, a, 150)) w := by kernel_rfl
theorem diwT (w : World) : (Rtype.directlyAssignable 80 80).run Tryz.prog w = .ok true w := by kernel_rfl
theorem sewT (ta b e : Addr) (old : Value) (W : World) (hb : W.cell? b = some (.pointer (some e))) (ht : W.cell? ta = some old) (hf : W.frozen? ta = false) :
    (ReflectliteValue.set #[.agg #[.pointer (some ⟨4, 80, none⟩), .pointer (some ta), .int .u64 406], .agg #[.pointer (some ⟨4, 80, none⟩), .pointer (some b), .int .u64 150]]).run Tryz.prog W
      = .ok (.tuple #[]) (W.setCell ta (.pointer (some e))) := by
  rw [rls]
  simp only [Sem.run_bind, pawA, pawT, Result.andThen]
  simp [ReflectliteValue.flagAddr, loadVar, isAgg, underlying, Tryz.underlying80, hb, Result.andThen, diwT, storeVar, Value.cells, storeCells, Addr.add]
  rw [run_store Tryz.prog W ta _ _ (by rfl)]
  simp [ht, hf]
theorem nawT (v : Value) (xT : TypeId) (w : World) : (Instr.typeAssert (.iface 80 v) xT 133 true).run Tryz.prog w = .ok (.tuple #[.nilIface, .bool false]) w := run_typeAssert_lacksB Tryz.underlying133 (by kernel_rfl) (by kernel_rfl) v xT w
theorem aswm (w : World) : (ReflectliteType.relation "AssignableTo" ReflectliteType.assignableTo #[.agg #[.pointer (some ⟨4, 80, none⟩)], .iface 128 (.agg #[.pointer (some ⟨4, 77, none⟩)])]).run Tryz.prog w = .ok (.bool false) w := by kernel_rfl
theorem asww (w : World) : (ReflectliteType.relation "AssignableTo" ReflectliteType.assignableTo #[.agg #[.pointer (some ⟨4, 80, none⟩)], .iface 128 (.agg #[.pointer (some ⟨4, 80, none⟩)])]).run Tryz.prog w = .ok (.bool true) w := by kernel_rfl
theorem nuwT (v : Value) (xT : TypeId) (w : World) : (Instr.typeAssert (.iface 80 v) xT 136 true).run Tryz.prog w = .ok (.tuple #[.iface 80 v, .bool true]) w := run_typeAssert_hasB Tryz.underlying136 (by kernel_rfl) v xT w
theorem numT (v : Value) (xT : TypeId) (w : World) : (Instr.typeAssert (.iface 77 v) xT 136 true).run Tryz.prog w = .ok (.tuple #[.nilIface, .bool false]) w := run_typeAssert_lacksB Tryz.underlying136 (by kernel_rfl) (by kernel_rfl) v xT w
theorem nsmT (v : Value) (xT : TypeId) (w : World) : (Instr.typeAssert (.iface 77 v) xT 138 true).run Tryz.prog w = .ok (.tuple #[.nilIface, .bool false]) w := run_typeAssert_lacksB Tryz.underlying138 (by kernel_rfl) (by kernel_rfl) v xT w
theorem meUnwrap (h : Value) (w : World) : (Go.method 304 80 h "Unwrap").run Tryz.prog w = .ok (153, h) w := by kernel_rfl
theorem w_Unwrap (b : Nat) (x : Value) (w : World) (hx : w.cell? ⟨b, 5, none⟩ = some x) : Calls Tryz.prog 153 #[.pointer (some ⟨b, 0, none⟩)] w fun e w' => e = .returned x ∧ w' = w := by
  go_enter Tryz.func153, Tryz.ntmps153
  go_wp2
  go_ret
  exact ⟨rfl, rfl⟩
end Go.Proofs.YtapjfocjeligiaaGreatDoor
namespace Go.Proofs.YtapjfocjeligiaaGreatDoor
open Go.RowKit Go.Extern.Stop Go.Stop Go.Extern
set_option linter.unusedVariables false
set_option linter.unusedSimpArgs false

/-- the block that an error's pointer leads to -/
def blkOf : Value → Nat
  | .iface _ (.pointer (some a)) => a.block
  | _ => 0
set_option maxRecDepth 100000 in
set_option maxHeartbeats 6400000 in
theorem w_as_m (p : List VT) (r : Int) (t : TypeId) (b : Nat) (A D : Nat) (old : Value) (w : World) (hc : ErC w p r t b) (ha : w.cell? ⟨A, 0, none⟩ = some (.pointer (some ⟨D, 0, none⟩))) (hd : w.cell? ⟨D, 0, none⟩ = some old) (hf : w.frozen? ⟨D, 0, none⟩ = false) :
    Calls Tryz.prog 69 #[.iface t (.pointer (some ⟨b, 0, none⟩)), .iface 79 (.pointer (some ⟨D, 0, none⟩)), .agg #[.pointer (some ⟨4, 79, none⟩), .pointer (some ⟨A, 0, none⟩), .int .u64 150], .iface 128 (.agg #[.pointer (some ⟨4, 77, none⟩)])] w fun e w' => ∃ W c, e = .returned (.bool true) ∧ Below w.heap.size w W ∧ w' = W.setCell ⟨D, 0, none⟩ (.pointer (some ⟨c, 0, none⟩)) ∧ c < w.heap.size ∧ w.cell? ⟨c, 0, none⟩ = some (.int .i64 r) := by
  obtain ⟨W0, hW0⟩ : ∃ W0, w.alloc (.cells #[.pointer (some ⟨4, 79, none⟩), .pointer (some ⟨A, 0, none⟩), .int .u64 150] 108) = W0 := ⟨_, rfl⟩
  have hB0 : Below w.heap.size w W0 := by rw [← hW0]; exact (Below.refl _ _).alloc (Nat.le_refl _) _
  have hl0 : W0.heap.size = w.heap.size + 1 := by rw [← hW0]; simp
  have hlD : D < w.heap.size := World.block_lt_of_cell? _ _ hd
  have hlA : A < w.heap.size := World.block_lt_of_cell? _ _ ha
  have hd0 := (hB0.cell (p := ⟨D, 0, none⟩) hlD).trans hd
  have ha0 := (hB0.cell (p := ⟨A, 0, none⟩) hlA).trans ha
  have hf0 : W0.frozen? ⟨D, 0, none⟩ = false := by rw [← hW0, World.frozen?_alloc_old _ _ ⟨D, 0, none⟩ (Nat.ne_of_lt hlD)]; exact hf
  have q0 : W0.cell? ⟨w.heap.size, 0, none⟩ = some (.pointer (some ⟨4, 79, none⟩)) := by rw [← hW0]; simp [go_sem]
  have q1 : W0.cell? ⟨w.heap.size, 1, none⟩ = some (.pointer (some ⟨A, 0, none⟩)) := by rw [← hW0]; simp [go_sem]
  have q2 : W0.cell? ⟨w.heap.size, 2, none⟩ = some (.int .u64 150) := by rw [← hW0]; simp [go_sem]
  have hTO := @run_callFunc_extern Tryz.prog 95 _ (ReflectliteType.typeOf) Tryz.func95 (by kernel_rfl) (by kernel_rfl) (by kernel_rfl) (by kernel_rfl)
  have hAS := @run_callFunc_extern Tryz.prog 158 _ (ReflectliteType.relation "AssignableTo" ReflectliteType.assignableTo) Tryz.func158 (by kernel_rfl) (by kernel_rfl) (by kernel_rfl) (by kernel_rfl)
  have hEL := @run_callFunc_extern Tryz.prog 96 _ (ReflectliteValue.method (ReflectliteValue.valueError "reflectlite.Value.Elem" 0) ReflectliteValue.elem) Tryz.func96 (by kernel_rfl) (by kernel_rfl) (by kernel_rfl) (by kernel_rfl)
  have hVO := @run_callFunc_extern Tryz.prog 66 _ (fun args => ReflectliteValue.unpack (args.getD 0 (.tuple #[]))) Tryz.func66 (by kernel_rfl) (by kernel_rfl) (by kernel_rfl) (by kernel_rfl)
  have hST := @run_callFunc_extern Tryz.prog 97 _ (ReflectliteValue.set) Tryz.func97 (by kernel_rfl) (by kernel_rfl) (by kernel_rfl) (by kernel_rfl)
  have HC := Hid.mk hc
  have HB0 := Hid.mk hB0
  clear hc ha hd hf
  go_enter Tryz.func69, Tryz.ntmps69
  go_wp2_with fail
  go_loopw [0] (fun err wr => ∃ p1 t1 b1, err = .iface t1 (.pointer (some ⟨b1, 0, none⟩)) ∧ wr = W0 ∧ Hid (ErC w p1 r t1 b1)) (fun err _ => blkOf err)
  case atStart => exact ⟨p, t, b, rfl, rfl, HC⟩
  case round =>
    obtain ⟨p1, t1, b1, rfl, rfl, HC1⟩ := hrel
    cases p1 with
    | nil =>
      obtain ⟨rfl, hl, hcell⟩ := HC1.out
      have HCe := Hid.mk hcell
      clear hcell hB0 HC HC1
      have tO := tomT
      have mA := meAssignableTo
      have aS := asmm
      have vO := vomT
      have eV := evmP ⟨A, 0, none⟩ ⟨D, 0, none⟩ wr ha0
      obtain ⟨W1, hW1⟩ : ∃ W1, wr.alloc (.cells #[.pointer (some ⟨b1, 0, none⟩)] 77) = W1 := ⟨_, rfl⟩
      have hB1 : Below wr.heap.size wr W1 := by rw [← hW1]; exact (Below.refl _ _).alloc (Nat.le_refl _) _
      have sT := semT ⟨D, 0, none⟩ ⟨w.heap.size + 1, 0, none⟩ ⟨b1, 0, none⟩ old W1 (by rw [← hl0, ← hW1]; simp [go_sem]) ((hB1.cell (p := ⟨D, 0, none⟩) (by show D < _; omega)).trans hd0) (by rw [← hW1, World.frozen?_alloc_old _ _ ⟨D, 0, none⟩ (by show D ≠ _; omega)]; exact hf0)
      have HW1 := Hid.mk hB1
      clear hB1
      go_wp2_with fail
      go_ret
      exact ⟨W1, b1, rfl, HB0.out.trans (HW1.out.mono HB0.out.size), rfl, hl, HCe.out⟩
    | cons s p1 =>
      obtain ⟨t2, b2, rfl, hl, hs, h5, hlt, h7⟩ := HC1.out
      have HC2 := Hid.mk h7
      have h5' := (hB0.cell (p := ⟨b1, 5, none⟩) hl).trans h5
      have HU := Hid.mk (w_Unwrap b1 _ wr h5')
      have tO := towT
      have mA := meAssignableTo
      have aS := aswm
      have nA := nawT
      have nU := nuwT
      have mU := meUnwrap
      clear hs h5 h7 hB0 HC HC1
      go_wp2_with fail
      refine HU.out.mono ?_
      rintro e w9 ⟨rfl, rfl⟩
      go_wp2_with fail
      go_roundw
      case rel => exact ⟨p1, t2, b2, rfl, by first | trivial | rfl, HC2⟩
      case measure => exact hlt

set_option maxRecDepth 100000 in
set_option maxHeartbeats 6400000 in
theorem w_as_w (s : VT) (p : List VT) (r : Int) (t : TypeId) (b : Nat) (A D : Nat) (old : Value) (w : World) (hc : ErC w (s :: p) r t b) (ha : w.cell? ⟨A, 0, none⟩ = some (.pointer (some ⟨D, 0, none⟩))) (hd : w.cell? ⟨D, 0, none⟩ = some old) (hf : w.frozen? ⟨D, 0, none⟩ = false) :
    Calls Tryz.prog 69 #[.iface t (.pointer (some ⟨b, 0, none⟩)), .iface 81 (.pointer (some ⟨D, 0, none⟩)), .agg #[.pointer (some ⟨4, 81, none⟩), .pointer (some ⟨A, 0, none⟩), .int .u64 150], .iface 128 (.agg #[.pointer (some ⟨4, 80, none⟩)])] w fun e w' => ∃ W, e = .returned (.bool true) ∧ Below w.heap.size w W ∧ w' = W.setCell ⟨D, 0, none⟩ (.pointer (some ⟨b, 0, none⟩)) := by
  obtain ⟨W0, hW0⟩ : ∃ W0, w.alloc (.cells #[.pointer (some ⟨4, 81, none⟩), .pointer (some ⟨A, 0, none⟩), .int .u64 150] 108) = W0 := ⟨_, rfl⟩
  have hB0 : Below w.heap.size w W0 := by rw [← hW0]; exact (Below.refl _ _).alloc (Nat.le_refl _) _
  have hl0 : W0.heap.size = w.heap.size + 1 := by rw [← hW0]; simp
  have hlD : D < w.heap.size := World.block_lt_of_cell? _ _ hd
  have hlA : A < w.heap.size := World.block_lt_of_cell? _ _ ha
  have hd0 := (hB0.cell (p := ⟨D, 0, none⟩) hlD).trans hd
  have ha0 := (hB0.cell (p := ⟨A, 0, none⟩) hlA).trans ha
  have hf0 : W0.frozen? ⟨D, 0, none⟩ = false := by rw [← hW0, World.frozen?_alloc_old _ _ ⟨D, 0, none⟩ (Nat.ne_of_lt hlD)]; exact hf
  have q0 : W0.cell? ⟨w.heap.size, 0, none⟩ = some (.pointer (some ⟨4, 81, none⟩)) := by rw [← hW0]; simp [go_sem]
  have q1 : W0.cell? ⟨w.heap.size, 1, none⟩ = some (.pointer (some ⟨A, 0, none⟩)) := by rw [← hW0]; simp [go_sem]
  have q2 : W0.cell? ⟨w.heap.size, 2, none⟩ = some (.int .u64 150) := by rw [← hW0]; simp [go_sem]
  have hTO := @run_callFunc_extern Tryz.prog 95 _ (ReflectliteType.typeOf) Tryz.func95 (by kernel_rfl) (by kernel_rfl) (by kernel_rfl) (by kernel_rfl)
  have hAS := @run_callFunc_extern Tryz.prog 158 _ (ReflectliteType.relation "AssignableTo" ReflectliteType.assignableTo) Tryz.func158 (by kernel_rfl) (by kernel_rfl) (by kernel_rfl) (by kernel_rfl)
  have hEL := @run_callFunc_extern Tryz.prog 96 _ (ReflectliteValue.method (ReflectliteValue.valueError "reflectlite.Value.Elem" 0) ReflectliteValue.elem) Tryz.func96 (by kernel_rfl) (by kernel_rfl) (by kernel_rfl) (by kernel_rfl)
  have hVO := @run_callFunc_extern Tryz.prog 66 _ (fun args => ReflectliteValue.unpack (args.getD 0 (.tuple #[]))) Tryz.func66 (by kernel_rfl) (by kernel_rfl) (by kernel_rfl) (by kernel_rfl)
  have hST := @run_callFunc_extern Tryz.prog 97 _ (ReflectliteValue.set) Tryz.func97 (by kernel_rfl) (by kernel_rfl) (by kernel_rfl) (by kernel_rfl)
  have HB0 := Hid.mk hB0
  obtain ⟨t2, b2, rfl, hl, hs, h5, hlt, h7⟩ := hc
  clear hs h5 h7 ha hd hf hB0
  have tO := towT
  have mA := meAssignableTo
  have aS := asww
  have vO := vowT
  have eV := evwP ⟨A, 0, none⟩ ⟨D, 0, none⟩ W0 ha0
  obtain ⟨W1, hW1⟩ : ∃ W1, W0.alloc (.cells #[.pointer (some ⟨b, 0, none⟩)] 80) = W1 := ⟨_, rfl⟩
  have hB1 : Below W0.heap.size W0 W1 := by rw [← hW1]; exact (Below.refl _ _).alloc (Nat.le_refl _) _
  have sT := sewT ⟨D, 0, none⟩ ⟨w.heap.size + 1, 0, none⟩ ⟨b, 0, none⟩ old W1 (by rw [← hl0, ← hW1]; simp [go_sem]) ((hB1.cell (p := ⟨D, 0, none⟩) (by show D < _; omega)).trans hd0) (by rw [← hW1, World.frozen?_alloc_old _ _ ⟨D, 0, none⟩ (by show D ≠ _; omega)]; exact hf0)
  have HW1 := Hid.mk hB1
  clear hB1
  go_enter Tryz.func69, Tryz.ntmps69
  go_wp2_with fail
  refine wp_loop_rounds 1 ?_
  rw [rounds_succ]
  go_wp2_with fail
  go_ret
  exact ⟨W1, rfl, HB0.out.trans (HW1.out.mono HB0.out.size), rfl⟩

set_option maxRecDepth 100000 in
set_option maxHeartbeats 6400000 in
theorem w_as_n (r : Int) (t : TypeId) (b : Nat) (A D : Nat) (w : World) (hc : ErC w [] r t b) :
    Calls Tryz.prog 69 #[.iface t (.pointer (some ⟨b, 0, none⟩)), .iface 81 (.pointer (some ⟨D, 0, none⟩)), .agg #[.pointer (some ⟨4, 81, none⟩), .pointer (some ⟨A, 0, none⟩), .int .u64 150], .iface 128 (.agg #[.pointer (some ⟨4, 80, none⟩)])] w fun e w' => e = .returned (.bool false) ∧ Below w.heap.size w w' := by
  have hTO := @run_callFunc_extern Tryz.prog 95 _ (ReflectliteType.typeOf) Tryz.func95 (by kernel_rfl) (by kernel_rfl) (by kernel_rfl) (by kernel_rfl)
  have hAS := @run_callFunc_extern Tryz.prog 158 _ (ReflectliteType.relation "AssignableTo" ReflectliteType.assignableTo) Tryz.func158 (by kernel_rfl) (by kernel_rfl) (by kernel_rfl) (by kernel_rfl)
  have hEL := @run_callFunc_extern Tryz.prog 96 _ (ReflectliteValue.method (ReflectliteValue.valueError "reflectlite.Value.Elem" 0) ReflectliteValue.elem) Tryz.func96 (by kernel_rfl) (by kernel_rfl) (by kernel_rfl) (by kernel_rfl)
  have hVO := @run_callFunc_extern Tryz.prog 66 _ (fun args => ReflectliteValue.unpack (args.getD 0 (.tuple #[]))) Tryz.func66 (by kernel_rfl) (by kernel_rfl) (by kernel_rfl) (by kernel_rfl)
  have hST := @run_callFunc_extern Tryz.prog 97 _ (ReflectliteValue.set) Tryz.func97 (by kernel_rfl) (by kernel_rfl) (by kernel_rfl) (by kernel_rfl)
  have HB0 := Hid.mk (below1 w (.cells #[.pointer (some ⟨4, 81, none⟩), .pointer (some ⟨A, 0, none⟩), .int .u64 150] 108))
  obtain ⟨rfl, hl, hcell⟩ := hc
  have tO := tomT
  have mA := meAssignableTo
  have aS := asmw
  have nA := namT
  have nU := numT
  have nS := nsmT
  clear hcell
  go_enter Tryz.func69, Tryz.ntmps69
  go_wp2_with fail
  refine wp_loop_rounds 1 ?_
  rw [rounds_succ]
  go_wp2_with fail
  go_ret
  exact ⟨rfl, HB0.out⟩
end Go.Proofs.YtapjfocjeligiaaGreatDoor
namespace Go.Proofs.YtapjfocjeligiaaGreatDoor
open Go.RowKit Go.Extern.Stop Go.Stop Go.Extern
set_option linter.unusedVariables false
set_option linter.unusedSimpArgs false

/-- the variable that errors.As reads -/
def ErrT (w : World) : Prop := w.cell? ⟨0, 0, none⟩ = some (.iface 128 (.agg #[.pointer (some ⟨4, 54, none⟩)]))
theorem ErrT.keep {w w' : World} (h : ErrT w) (hb : Below w.heap.size w w') : ErrT w' := (hb.cell (p := ⟨_, _, _⟩) (World.block_lt_of_cell? _ _ h)).trans h

set_option maxRecDepth 100000 in
set_option maxHeartbeats 6400000 in
theorem w_As_m (p : List VT) (r : Int) (t : TypeId) (b D : Nat) (old : Value) (w : World) (hc : ErC w p r t b) (hg : ErrT w) (hd : w.cell? ⟨D, 0, none⟩ = some old) (hf : w.frozen? ⟨D, 0, none⟩ = false) :
    Calls Tryz.prog 42 #[.iface t (.pointer (some ⟨b, 0, none⟩)), .iface 79 (.pointer (some ⟨D, 0, none⟩))] w fun e w' => ∃ W c, e = .returned (.bool true) ∧ Below w.heap.size w W ∧ w' = W.setCell ⟨D, 0, none⟩ (.pointer (some ⟨c, 0, none⟩)) ∧ c < W.heap.size ∧ W.cell? ⟨c, 0, none⟩ = some (.int .i64 r) := by
  obtain ⟨W2, hW2⟩ : ∃ W2, (w.alloc (.cells #[.pointer (some ⟨D, 0, none⟩)] 79)).alloc (.cells #[.pointer (some ⟨4, 79, none⟩), .pointer (some ⟨w.heap.size, 0, none⟩), .int .u64 150] 108) = W2 := ⟨_, rfl⟩
  have hB2 : Below w.heap.size w W2 := by rw [← hW2]; exact ((Below.refl _ _).alloc (Nat.le_refl _) _).alloc (by simp) _
  have hlD : D < w.heap.size := World.block_lt_of_cell? _ _ hd
  have ha2 : W2.cell? ⟨w.heap.size, 0, none⟩ = some (.pointer (some ⟨D, 0, none⟩)) := by rw [← hW2]; simp [go_sem]
  have hd2 := (hB2.cell (p := ⟨D, 0, none⟩) hlD).trans hd
  have hf2 : W2.frozen? ⟨D, 0, none⟩ = false := by rw [← hW2, World.frozen?_alloc_old _ _ ⟨D, 0, none⟩ (by simp; omega), World.frozen?_alloc_old _ _ ⟨D, 0, none⟩ (Nat.ne_of_lt hlD)]; exact hf
  have q0 : W2.cell? ⟨w.heap.size + 1, 0, none⟩ = some (.pointer (some ⟨4, 79, none⟩)) := by rw [← hW2]; simp [go_sem]
  have q1 : W2.cell? ⟨w.heap.size + 1, 1, none⟩ = some (.pointer (some ⟨w.heap.size, 0, none⟩)) := by rw [← hW2]; simp [go_sem]
  have q2 : W2.cell? ⟨w.heap.size + 1, 2, none⟩ = some (.int .u64 150) := by rw [← hW2]; simp [go_sem]
  have hg2 : W2.cell? ⟨0, 0, none⟩ = some (.iface 128 (.agg #[.pointer (some ⟨4, 54, none⟩)])) := hg.keep hB2
  have HA := Hid.mk (w_as_m p r t b w.heap.size D old W2 (hc.keep hB2) ha2 hd2 hf2)
  have HB2 := Hid.mk hB2
  have vO := vomP ⟨D, 0, none⟩
  have tY := tymP
  have mK := meKind
  have mE := meElem
  have mI := meImplements
  have kP := kdmP
  have kT := kdmT
  have eP := elmP
  have iT := immT
  have iN := inmP ⟨w.heap.size, 0, none⟩ ⟨D, 0, none⟩ W2 ha2
  have hVO := @run_callFunc_extern Tryz.prog 66 _ (fun args => ReflectliteValue.unpack (args.getD 0 (.tuple #[]))) Tryz.func66 (by kernel_rfl) (by kernel_rfl) (by kernel_rfl) (by kernel_rfl)
  have hTY := @run_callFunc_extern Tryz.prog 67 _ (ReflectliteValue.methodAny (ReflectliteValue.valueError "reflectlite.Value.Type" 0) (fun t _ _ _ => ReflectliteType.toType t)) Tryz.func67 (by kernel_rfl) (by kernel_rfl) (by kernel_rfl) (by kernel_rfl)
  have hIN := @run_callFunc_extern Tryz.prog 68 _ (ReflectliteValue.method (ReflectliteValue.valueError "reflectlite.Value.IsNil" 0) ReflectliteValue.isNil) Tryz.func68 (by kernel_rfl) (by kernel_rfl) (by kernel_rfl) (by kernel_rfl)
  have hKD := @run_callFunc_extern Tryz.prog 148 _ (ReflectliteType.abiMethod fun t => do pure (.int .u8 (← Rtype.kind t))) Tryz.func148 (by kernel_rfl) (by kernel_rfl) (by kernel_rfl) (by kernel_rfl)
  have hRE := @run_callFunc_extern Tryz.prog 160 _ (ReflectliteType.method ReflectliteType.elem) Tryz.func160 (by kernel_rfl) (by kernel_rfl) (by kernel_rfl) (by kernel_rfl)
  have hIM := @run_callFunc_extern Tryz.prog 161 _ (ReflectliteType.relation "Implements" ReflectliteType.implements_) Tryz.func161 (by kernel_rfl) (by kernel_rfl) (by kernel_rfl) (by kernel_rfl)
  clear hc hg hd hf hB2 hd2 hf2 ha2
  go_enter Tryz.func42, Tryz.ntmps42
  go_wp2_with fail
  refine HA.out.mono ?_
  rintro e w9 ⟨W, c, rfl, hbW, rfl, hcl, hcc⟩
  have HF := Hid.mk (And.intro (HB2.out.trans (hbW.mono HB2.out.size)) (And.intro (Nat.lt_of_lt_of_le hcl hbW.size) ((hbW.cell (p := ⟨c, 0, none⟩) hcl).trans hcc)))
  clear hbW hcl hcc
  generalize hz : W.setCell ⟨D, 0, none⟩ (.pointer (some ⟨c, 0, none⟩)) = wz
  have HZ := Hid.mk hz
  clear hz
  go_wp2_with fail
  go_ret
  exact ⟨W, c, rfl, HF.out.1, HZ.out.symm, HF.out.2.1, HF.out.2.2⟩

set_option maxRecDepth 100000 in
set_option maxHeartbeats 6400000 in
theorem w_As_w (s : VT) (p : List VT) (r : Int) (t : TypeId) (b D : Nat) (old : Value) (w : World) (hc : ErC w (s :: p) r t b) (hg : ErrT w) (hd : w.cell? ⟨D, 0, none⟩ = some old) (hf : w.frozen? ⟨D, 0, none⟩ = false) :
    Calls Tryz.prog 42 #[.iface t (.pointer (some ⟨b, 0, none⟩)), .iface 81 (.pointer (some ⟨D, 0, none⟩))] w fun e w' => ∃ W, e = .returned (.bool true) ∧ Below w.heap.size w W ∧ w' = W.setCell ⟨D, 0, none⟩ (.pointer (some ⟨b, 0, none⟩)) := by
  obtain ⟨W2, hW2⟩ : ∃ W2, (w.alloc (.cells #[.pointer (some ⟨D, 0, none⟩)] 81)).alloc (.cells #[.pointer (some ⟨4, 81, none⟩), .pointer (some ⟨w.heap.size, 0, none⟩), .int .u64 150] 108) = W2 := ⟨_, rfl⟩
  have hB2 : Below w.heap.size w W2 := by rw [← hW2]; exact ((Below.refl _ _).alloc (Nat.le_refl _) _).alloc (by simp) _
  have hlD : D < w.heap.size := World.block_lt_of_cell? _ _ hd
  have ha2 : W2.cell? ⟨w.heap.size, 0, none⟩ = some (.pointer (some ⟨D, 0, none⟩)) := by rw [← hW2]; simp [go_sem]
  have hd2 := (hB2.cell (p := ⟨D, 0, none⟩) hlD).trans hd
  have hf2 : W2.frozen? ⟨D, 0, none⟩ = false := by rw [← hW2, World.frozen?_alloc_old _ _ ⟨D, 0, none⟩ (by simp; omega), World.frozen?_alloc_old _ _ ⟨D, 0, none⟩ (Nat.ne_of_lt hlD)]; exact hf
  have q0 : W2.cell? ⟨w.heap.size + 1, 0, none⟩ = some (.pointer (some ⟨4, 81, none⟩)) := by rw [← hW2]; simp [go_sem]
  have q1 : W2.cell? ⟨w.heap.size + 1, 1, none⟩ = some (.pointer (some ⟨w.heap.size, 0, none⟩)) := by rw [← hW2]; simp [go_sem]
  have q2 : W2.cell? ⟨w.heap.size + 1, 2, none⟩ = some (.int .u64 150) := by rw [← hW2]; simp [go_sem]
  have hg2 : W2.cell? ⟨0, 0, none⟩ = some (.iface 128 (.agg #[.pointer (some ⟨4, 54, none⟩)])) := hg.keep hB2
  have HA := Hid.mk (w_as_w s p r t b w.heap.size D old W2 (hc.keep hB2) ha2 hd2 hf2)
  have HB2 := Hid.mk hB2
  have vO := vowP ⟨D, 0, none⟩
  have tY := tywP
  have mK := meKind
  have mE := meElem
  have mI := meImplements
  have kP := kdwP
  have kT := kdwT
  have eP := elwP
  have iT := imwT
  have iN := inwP ⟨w.heap.size, 0, none⟩ ⟨D, 0, none⟩ W2 ha2
  have hVO := @run_callFunc_extern Tryz.prog 66 _ (fun args => ReflectliteValue.unpack (args.getD 0 (.tuple #[]))) Tryz.func66 (by kernel_rfl) (by kernel_rfl) (by kernel_rfl) (by kernel_rfl)
  have hTY := @run_callFunc_extern Tryz.prog 67 _ (ReflectliteValue.methodAny (ReflectliteValue.valueError "reflectlite.Value.Type" 0) (fun t _ _ _ => ReflectliteType.toType t)) Tryz.func67 (by kernel_rfl) (by kernel_rfl) (by kernel_rfl) (by kernel_rfl)
  have hIN := @run_callFunc_extern Tryz.prog 68 _ (ReflectliteValue.method (ReflectliteValue.valueError "reflectlite.Value.IsNil" 0) ReflectliteValue.isNil) Tryz.func68 (by kernel_rfl) (by kernel_rfl) (by kernel_rfl) (by kernel_rfl)
  have hKD := @run_callFunc_extern Tryz.prog 148 _ (ReflectliteType.abiMethod fun t => do pure (.int .u8 (← Rtype.kind t))) Tryz.func148 (by kernel_rfl) (by kernel_rfl) (by kernel_rfl) (by kernel_rfl)
  have hRE := @run_callFunc_extern Tryz.prog 160 _ (ReflectliteType.method ReflectliteType.elem) Tryz.func160 (by kernel_rfl) (by kernel_rfl) (by kernel_rfl) (by kernel_rfl)
  have hIM := @run_callFunc_extern Tryz.prog 161 _ (ReflectliteType.relation "Implements" ReflectliteType.implements_) Tryz.func161 (by kernel_rfl) (by kernel_rfl) (by kernel_rfl) (by kernel_rfl)
  clear hc hg hd hf hB2 hd2 hf2 ha2
  go_enter Tryz.func42, Tryz.ntmps42
  go_wp2_with fail
  refine HA.out.mono ?_
  rintro e w9 ⟨W, rfl, hbW, rfl⟩
  have HF := Hid.mk (HB2.out.trans (hbW.mono HB2.out.size))
  clear hbW
  generalize hz : W.setCell ⟨D, 0, none⟩ (.pointer (some ⟨b, 0, none⟩)) = wz
  have HZ := Hid.mk hz
  clear hz
  go_wp2_with fail
  go_ret
  exact ⟨W, rfl, HF.out, HZ.out.symm⟩

set_option maxRecDepth 100000 in
set_option maxHeartbeats 6400000 in
theorem w_As_n (r : Int) (t : TypeId) (b D : Nat) (old : Value) (w : World) (hc : ErC w [] r t b) (hg : ErrT w) (hd : w.cell? ⟨D, 0, none⟩ = some old) (hf : w.frozen? ⟨D, 0, none⟩ = false) :
    Calls Tryz.prog 42 #[.iface t (.pointer (some ⟨b, 0, none⟩)), .iface 81 (.pointer (some ⟨D, 0, none⟩))] w fun e w' => e = .returned (.bool false) ∧ Below w.heap.size w w' := by
  obtain ⟨W2, hW2⟩ : ∃ W2, (w.alloc (.cells #[.pointer (some ⟨D, 0, none⟩)] 81)).alloc (.cells #[.pointer (some ⟨4, 81, none⟩), .pointer (some ⟨w.heap.size, 0, none⟩), .int .u64 150] 108) = W2 := ⟨_, rfl⟩
  have hB2 : Below w.heap.size w W2 := by rw [← hW2]; exact ((Below.refl _ _).alloc (Nat.le_refl _) _).alloc (by simp) _
  have hlD : D < w.heap.size := World.block_lt_of_cell? _ _ hd
  have ha2 : W2.cell? ⟨w.heap.size, 0, none⟩ = some (.pointer (some ⟨D, 0, none⟩)) := by rw [← hW2]; simp [go_sem]
  have hd2 := (hB2.cell (p := ⟨D, 0, none⟩) hlD).trans hd
  have hf2 : W2.frozen? ⟨D, 0, none⟩ = false := by rw [← hW2, World.frozen?_alloc_old _ _ ⟨D, 0, none⟩ (by simp; omega), World.frozen?_alloc_old _ _ ⟨D, 0, none⟩ (Nat.ne_of_lt hlD)]; exact hf
  have q0 : W2.cell? ⟨w.heap.size + 1, 0, none⟩ = some (.pointer (some ⟨4, 81, none⟩)) := by rw [← hW2]; simp [go_sem]
  have q1 : W2.cell? ⟨w.heap.size + 1, 1, none⟩ = some (.pointer (some ⟨w.heap.size, 0, none⟩)) := by rw [← hW2]; simp [go_sem]
  have q2 : W2.cell? ⟨w.heap.size + 1, 2, none⟩ = some (.int .u64 150) := by rw [← hW2]; simp [go_sem]
  have hg2 : W2.cell? ⟨0, 0, none⟩ = some (.iface 128 (.agg #[.pointer (some ⟨4, 54, none⟩)])) := hg.keep hB2
  have HA := Hid.mk (w_as_n r t b w.heap.size D W2 (hc.keep hB2))
  have HB2 := Hid.mk hB2
  have vO := vowP ⟨D, 0, none⟩
  have tY := tywP
  have mK := meKind
  have mE := meElem
  have mI := meImplements
  have kP := kdwP
  have kT := kdwT
  have eP := elwP
  have iT := imwT
  have iN := inwP ⟨w.heap.size, 0, none⟩ ⟨D, 0, none⟩ W2 ha2
  have hVO := @run_callFunc_extern Tryz.prog 66 _ (fun args => ReflectliteValue.unpack (args.getD 0 (.tuple #[]))) Tryz.func66 (by kernel_rfl) (by kernel_rfl) (by kernel_rfl) (by kernel_rfl)
  have hTY := @run_callFunc_extern Tryz.prog 67 _ (ReflectliteValue.methodAny (ReflectliteValue.valueError "reflectlite.Value.Type" 0) (fun t _ _ _ => ReflectliteType.toType t)) Tryz.func67 (by kernel_rfl) (by kernel_rfl) (by kernel_rfl) (by kernel_rfl)
  have hIN := @run_callFunc_extern Tryz.prog 68 _ (ReflectliteValue.method (ReflectliteValue.valueError "reflectlite.Value.IsNil" 0) ReflectliteValue.isNil) Tryz.func68 (by kernel_rfl) (by kernel_rfl) (by kernel_rfl) (by kernel_rfl)
  have hKD := @run_callFunc_extern Tryz.prog 148 _ (ReflectliteType.abiMethod fun t => do pure (.int .u8 (← Rtype.kind t))) Tryz.func148 (by kernel_rfl) (by kernel_rfl) (by kernel_rfl) (by kernel_rfl)
  have hRE := @run_callFunc_extern Tryz.prog 160 _ (ReflectliteType.method ReflectliteType.elem) Tryz.func160 (by kernel_rfl) (by kernel_rfl) (by kernel_rfl) (by kernel_rfl)
  have hIM := @run_callFunc_extern Tryz.prog 161 _ (ReflectliteType.relation "Implements" ReflectliteType.implements_) Tryz.func161 (by kernel_rfl) (by kernel_rfl) (by kernel_rfl) (by kernel_rfl)
  clear hc hg hd hf hB2 hd2 hf2 ha2
  go_enter Tryz.func42, Tryz.ntmps42
  go_wp2_with fail
  refine HA.out.mono ?_
  rintro e w9 ⟨rfl, hbW⟩
  have HF := Hid.mk (HB2.out.trans (hbW.mono HB2.out.size))
  clear hbW
  go_wp2_with fail
  go_ret
  exact ⟨rfl, HF.out⟩
end Go.Proofs.YtapjfocjeligiaaGreatDoor
