/- errors.As of a fieldError, at a variable of that type. -/
import Derived.Test.YtfhglganaebpoaaDoorE1
import Derived.Laws.CopyOwn
namespace Go.Proofs.YtfhglganaebpoaaDoor
open Go.RowKit Go.Extern.Stop Go.Stop Go.Extern

/-- The entries that errors.As comes to. -/
def valueOfE : Array Value → Sem Value := fun args => ReflectliteValue.unpack (args.getD 0 (.tuple #[]))
def vTypeE : Array Value → Sem Value := ReflectliteValue.methodAny (ReflectliteValue.valueError "reflectlite.Value.Type" 0) (fun t _ _ _ => ReflectliteType.toType t)
def isNilE : Array Value → Sem Value := ReflectliteValue.method (ReflectliteValue.valueError "reflectlite.Value.IsNil" 0) ReflectliteValue.isNil
def kindE : Array Value → Sem Value := ReflectliteType.abiMethod fun t => do pure (.int .u8 (← Rtype.kind t))
def elemE : Array Value → Sem Value := ReflectliteType.method ReflectliteType.elem
def implE : Array Value → Sem Value := ReflectliteType.relation "Implements" ReflectliteType.implements_
def assignE : Array Value → Sem Value := ReflectliteType.relation "AssignableTo" ReflectliteType.assignableTo
def vElemE : Array Value → Sem Value := ReflectliteValue.method (ReflectliteValue.valueError "reflectlite.Value.Elem" 0) ReflectliteValue.elem
def setE : Array Value → Sem Value := ReflectliteValue.set

theorem as_nil (t : Value) (w : World) :
    Calls Tryd.prog 27 #[.nilIface, t] w fun e w' => e = .returned (.bool false) ∧ w' = w := by
  go_enter Tryd.func27, Tryd.ntmps27
  go_wp2
  go_ret
  exact ⟨rfl, rfl⟩

theorem valueOf60 (t : Addr) (w : World) : (valueOfE #[.iface 60 (.pointer (some t))]).run Tryd.prog w
    = .ok (.agg #[.pointer (some ⟨2, 60, none⟩), .pointer (some ⟨w.heap.size, 0, none⟩), .int .u64 150]) (w.alloc (.cells #[.pointer (some t)] 60)) := by kernel_rfl
theorem type60 (a : Addr) (w : World) : (vTypeE #[.agg #[.pointer (some ⟨2, 60, none⟩), .pointer (some a), .int .u64 150]]).run Tryd.prog w
    = .ok (.iface 77 (.agg #[.pointer (some ⟨2, 60, none⟩)])) w := by kernel_rfl
theorem methodKind (h : Value) (w : World) : (Go.method 225 77 (.agg #[h]) "Kind").run Tryd.prog w = .ok (50, h) w := by kernel_rfl
theorem methodElem (h : Value) (w : World) : (Go.method 225 77 (.agg #[h]) "Elem").run Tryd.prog w = .ok (62, .agg #[h]) w := by kernel_rfl
theorem methodImplements (h : Value) (w : World) : (Go.method 225 77 (.agg #[h]) "Implements").run Tryd.prog w = .ok (63, .agg #[h]) w := by kernel_rfl
theorem methodAssignableTo (h : Value) (w : World) : (Go.method 225 77 (.agg #[h]) "AssignableTo").run Tryd.prog w = .ok (60, .agg #[h]) w := by kernel_rfl
theorem kind60 (w : World) : (kindE #[.pointer (some ⟨2, 60, none⟩)]).run Tryd.prog w = .ok (.int .u8 22) w := by kernel_rfl
theorem kind58 (w : World) : (kindE #[.pointer (some ⟨2, 58, none⟩)]).run Tryd.prog w = .ok (.int .u8 25) w := by kernel_rfl
theorem elem60 (w : World) : (elemE #[.agg #[.pointer (some ⟨2, 60, none⟩)]]).run Tryd.prog w = .ok (.iface 77 (.agg #[.pointer (some ⟨2, 58, none⟩)])) w := by kernel_rfl
theorem implements58 (w : World) : (implE #[.agg #[.pointer (some ⟨2, 58, none⟩)], .iface 77 (.agg #[.pointer (some ⟨2, 52, none⟩)])]).run Tryd.prog w = .ok (.bool true) w := by kernel_rfl
theorem typeOf58 (v : Value) (w : World) : (ReflectliteType.typeOf #[.iface 58 v]).run Tryd.prog w = .ok (.iface 77 (.agg #[.pointer (some ⟨2, 58, none⟩)])) w := by kernel_rfl
theorem assignable58 (w : World) : (assignE #[.agg #[.pointer (some ⟨2, 58, none⟩)], .iface 77 (.agg #[.pointer (some ⟨2, 58, none⟩)])]).run Tryd.prog w = .ok (.bool true) w := by kernel_rfl
theorem valueOf58 (s x : Value) (w : World) : (valueOfE #[.iface 58 (.agg #[s, x])]).run Tryd.prog w
    = .ok (.agg #[.pointer (some ⟨2, 58, none⟩), .pointer (some ⟨w.heap.size, 0, none⟩), .int .u64 153]) (w.alloc (.cells #[s, x] 58)) := by kernel_rfl

theorem rlm (z : Sem Value) (f : TypeId → Addr → Nat → Nat → Sem Value) (v : Value) :
    ReflectliteValue.method z f #[v] = (do match ← ReflectliteValue.parts v with | none => z | some (t, a, fl) => f t a fl (fl % 32)) := rfl
theorem parts60 (a : Addr) (w : World) : (ReflectliteValue.parts (.agg #[.pointer (some ⟨2, 60, none⟩), .pointer (some a), .int .u64 150])).run Tryd.prog w = .ok (some (60, a, 150)) w := by kernel_rfl
theorem isNil60 (a p : Addr) (W : World) (ha : W.cell? a = some (.pointer (some p))) :
    (isNilE #[.agg #[.pointer (some ⟨2, 60, none⟩), .pointer (some a), .int .u64 150]]).run Tryd.prog W = .ok (.bool false) W := by
  unfold isNilE
  rw [rlm]
  simp only [Sem.run_bind, parts60, Result.andThen]
  simp [ReflectliteValue.isNil, loadVar, isAgg, underlying, Tryd.underlying60, ha, Result.andThen]
theorem elemOf60 (w : World) : (Rtype.elem? 60).run Tryd.prog w = .ok (some 58) w := by kernel_rfl
theorem mk58 (p : Addr) (w : World) : (ReflectliteValue.mk 58 p ReflectliteValue.flagAddr).run Tryd.prog w = .ok (.agg #[.pointer (some ⟨2, 58, none⟩), .pointer (some p), .int .u64 409]) w := by kernel_rfl
theorem elemV60 (a p : Addr) (W : World) (ha : W.cell? a = some (.pointer (some p))) :
    (vElemE #[.agg #[.pointer (some ⟨2, 60, none⟩), .pointer (some a), .int .u64 150]]).run Tryd.prog W
      = .ok (.agg #[.pointer (some ⟨2, 58, none⟩), .pointer (some p), .int .u64 409]) W := by
  unfold vElemE
  rw [rlm]
  simp only [Sem.run_bind, parts60, Result.andThen]
  simp [ReflectliteValue.elem, loadVar, isAgg, underlying, Tryd.underlying60, ha, Result.andThen, elemOf60, mk58]
theorem rls (v x : Value) : ReflectliteValue.set #[v, x] = (do
    let (some (dst, a, fl), some (src, b, _)) := (← ReflectliteValue.parts v, ← ReflectliteValue.parts x)
      | unsupported (.noEntry "extern/(internal/reflectlite.Value).Set.zeroValue")
    if fl / ReflectliteValue.flagAddr % 2 == 0 then unsupported (.noEntry "extern/(internal/reflectlite.Value).Set.unaddressable")
    let val ← loadVar src b
    if ← Rtype.directlyAssignable dst src then storeVar dst a val
    else if ← Rtype.implements dst src then
      if (← Rtype.kind src) == 20 then
        match val with
        | .nilIface => unsupported (.noEntry "extern/reflectlite: a nil value of one interface type handed on as a value of another")
        | _ => storeVar dst a val
      else storeVar dst a (.iface src val)
    else panicString ("reflectlite.Set: value of type " ++ (← Rtype.spelt src) ++ " is not assignable to type " ++ (← Rtype.spelt dst))
    pure (.tuple #[])) := rfl
theorem parts58a (a : Addr) (w : World) : (ReflectliteValue.parts (.agg #[.pointer (some ⟨2, 58, none⟩), .pointer (some a), .int .u64 409])).run Tryd.prog w = .ok (some (58, a, 409)) w := by kernel_rfl
theorem parts58 (a : Addr) (w : World) : (ReflectliteValue.parts (.agg #[.pointer (some ⟨2, 58, none⟩), .pointer (some a), .int .u64 153])).run Tryd.prog w = .ok (some (58, a, 153)) w := by kernel_rfl
theorem direct58 (w : World) : (Rtype.directlyAssignable 58 58).run Tryd.prog w = .ok true w := by kernel_rfl
theorem info58 : (Tryd.prog.info? 58).map (·.size) = some 2 := by kernel_rfl
/-- (Value).Set: the variable at block g gets what the Value's own variable holds. -/
theorem set58 (g h : Nat) (s x s' x' : Value) (t t' : TypeId) (W : World) (hb : W.heap[h]? = some (.cells #[s, x] t)) (ht : W.heap[g]? = some (.cells #[s', x'] t')) (h1 : (#[s, x] : Array Value).all (·.oneCell') = true) :
    (setE #[.agg #[.pointer (some ⟨2, 58, none⟩), .pointer (some ⟨g, 0, none⟩), .int .u64 409], .agg #[.pointer (some ⟨2, 58, none⟩), .pointer (some ⟨h, 0, none⟩), .int .u64 153]]).run Tryd.prog W
      = .ok (.tuple #[]) (W.setRow g #[s, x]) := by
  unfold setE
  rw [rls]
  simp only [Sem.run_bind, parts58a, parts58, Result.andThen]
  have e1 := run_loadVar_row (P := Tryd.prog) W h t 58 #[s, x] (0, 0) _ hb Tryd.underlying58 rfl info58
  have e2 := run_storeVar_row (P := Tryd.prog) W g t' 58 #[s', x'] #[s, x] ht info58 rfl h1
  simp [ReflectliteValue.flagAddr, e1, direct58, e2, Result.andThen]

set_option maxHeartbeats 4000000 in
set_option maxRecDepth 100000 in
theorem as_fe (s x s' x' : Value) (e : Addr) (g : Nat) (w : World) (hG : Glob w e) (ht : Has w g (.cells #[s', x'] 58)) (h1 : (#[s, x] : Array Value).all (·.oneCell') = true) :
    Calls Tryd.prog 27 #[.iface 58 (.agg #[s, x]), .iface 60 (.pointer (some ⟨g, 0, none⟩))] w fun ev w' => ev = .returned (.bool true) ∧ Has w' g (.cells #[s, x] 58) ∧ ∀ B, B ≤ g → Below B w w' := by
  have h6 := @run_callFunc_extern Tryd.prog 30 _ valueOfE Tryd.func30 (by kernel_rfl) (by kernel_rfl) (by kernel_rfl) (by kernel_rfl)
  have h7 := @run_callFunc_extern Tryd.prog 31 _ vTypeE Tryd.func31 (by kernel_rfl) (by kernel_rfl) (by kernel_rfl) (by kernel_rfl)
  have h8 := @run_callFunc_extern Tryd.prog 32 _ isNilE Tryd.func32 (by kernel_rfl) (by kernel_rfl) (by kernel_rfl) (by kernel_rfl)
  have h27 := @run_callFunc_extern Tryd.prog 50 _ kindE Tryd.func50 (by kernel_rfl) (by kernel_rfl) (by kernel_rfl) (by kernel_rfl)
  have h37 := @run_callFunc_extern Tryd.prog 62 _ elemE Tryd.func62 (by kernel_rfl) (by kernel_rfl) (by kernel_rfl) (by kernel_rfl)
  have h38 := @run_callFunc_extern Tryd.prog 63 _ implE Tryd.func63 (by kernel_rfl) (by kernel_rfl) (by kernel_rfl) (by kernel_rfl)
  have h10 := @run_callFunc_extern Tryd.prog 28 _ ReflectliteType.typeOf Tryd.func28 (by kernel_rfl) (by kernel_rfl) (by kernel_rfl) (by kernel_rfl)
  have h35 := @run_callFunc_extern Tryd.prog 60 _ assignE Tryd.func60 (by kernel_rfl) (by kernel_rfl) (by kernel_rfl) (by kernel_rfl)
  have h11 := @run_callFunc_extern Tryd.prog 34 _ vElemE Tryd.func34 (by kernel_rfl) (by kernel_rfl) (by kernel_rfl) (by kernel_rfl)
  have h12 := @run_callFunc_extern Tryd.prog 35 _ setE Tryd.func35 (by kernel_rfl) (by kernel_rfl) (by kernel_rfl) (by kernel_rfl)
  have tO := typeOf58
  have mA := methodAssignableTo
  have a25 := assignable58
  have v25 := valueOf58
  have f6 := valueOf60
  have f7 := type60
  have mK := methodKind
  have mE := methodElem
  have mI := methodImplements
  have k27 := kind60
  have k25 := kind58
  have e27 := elem60
  have i25 := implements58
  obtain ⟨w1, hw1⟩ : ∃ q, q = w.alloc (.cells #[.pointer (some ⟨g, 0, none⟩)] 60) := ⟨_, rfl⟩
  obtain ⟨w2, hw2⟩ : ∃ q, q = w1.alloc (.cells #[.pointer (some ⟨2, 60, none⟩), .pointer (some ⟨w.heap.size, 0, none⟩), .int .u64 150] 69) := ⟨_, rfl⟩
  obtain ⟨w3, hw3⟩ : ∃ q, q = w2.alloc (.cells #[.pointer (some ⟨2, 60, none⟩), .pointer (some ⟨w.heap.size, 0, none⟩), .int .u64 150] 69) := ⟨_, rfl⟩
  obtain ⟨w4, hw4⟩ : ∃ q, q = w3.alloc (.cells #[s, x] 58) := ⟨_, rfl⟩
  have t4 : Has w4 g (.cells #[s', x'] 58) := by subst hw4 hw3 hw2 hw1; exact (((ht.alloc _).alloc _).alloc _).alloc _
  have s4 : Has w4 w3.heap.size (.cells #[s, x] 58) := by subst hw4; exact Has.new _ _
  have q1 : Has w1 w.heap.size (.cells #[.pointer (some ⟨g, 0, none⟩)] 60) := by subst hw1; exact Has.new _ _
  have q2 : Has w2 w.heap.size (.cells #[.pointer (some ⟨g, 0, none⟩)] 60) := by subst hw2; exact q1.alloc _
  have q3 : Has w3 w.heap.size (.cells #[.pointer (some ⟨g, 0, none⟩)] 60) := by subst hw3; exact q2.alloc _
  have n8 := isNil60 ⟨w.heap.size, 0, none⟩ ⟨g, 0, none⟩ w2 (q2.cell (k := 0) rfl)
  have el := elemV60 ⟨w.heap.size, 0, none⟩ ⟨g, 0, none⟩ w3 (q3.cell (k := 0) rfl)
  have st := set58 g w3.heap.size s x s' x' 58 58 w4 s4.2 t4.2 h1
  have hg2 : w2.cell? ⟨1, 0, none⟩ = some (.iface 77 (.agg #[.pointer (some ⟨2, 52, none⟩)])) := by subst hw2 hw1; exact ((hG.below (below_alloc (Below.refl _ _) _)).below (below_alloc (Below.refl _ _) _)).2.2
  have sz3 : w3.heap.size = w.heap.size + 1 + 1 + 1 := by subst hw3 hw2 hw1; simp
  rw [sz3] at st
  clear sz3
  have R1 := hide (show Has (w4.setRow g #[s, x]) g (.cells #[s, x] 58) from ⟨by rw [setRow_size]; exact t4.1, setRow_heap _ _ _ _ _ _ t4.2⟩)
  have R2 := hide (show ∀ B, B ≤ g → Below B w (w4.setRow g #[s, x]) from fun B hB => by
    refine below_setRow ?_ hB _
    subst hw4 hw3 hw2 hw1
    exact ((below_alloc (below_alloc (below_alloc (below_alloc (Below.refl _ _) _) _) _) _).mono (Nat.le_trans hB (Nat.le_of_lt ht.1))))
  clear t4 s4 q1 q2 q3 ht hG
  subst hw4 hw3 hw2 hw1
  go_enter Tryd.func27, Tryd.ntmps27
  go_wp2
  refine wp_loop_rounds 1 ?_
  rw [rounds_succ]
  go_wp2
  go_ret
  exact ⟨rfl, unhide R1, unhide R2⟩
end Go.Proofs.YtfhglganaebpoaaDoor
