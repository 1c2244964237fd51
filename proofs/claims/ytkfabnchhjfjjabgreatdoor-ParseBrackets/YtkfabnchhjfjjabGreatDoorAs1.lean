import Derived.Test.YtkfabnchhjfjjabGreatDoorRgt
import Derived.WalkKit
import Derived.LaidEql
import Derived.Stop.Asserts
import Derived.RowKitTokens
/-
  errors.As: what the model's entries for types and values answer at this program's types.
-/
namespace Go.Proofs.YtkfabnchhjfjjabGreatDoor
open Go.RowKit Go.Extern.Stop Go.Stop Go.Extern
theorem vOf128 (t : Addr) (w : World) : (ReflectliteValue.unpack (.iface 97 (.pointer (some t)))).run Tryz.prog w = .ok (.agg #[.pointer (some ⟨3, 97, none⟩), .pointer (some ⟨w.heap.size, 0, none⟩), .int .u64 150]) (w.alloc (.cells #[.pointer (some t)] 97)) := by kernel_rfl
theorem vOf161 (t : Addr) (w : World) : (ReflectliteValue.unpack (.iface 96 (.pointer (some t)))).run Tryz.prog w = .ok (.agg #[.pointer (some ⟨3, 96, none⟩), .pointer (some ⟨w.heap.size, 0, none⟩), .int .u64 150]) (w.alloc (.cells #[.pointer (some t)] 96)) := by kernel_rfl
theorem vOf74 (t : Addr) (w : World) : (ReflectliteValue.unpack (.iface 75 (.pointer (some t)))).run Tryz.prog w = .ok (.agg #[.pointer (some ⟨3, 75, none⟩), .pointer (some ⟨w.heap.size, 0, none⟩), .int .u64 150]) (w.alloc (.cells #[.pointer (some t)] 75)) := by kernel_rfl
theorem tOf74 (v : Value) (w : World) : (ReflectliteType.typeOf #[.iface 75 v]).run Tryz.prog w = .ok (.iface 146 (.agg #[.pointer (some ⟨3, 75, none⟩)])) w := by kernel_rfl
theorem tOf48 (v : Value) (w : World) : (ReflectliteType.typeOf #[.iface 25 v]).run Tryz.prog w = .ok (.iface 146 (.agg #[.pointer (some ⟨3, 25, none⟩)])) w := by kernel_rfl
theorem asg74_74 (w : World) : (ReflectliteType.relation "AssignableTo" ReflectliteType.assignableTo #[.agg #[.pointer (some ⟨3, 75, none⟩)], .iface 146 (.agg #[.pointer (some ⟨3, 75, none⟩)])]).run Tryz.prog w = .ok (.bool true) w := by kernel_rfl
theorem asg74_48 (w : World) : (ReflectliteType.relation "AssignableTo" ReflectliteType.assignableTo #[.agg #[.pointer (some ⟨3, 75, none⟩)], .iface 146 (.agg #[.pointer (some ⟨3, 25, none⟩)])]).run Tryz.prog w = .ok (.bool false) w := by kernel_rfl
theorem asg48_48 (w : World) : (ReflectliteType.relation "AssignableTo" ReflectliteType.assignableTo #[.agg #[.pointer (some ⟨3, 25, none⟩)], .iface 146 (.agg #[.pointer (some ⟨3, 25, none⟩)])]).run Tryz.prog w = .ok (.bool true) w := by kernel_rfl
theorem asg48_74 (w : World) : (ReflectliteType.relation "AssignableTo" ReflectliteType.assignableTo #[.agg #[.pointer (some ⟨3, 25, none⟩)], .iface 146 (.agg #[.pointer (some ⟨3, 75, none⟩)])]).run Tryz.prog w = .ok (.bool false) w := by kernel_rfl
theorem imp74 (w : World) : (ReflectliteType.relation "Implements" ReflectliteType.implements_ #[.agg #[.pointer (some ⟨3, 75, none⟩)], .iface 146 (.agg #[.pointer (some ⟨3, 40, none⟩)])]).run Tryz.prog w = .ok (.bool true) w := by kernel_rfl
theorem imp48 (w : World) : (ReflectliteType.relation "Implements" ReflectliteType.implements_ #[.agg #[.pointer (some ⟨3, 25, none⟩)], .iface 146 (.agg #[.pointer (some ⟨3, 40, none⟩)])]).run Tryz.prog w = .ok (.bool true) w := by kernel_rfl
theorem elm128 (w : World) : (ReflectliteType.method ReflectliteType.elem #[.agg #[.pointer (some ⟨3, 97, none⟩)]]).run Tryz.prog w = .ok (.iface 146 (.agg #[.pointer (some ⟨3, 75, none⟩)])) w := by kernel_rfl
theorem elm161 (w : World) : (ReflectliteType.method ReflectliteType.elem #[.agg #[.pointer (some ⟨3, 96, none⟩)]]).run Tryz.prog w = .ok (.iface 146 (.agg #[.pointer (some ⟨3, 25, none⟩)])) w := by kernel_rfl
end Go.Proofs.YtkfabnchhjfjjabGreatDoor

/-
  errors.As at a Failure: its own make.
-/
namespace Go.Proofs.YtkfabnchhjfjjabGreatDoor
open Go.RowKit Go.Extern.Stop Go.Stop Go.Extern
theorem mtKind (h : Value) (w : World) : (Go.method 309 146 (.agg #[h]) "Kind").run Tryz.prog w = .ok (141, h) w := by kernel_rfl
theorem mtElem (h : Value) (w : World) : (Go.method 309 146 (.agg #[h]) "Elem").run Tryz.prog w = .ok (153, .agg #[h]) w := by kernel_rfl
theorem mtImpl (h : Value) (w : World) : (Go.method 309 146 (.agg #[h]) "Implements").run Tryz.prog w = .ok (154, .agg #[h]) w := by kernel_rfl
theorem mtAsg (h : Value) (w : World) : (Go.method 309 146 (.agg #[h]) "AssignableTo").run Tryz.prog w = .ok (151, .agg #[h]) w := by kernel_rfl
theorem ty128 (a : Addr) (w : World) : (ReflectliteValue.methodAny (ReflectliteValue.valueError "reflectlite.Value.Type" 0) (fun t _ _ _ => ReflectliteType.toType t) #[.agg #[.pointer (some ⟨3, 97, none⟩), .pointer (some a), .int .u64 150]]).run Tryz.prog w = .ok (.iface 146 (.agg #[.pointer (some ⟨3, 97, none⟩)])) w := by kernel_rfl
theorem kd128 (w : World) : ((ReflectliteType.abiMethod fun t => (fun a : Nat => Value.int IntKind.u8 (a : Int)) <$> Rtype.kind t) #[.pointer (some ⟨3, 97, none⟩)]).run Tryz.prog w = .ok (.int .u8 22) w := by kernel_rfl
theorem kd74 (w : World) : ((ReflectliteType.abiMethod fun t => (fun a : Nat => Value.int IntKind.u8 (a : Int)) <$> Rtype.kind t) #[.pointer (some ⟨3, 75, none⟩)]).run Tryz.prog w = .ok (.int .u8 22) w := by kernel_rfl
theorem pt128 (a : Addr) (w : World) : (ReflectliteValue.parts (.agg #[.pointer (some ⟨3, 97, none⟩), .pointer (some a), .int .u64 150])).run Tryz.prog w = .ok (some (97, a, 150)) w := by kernel_rfl
theorem pt74 (a : Addr) (w : World) : (ReflectliteValue.parts (.agg #[.pointer (some ⟨3, 75, none⟩), .pointer (some a), .int .u64 150])).run Tryz.prog w = .ok (some (75, a, 150)) w := by kernel_rfl
theorem pt74a (a : Addr) (w : World) : (ReflectliteValue.parts (.agg #[.pointer (some ⟨3, 75, none⟩), .pointer (some a), .int .u64 406])).run Tryz.prog w = .ok (some (75, a, 406)) w := by kernel_rfl
theorem el128 (w : World) : (Rtype.elem? 97).run Tryz.prog w = .ok (some 75) w := by kernel_rfl
theorem mk74 (p : Addr) (w : World) : (ReflectliteValue.mk 75 p ReflectliteValue.flagAddr).run Tryz.prog w = .ok (.agg #[.pointer (some ⟨3, 75, none⟩), .pointer (some p), .int .u64 406]) w := by kernel_rfl
theorem da74 (w : World) : (Rtype.directlyAssignable 75 75).run Tryz.prog w = .ok true w := by kernel_rfl
theorem rl_parts (z : Sem Value) (f : TypeId → Addr → Nat → Nat → Sem Value) (v : Value) : ∃ g : Option (TypeId × Addr × Nat) → Sem Value, ReflectliteValue.method z f #[v] = (ReflectliteValue.parts v >>= g) ∧ ∀ t a fl, g (some (t, a, fl)) = f t a fl (fl % 32) := ⟨_, rfl, fun _ _ _ => rfl⟩
/-- IsNil of the value that the target is. -/
theorem nil128 (a p : Addr) (W : World) (ha : W.cell? a = some (.pointer (some p))) :
    (ReflectliteValue.method (ReflectliteValue.valueError "reflectlite.Value.IsNil" 0) ReflectliteValue.isNil #[.agg #[.pointer (some ⟨3, 97, none⟩), .pointer (some a), .int .u64 150]]).run Tryz.prog W = .ok (.bool false) W := by
  obtain ⟨g, h1, h2⟩ := rl_parts (ReflectliteValue.valueError "reflectlite.Value.IsNil" 0) ReflectliteValue.isNil (.agg #[.pointer (some ⟨3, 97, none⟩), .pointer (some a), .int .u64 150])
  rw [h1, Sem.run_bind, pt128]
  simp [Result.andThen, h2, ReflectliteValue.isNil, loadVar, isAgg, underlying, Tryz.underlying97, ha]
/-- Elem of it: the variable that it points to. -/
theorem elv128 (a p : Addr) (W : World) (ha : W.cell? a = some (.pointer (some p))) :
    (ReflectliteValue.method (ReflectliteValue.valueError "reflectlite.Value.Elem" 0) ReflectliteValue.elem #[.agg #[.pointer (some ⟨3, 97, none⟩), .pointer (some a), .int .u64 150]]).run Tryz.prog W = .ok (.agg #[.pointer (some ⟨3, 75, none⟩), .pointer (some p), .int .u64 406]) W := by
  obtain ⟨g, h1, h2⟩ := rl_parts (ReflectliteValue.valueError "reflectlite.Value.Elem" 0) ReflectliteValue.elem (.agg #[.pointer (some ⟨3, 97, none⟩), .pointer (some a), .int .u64 150])
  rw [h1, Sem.run_bind, pt128]
  simp [Result.andThen, h2, ReflectliteValue.elem, loadVar, isAgg, underlying, Tryz.underlying97, ha, el128, mk74]
theorem rlv_set (v x : Value) : ∃ g : Option (TypeId × Addr × Nat) → Option (TypeId × Addr × Nat) → Sem Value, ReflectliteValue.set #[v, x] = (ReflectliteValue.parts v >>= fun p => ReflectliteValue.parts x >>= fun q => g p q) ∧ ∀ dst a fl src b k, fl / ReflectliteValue.flagAddr % 2 = 1 → ∃ r : Value → Bool → Sem Value, g (some (dst, a, fl)) (some (src, b, k)) = (loadVar src b >>= fun val => Rtype.directlyAssignable dst src >>= r val) ∧ ∀ val, r val true = (storeVar dst a val >>= fun _ => pure (.tuple #[])) := by
  refine ⟨_, rfl, fun dst a fl src b k h => ?_⟩
  have h' : (fl / ReflectliteValue.flagAddr % 2 == 0) = false := by rw [h]; rfl
  simp only [h']
  exact ⟨_, rfl, fun _ => rfl⟩
/-- Set: the variable gets what the value holds. -/
theorem set74 (ta b e : Addr) (old : Value) (W : World) (hb : W.cell? b = some (.pointer (some e))) (ht : W.cell? ta = some old) (hf : W.frozen? ta = false) :
    (ReflectliteValue.set #[.agg #[.pointer (some ⟨3, 75, none⟩), .pointer (some ta), .int .u64 406], .agg #[.pointer (some ⟨3, 75, none⟩), .pointer (some b), .int .u64 150]]).run Tryz.prog W = .ok (.tuple #[]) (W.setCell ta (.pointer (some e))) := by
  obtain ⟨g, h1, h2⟩ := rlv_set (.agg #[.pointer (some ⟨3, 75, none⟩), .pointer (some ta), .int .u64 406]) (.agg #[.pointer (some ⟨3, 75, none⟩), .pointer (some b), .int .u64 150])
  obtain ⟨r, h3, h4⟩ := h2 75 ta 406 75 b 150 (by decide)
  rw [h1]
  simp only [Sem.run_bind, pt74a, pt74, Result.andThen, h3]
  simp [loadVar, isAgg, underlying, Tryz.underlying75, hb, Result.andThen, da74, h4, storeVar, Value.cells, storeCells, Addr.add]
  rw [run_store Tryz.prog W ta _ _ (by rfl)]
  simp [ht, hf]
end Go.Proofs.YtkfabnchhjfjjabGreatDoor
