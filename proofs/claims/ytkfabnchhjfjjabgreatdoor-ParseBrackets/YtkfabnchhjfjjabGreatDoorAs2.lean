import Derived.Test.YtkfabnchhjfjjabGreatDoorAs1
/-
  errors.As at a Failure: the walk.
-/
namespace Go.Proofs.YtkfabnchhjfjjabGreatDoor
open Go.RowKit Go.Extern.Stop Go.Stop Go.Extern
set_option maxRecDepth 100000 in
set_option maxHeartbeats 4000000 in
/-- errors.as, where the error's own type is the target's. -/
theorem as_own (e t a : Addr) (old : Value) (w : World) (ha : w.cell? a = some (.pointer (some t))) (ht0 : w.cell? t = some old) (hf0 : w.frozen? t = false) :
    Calls Tryz.prog 64 #[.iface 75 (.pointer (some e)), .iface 97 (.pointer (some t)), .agg #[.pointer (some ⟨3, 97, none⟩), .pointer (some a), .int .u64 150], .iface 146 (.agg #[.pointer (some ⟨3, 75, none⟩)])] w fun ev w' => ev = .returned (.bool true) ∧ ∃ V, Below w.heap.size w V ∧ w' = V.setCell t (.pointer (some e)) := by
  have h50 := @run_callFunc_extern Tryz.prog 80 _ ReflectliteType.typeOf Tryz.func80 (by kernel_rfl) (by kernel_rfl) (by kernel_rfl) (by kernel_rfl)
  have h93 := @run_callFunc_extern Tryz.prog 61 _ (fun args => ReflectliteValue.unpack (args.getD 0 (.tuple #[]))) Tryz.func61 (by kernel_rfl) (by kernel_rfl) (by kernel_rfl) (by kernel_rfl)
  have h118 := @run_callFunc_extern Tryz.prog 81 _ (ReflectliteValue.method (ReflectliteValue.valueError "reflectlite.Value.Elem" 0) ReflectliteValue.elem) Tryz.func81 (by kernel_rfl) (by kernel_rfl) (by kernel_rfl) (by kernel_rfl)
  have h119 := @run_callFunc_extern Tryz.prog 82 _ ReflectliteValue.set Tryz.func82 (by kernel_rfl) (by kernel_rfl) (by kernel_rfl) (by kernel_rfl)
  have h221 := @run_callFunc_extern Tryz.prog 151 _ (ReflectliteType.relation "AssignableTo" ReflectliteType.assignableTo) Tryz.func151 (by kernel_rfl) (by kernel_rfl) (by kernel_rfl) (by kernel_rfl)
  have mA := mtAsg
  have tO := tOf74
  have a74 := asg74_74
  have v74 := vOf74
  have b1 := below_new w (.cells #[.pointer (some ⟨3, 97, none⟩), .pointer (some a), .int .u64 150] 125)
  have s1 := size_alloc w (.cells #[.pointer (some ⟨3, 97, none⟩), .pointer (some a), .int .u64 150] 125)
  have b2 := below_new (w.alloc (.cells #[.pointer (some ⟨3, 97, none⟩), .pointer (some a), .int .u64 150] 125)) (.cells #[.pointer (some e)] 75)
  have n2 := heap_new (w.alloc (.cells #[.pointer (some ⟨3, 97, none⟩), .pointer (some a), .int .u64 150] 125)) (.cells #[.pointer (some e)] 75)
  have HBB : Hid (Below w.heap.size w ((w.alloc (.cells #[.pointer (some ⟨3, 97, none⟩), .pointer (some a), .int .u64 150] 125)).alloc (.cells #[.pointer (some e)] 75))) := below2 b1 b2
  have el := elv128 a t (w.alloc (.cells #[.pointer (some ⟨3, 97, none⟩), .pointer (some a), .int .u64 150] 125)) (by rw [World.cell?_alloc_lt _ _ a (World.block_lt_of_cell? w a ha)]; exact ha)
  have st := set74 t ⟨w.heap.size + 1, 0, none⟩ e old ((w.alloc (.cells #[.pointer (some ⟨3, 97, none⟩), .pointer (some a), .int .u64 150] 125)).alloc (.cells #[.pointer (some e)] 75)) (by rw [s1] at n2; exact cell_of n2 0)
    (by rw [World.cell?_alloc_lt _ _ t (by rw [s1]; exact Nat.lt_succ_of_lt (World.block_lt_of_cell? w t ht0)), World.cell?_alloc_lt _ _ t (World.block_lt_of_cell? w t ht0)]; exact ht0)
    (by rw [World.frozen?_alloc_old _ _ t (by rw [s1]; have := World.block_lt_of_cell? w t ht0; omega), World.frozen?_alloc_old _ _ t (Nat.ne_of_lt (World.block_lt_of_cell? w t ht0))]; exact hf0)
  clear b1 s1 b2 n2
  go_enter Tryz.func64, Tryz.ntmps64
  go_wp2
  refine wp_loop_rounds 1 ?_
  rw [rounds_succ]
  go_wp2
  go_ret
  exact ⟨rfl, _, HBB.out, rfl⟩
set_option maxRecDepth 100000 in
set_option maxHeartbeats 4000000 in
/-- errors.As of a Failure, at a target for one. -/
theorem asF_any (e t : Addr) (old : Value) (w : World) (hg : w.cell? ⟨0, 0, none⟩ = some (.iface 146 (.agg #[.pointer (some ⟨3, 40, none⟩)]))) (ht0 : w.cell? t = some old) (hf0 : w.frozen? t = false) :
    Calls Tryz.prog 38 #[.iface 75 (.pointer (some e)), .iface 97 (.pointer (some t))] w fun ev w' => ev = .returned (.bool true) ∧ ∃ V, Below w.heap.size w V ∧ w' = V.setCell t (.pointer (some e)) := by
  have h93 := @run_callFunc_extern Tryz.prog 61 _ (fun args => ReflectliteValue.unpack (args.getD 0 (.tuple #[]))) Tryz.func61 (by kernel_rfl) (by kernel_rfl) (by kernel_rfl) (by kernel_rfl)
  have h94 := @run_callFunc_extern Tryz.prog 62 _ (ReflectliteValue.methodAny (ReflectliteValue.valueError "reflectlite.Value.Type" 0) (fun t _ _ _ => ReflectliteType.toType t)) Tryz.func62 (by kernel_rfl) (by kernel_rfl) (by kernel_rfl) (by kernel_rfl)
  have h95 := @run_callFunc_extern Tryz.prog 63 _ (ReflectliteValue.method (ReflectliteValue.valueError "reflectlite.Value.IsNil" 0) ReflectliteValue.isNil) Tryz.func63 (by kernel_rfl) (by kernel_rfl) (by kernel_rfl) (by kernel_rfl)
  have h210 := @run_callFunc_extern Tryz.prog 141 _ (ReflectliteType.abiMethod fun t => do pure (.int .u8 (← Rtype.kind t))) Tryz.func141 (by kernel_rfl) (by kernel_rfl) (by kernel_rfl) (by kernel_rfl)
  have h223 := @run_callFunc_extern Tryz.prog 153 _ (ReflectliteType.method ReflectliteType.elem) Tryz.func153 (by kernel_rfl) (by kernel_rfl) (by kernel_rfl) (by kernel_rfl)
  have h224 := @run_callFunc_extern Tryz.prog 154 _ (ReflectliteType.relation "Implements" ReflectliteType.implements_) Tryz.func154 (by kernel_rfl) (by kernel_rfl) (by kernel_rfl) (by kernel_rfl)
  have mK := mtKind
  have mE := mtElem
  have mI := mtImpl
  have v128 := vOf128
  have y128 := ty128
  have k128 := kd128
  have k74 := kd74
  have e128 := elm128
  have i74 := imp74
  have l0 := World.block_lt_of_cell? w ⟨0, 0, none⟩ hg
  have lt := World.block_lt_of_cell? w t ht0
  have b1 := below_new w (.cells #[.pointer (some t)] 97)
  have s1 := size_alloc w (.cells #[.pointer (some t)] 97)
  have n1 := heap_new w (.cells #[.pointer (some t)] 97)
  have b2 := below_new (w.alloc (.cells #[.pointer (some t)] 97)) (.cells #[.pointer (some ⟨3, 97, none⟩), .pointer (some ⟨w.heap.size, 0, none⟩), .int .u64 150] 125)
  have HBB : Hid (Below w.heap.size w ((w.alloc (.cells #[.pointer (some t)] 97)).alloc (.cells #[.pointer (some ⟨3, 97, none⟩), .pointer (some ⟨w.heap.size, 0, none⟩), .int .u64 150] 125))) := below2 b1 b2
  have ca : ((w.alloc (.cells #[.pointer (some t)] 97)).alloc (.cells #[.pointer (some ⟨3, 97, none⟩), .pointer (some ⟨w.heap.size, 0, none⟩), .int .u64 150] 125)).cell? ⟨w.heap.size, 0, none⟩ = some (.pointer (some t)) := cell_of ((b2.block _ (by omega)).trans n1) 0
  have hg2 : ((w.alloc (.cells #[.pointer (some t)] 97)).alloc (.cells #[.pointer (some ⟨3, 97, none⟩), .pointer (some ⟨w.heap.size, 0, none⟩), .int .u64 150] 125)).cell? ⟨0, 0, none⟩ = some (.iface 146 (.agg #[.pointer (some ⟨3, 40, none⟩)])) := by
    rw [HBB.out.cell l0]; exact hg
  have n8 := nil128 ⟨w.heap.size, 0, none⟩ t ((w.alloc (.cells #[.pointer (some t)] 97)).alloc (.cells #[.pointer (some ⟨3, 97, none⟩), .pointer (some ⟨w.heap.size, 0, none⟩), .int .u64 150] 125)) ca
  have cS := as_own e t ⟨w.heap.size, 0, none⟩ old ((w.alloc (.cells #[.pointer (some t)] 97)).alloc (.cells #[.pointer (some ⟨3, 97, none⟩), .pointer (some ⟨w.heap.size, 0, none⟩), .int .u64 150] 125)) ca (by rw [HBB.out.cell lt]; exact ht0) (by rw [World.frozen?_alloc_old _ _ t (by rw [s1]; omega), World.frozen?_alloc_old _ _ t (by omega)]; exact hf0)
  clear b1 s1 n1 b2 ca
  go_enter Tryz.func38, Tryz.ntmps38
  go_wp2_with fail
  refine cS.mono ?_
  rintro ev w' ⟨rfl, V, hV, rfl⟩
  have HV : Hid (Below w.heap.size w V) := below2 HBB.out hV
  clear cS hV
  go_wp2_with fail
  go_ret
  exact ⟨rfl, V, HV.out, rfl⟩
end Go.Proofs.YtkfabnchhjfjjabGreatDoor

/-
  errors.As at an Errno: its own make.
-/
namespace Go.Proofs.YtkfabnchhjfjjabGreatDoor
open Go.RowKit Go.Extern.Stop Go.Stop Go.Extern
theorem vOf48 (n : Int) (w : World) : (ReflectliteValue.unpack (.iface 25 (.int .i64 n))).run Tryz.prog w = .ok (.agg #[.pointer (some ⟨3, 25, none⟩), .pointer (some ⟨w.heap.size, 0, none⟩), .int .u64 130]) (w.alloc (.cells #[.int .i64 n] 25)) := by kernel_rfl
theorem ty161 (a : Addr) (w : World) : (ReflectliteValue.methodAny (ReflectliteValue.valueError "reflectlite.Value.Type" 0) (fun t _ _ _ => ReflectliteType.toType t) #[.agg #[.pointer (some ⟨3, 96, none⟩), .pointer (some a), .int .u64 150]]).run Tryz.prog w = .ok (.iface 146 (.agg #[.pointer (some ⟨3, 96, none⟩)])) w := by kernel_rfl
theorem kd161 (w : World) : ((ReflectliteType.abiMethod fun t => (fun a : Nat => Value.int IntKind.u8 (a : Int)) <$> Rtype.kind t) #[.pointer (some ⟨3, 96, none⟩)]).run Tryz.prog w = .ok (.int .u8 22) w := by kernel_rfl
theorem kd48 (w : World) : ((ReflectliteType.abiMethod fun t => (fun a : Nat => Value.int IntKind.u8 (a : Int)) <$> Rtype.kind t) #[.pointer (some ⟨3, 25, none⟩)]).run Tryz.prog w = .ok (.int .u8 2) w := by kernel_rfl
theorem pt161 (a : Addr) (w : World) : (ReflectliteValue.parts (.agg #[.pointer (some ⟨3, 96, none⟩), .pointer (some a), .int .u64 150])).run Tryz.prog w = .ok (some (96, a, 150)) w := by kernel_rfl
theorem pt48 (a : Addr) (w : World) : (ReflectliteValue.parts (.agg #[.pointer (some ⟨3, 25, none⟩), .pointer (some a), .int .u64 130])).run Tryz.prog w = .ok (some (25, a, 130)) w := by kernel_rfl
theorem pt48a (a : Addr) (w : World) : (ReflectliteValue.parts (.agg #[.pointer (some ⟨3, 25, none⟩), .pointer (some a), .int .u64 386])).run Tryz.prog w = .ok (some (25, a, 386)) w := by kernel_rfl
theorem el161 (w : World) : (Rtype.elem? 96).run Tryz.prog w = .ok (some 25) w := by kernel_rfl
theorem mk48 (p : Addr) (w : World) : (ReflectliteValue.mk 25 p ReflectliteValue.flagAddr).run Tryz.prog w = .ok (.agg #[.pointer (some ⟨3, 25, none⟩), .pointer (some p), .int .u64 386]) w := by kernel_rfl
theorem da48 (w : World) : (Rtype.directlyAssignable 25 25).run Tryz.prog w = .ok true w := by kernel_rfl
theorem nil161 (a p : Addr) (W : World) (ha : W.cell? a = some (.pointer (some p))) :
    (ReflectliteValue.method (ReflectliteValue.valueError "reflectlite.Value.IsNil" 0) ReflectliteValue.isNil #[.agg #[.pointer (some ⟨3, 96, none⟩), .pointer (some a), .int .u64 150]]).run Tryz.prog W = .ok (.bool false) W := by
  obtain ⟨g, h1, h2⟩ := rl_parts (ReflectliteValue.valueError "reflectlite.Value.IsNil" 0) ReflectliteValue.isNil (.agg #[.pointer (some ⟨3, 96, none⟩), .pointer (some a), .int .u64 150])
  rw [h1, Sem.run_bind, pt161]
  simp [Result.andThen, h2, ReflectliteValue.isNil, loadVar, isAgg, underlying, Tryz.underlying96, ha]
theorem elv161 (a p : Addr) (W : World) (ha : W.cell? a = some (.pointer (some p))) :
    (ReflectliteValue.method (ReflectliteValue.valueError "reflectlite.Value.Elem" 0) ReflectliteValue.elem #[.agg #[.pointer (some ⟨3, 96, none⟩), .pointer (some a), .int .u64 150]]).run Tryz.prog W = .ok (.agg #[.pointer (some ⟨3, 25, none⟩), .pointer (some p), .int .u64 386]) W := by
  obtain ⟨g, h1, h2⟩ := rl_parts (ReflectliteValue.valueError "reflectlite.Value.Elem" 0) ReflectliteValue.elem (.agg #[.pointer (some ⟨3, 96, none⟩), .pointer (some a), .int .u64 150])
  rw [h1, Sem.run_bind, pt161]
  simp [Result.andThen, h2, ReflectliteValue.elem, loadVar, isAgg, underlying, Tryz.underlying96, ha, el161, mk48]
theorem set48 (ta b : Addr) (n : Int) (old : Value) (W : World) (hb : W.cell? b = some (.int .i64 n)) (ht : W.cell? ta = some old) (hf : W.frozen? ta = false) :
    (ReflectliteValue.set #[.agg #[.pointer (some ⟨3, 25, none⟩), .pointer (some ta), .int .u64 386], .agg #[.pointer (some ⟨3, 25, none⟩), .pointer (some b), .int .u64 130]]).run Tryz.prog W = .ok (.tuple #[]) (W.setCell ta (.int .i64 n)) := by
  obtain ⟨g, h1, h2⟩ := rlv_set (.agg #[.pointer (some ⟨3, 25, none⟩), .pointer (some ta), .int .u64 386]) (.agg #[.pointer (some ⟨3, 25, none⟩), .pointer (some b), .int .u64 130])
  obtain ⟨r, h3, h4⟩ := h2 25 ta 386 25 b 130 (by decide)
  rw [h1]
  simp only [Sem.run_bind, pt48a, pt48, Result.andThen, h3]
  simp [loadVar, isAgg, underlying, Tryz.underlying25, hb, Result.andThen, da48, h4, storeVar, Value.cells, storeCells, Addr.add]
  rw [run_store Tryz.prog W ta _ _ (by rfl)]
  simp [ht, hf]
end Go.Proofs.YtkfabnchhjfjjabGreatDoor

/-
  errors.As: what is behind a Failure.
-/
namespace Go.Proofs.YtkfabnchhjfjjabGreatDoor
open Go.RowKit Go.Extern.Stop Go.Stop Go.Extern
theorem no74_As (v : Value) (w : World) : (Instr.typeAssert (.iface 75 v) 40 151 true).run Tryz.prog w = .ok (.tuple #[.nilIface, .bool false]) w := run_typeAssert_lacksB Tryz.underlying151 (by kernel_rfl) (by kernel_rfl) v 45 w
theorem no48_As (v : Value) (w : World) : (Instr.typeAssert (.iface 25 v) 40 151 true).run Tryz.prog w = .ok (.tuple #[.nilIface, .bool false]) w := run_typeAssert_lacksB Tryz.underlying151 (by kernel_rfl) (by kernel_rfl) v 45 w
theorem is74_Un (v : Value) (w : World) : (Instr.typeAssert (.iface 75 v) 40 154 true).run Tryz.prog w = .ok (.tuple #[.iface 75 v, .bool true]) w := by kernel_rfl
theorem no48_Un (v : Value) (w : World) : (Instr.typeAssert (.iface 25 v) 40 154 true).run Tryz.prog w = .ok (.tuple #[.nilIface, .bool false]) w := run_typeAssert_lacksB Tryz.underlying154 (by kernel_rfl) (by kernel_rfl) v 45 w
theorem no48_Uns (v : Value) (w : World) : (Instr.typeAssert (.iface 25 v) 40 156 true).run Tryz.prog w = .ok (.tuple #[.nilIface, .bool false]) w := run_typeAssert_lacksB Tryz.underlying156 (by kernel_rfl) (by kernel_rfl) v 45 w
theorem mtUn (p : Value) (w : World) : (Go.method 309 75 p "Unwrap").run Tryz.prog w = .ok (146, p) w := by kernel_rfl
theorem unwrap_any (F : Nat) (call : ByteArray) (at' : Int) (ev : Value) (w : World) (hF : w.heap[F]? = some (.cells #[.string call, .int .i64 at', ev] 77 (0, 0))) :
    Calls Tryz.prog 146 #[.pointer (some ⟨F, 0, none⟩)] w fun e w' => e = .returned ev ∧ w' = w := by
  have h2 : w.cell? ⟨F, 2, none⟩ = some ev := cell_of hF 2
  go_enter Tryz.func146, Tryz.ntmps146
  go_wp2
  go_ret
  exact ⟨rfl, rfl⟩
end Go.Proofs.YtkfabnchhjfjjabGreatDoor
