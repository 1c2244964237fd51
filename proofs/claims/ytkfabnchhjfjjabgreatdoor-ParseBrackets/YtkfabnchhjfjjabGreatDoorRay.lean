/-
  errors.As, whatever the error's own make: around errors.as.
-/
import Derived.Test.YtkfabnchhjfjjabGreatDoorRax
namespace Go.Proofs.YtkfabnchhjfjjabGreatDoor
open Go.RowKit Go.Extern.Stop Go.Stop Go.Extern
set_option maxRecDepth 100000 in
set_option maxHeartbeats 4000000 in
theorem as49E (T : TypeId) (x : Value) (t : Addr) (w : World) (hg : w.cell? ⟨0, 0, none⟩ = some (.iface 146 (.agg #[.pointer (some ⟨3, 40, none⟩)]))) (Q : Bool → World → Prop)
    (cS : Calls Tryz.prog 64 #[.iface T x, .iface 96 (.pointer (some t)), .agg #[.pointer (some ⟨3, 96, none⟩), .pointer (some ⟨w.heap.size, 0, none⟩), .int .u64 150], .iface 146 (.agg #[.pointer (some ⟨3, 25, none⟩)])] ((w.alloc (.cells #[.pointer (some t)] 96)).alloc (.cells #[.pointer (some ⟨3, 96, none⟩), .pointer (some ⟨w.heap.size, 0, none⟩), .int .u64 150] 125)) fun ev w' => ∃ b, ev = .returned (.bool b) ∧ Q b w') :
    Calls Tryz.prog 38 #[.iface T x, .iface 96 (.pointer (some t))] w fun ev w' => ∃ b, ev = .returned (.bool b) ∧ Q b w' := by
  have h93 := @run_callFunc_extern Tryz.prog 61 _ (fun args => ReflectliteValue.unpack (args.getD 0 (.tuple #[]))) Tryz.func61 (by kernel_rfl) (by kernel_rfl) (by kernel_rfl) (by kernel_rfl)
  have h94 := @run_callFunc_extern Tryz.prog 62 _ (ReflectliteValue.methodAny (ReflectliteValue.valueError "reflectlite.Value.Type" 0) (fun t _ _ _ => ReflectliteType.toType t)) Tryz.func62 (by kernel_rfl) (by kernel_rfl) (by kernel_rfl) (by kernel_rfl)
  have h95 := @run_callFunc_extern Tryz.prog 63 _ (ReflectliteValue.method (ReflectliteValue.valueError "reflectlite.Value.IsNil" 0) ReflectliteValue.isNil) Tryz.func63 (by kernel_rfl) (by kernel_rfl) (by kernel_rfl) (by kernel_rfl)
  have h210 := @run_callFunc_extern Tryz.prog 141 _ (ReflectliteType.abiMethod fun t => do pure (.int .u8 (← Rtype.kind t))) Tryz.func141 (by kernel_rfl) (by kernel_rfl) (by kernel_rfl) (by kernel_rfl)
  have h223 := @run_callFunc_extern Tryz.prog 153 _ (ReflectliteType.method ReflectliteType.elem) Tryz.func153 (by kernel_rfl) (by kernel_rfl) (by kernel_rfl) (by kernel_rfl)
  have h224 := @run_callFunc_extern Tryz.prog 154 _ (ReflectliteType.relation "Implements" ReflectliteType.implements_) Tryz.func154 (by kernel_rfl) (by kernel_rfl) (by kernel_rfl) (by kernel_rfl)
  have mK := mtKind
  have mE := mtElem
  have mI := mtImpl
  have v128 := vOf161
  have y128 := ty161
  have k128 := kd161
  have k74 := kd48
  have e128 := elm161
  have i74 := imp48
  have l0 := World.block_lt_of_cell? w ⟨0, 0, none⟩ hg
  have b1 := below_new w (.cells #[.pointer (some t)] 96)
  have s1 := size_alloc w (.cells #[.pointer (some t)] 96)
  have n1 := heap_new w (.cells #[.pointer (some t)] 96)
  have b2 := below_new (w.alloc (.cells #[.pointer (some t)] 96)) (.cells #[.pointer (some ⟨3, 96, none⟩), .pointer (some ⟨w.heap.size, 0, none⟩), .int .u64 150] 125)
  have ca : ((w.alloc (.cells #[.pointer (some t)] 96)).alloc (.cells #[.pointer (some ⟨3, 96, none⟩), .pointer (some ⟨w.heap.size, 0, none⟩), .int .u64 150] 125)).cell? ⟨w.heap.size, 0, none⟩ = some (.pointer (some t)) := cell_of ((b2.block _ (by omega)).trans n1) 0
  have hg2 : ((w.alloc (.cells #[.pointer (some t)] 96)).alloc (.cells #[.pointer (some ⟨3, 96, none⟩), .pointer (some ⟨w.heap.size, 0, none⟩), .int .u64 150] 125)).cell? ⟨0, 0, none⟩ = some (.iface 146 (.agg #[.pointer (some ⟨3, 40, none⟩)])) := by
    rw [(below2 b1 b2).cell l0]; exact hg
  have n8 := nil161 ⟨w.heap.size, 0, none⟩ t ((w.alloc (.cells #[.pointer (some t)] 96)).alloc (.cells #[.pointer (some ⟨3, 96, none⟩), .pointer (some ⟨w.heap.size, 0, none⟩), .int .u64 150] 125)) ca
  clear b1 s1 n1 b2 ca
  go_enter Tryz.func38, Tryz.ntmps38
  go_wp2_with fail
  refine cS.mono ?_
  rintro ev w' ⟨b, rfl, hq⟩
  have HQ : Hid (Q b w') := hq
  clear cS hq
  go_wp2_with fail
  go_ret
  exact ⟨b, rfl, HQ.out⟩
set_option maxRecDepth 100000 in
set_option maxHeartbeats 4000000 in
theorem as49F (T : TypeId) (x : Value) (t : Addr) (w : World) (hg : w.cell? ⟨0, 0, none⟩ = some (.iface 146 (.agg #[.pointer (some ⟨3, 40, none⟩)]))) (Q : Bool → World → Prop)
    (cS : Calls Tryz.prog 64 #[.iface T x, .iface 97 (.pointer (some t)), .agg #[.pointer (some ⟨3, 97, none⟩), .pointer (some ⟨w.heap.size, 0, none⟩), .int .u64 150], .iface 146 (.agg #[.pointer (some ⟨3, 75, none⟩)])] ((w.alloc (.cells #[.pointer (some t)] 97)).alloc (.cells #[.pointer (some ⟨3, 97, none⟩), .pointer (some ⟨w.heap.size, 0, none⟩), .int .u64 150] 125)) fun ev w' => ∃ b, ev = .returned (.bool b) ∧ Q b w') :
    Calls Tryz.prog 38 #[.iface T x, .iface 97 (.pointer (some t))] w fun ev w' => ∃ b, ev = .returned (.bool b) ∧ Q b w' := by
  have h93 := @run_callFunc_extern Tryz.prog 61 _ (fun args => ReflectliteValue.unpack (args.getD 0 (.tuple #[]))) Tryz.func61 (by kernel_rfl) (by kernel_rfl) (by kernel_rfl) (by kernel_rfl)
  have h94 := @run_callFunc_extern Tryz.prog 62 _ (ReflectliteValue.methodAny (ReflectliteValue.valueError "reflectlite.Value.Type" 0) (fun t _ _ _ => ReflectliteType.toType t)) Tryz.func62 (by kernel_rfl) (by kernel_rfl) (by kernel_rfl) (by kernel_rfl)
  have h95 := @run_callFunc_extern Tryz.prog 63 _ (ReflectliteValue.method (ReflectliteValue.valueError "reflectlite.Value.IsNil" 0) ReflectliteValue.isNil) Tryz.func63 (by kernel_rfl) (by kernel_rfl) (by kernel_rfl) (by kernel_rfl)
  have h210 := @run_callFunc_extern Tryz.prog 141 _ (ReflectliteType.abiMethod fun t => do pure (.int .u8 (← Rtype.kind t))) Tryz.func141 (by kernel_rfl) (by kernel_rfl) (by kernel_rfl) (by kernel_rfl)
  have h223 := @run_callFunc_extern Tryz.prog 153 _ (ReflectliteType.method ReflectliteType.elem) Tryz.func153 (by kernel_rfl) (by kernel_rfl) (by kernel_rfl) (by kernel_rfl)
  have h224 := @run_callFunc_extern Tryz.prog 154 _ (ReflectliteType.relation "Implements" ReflectliteType.implements_) Tryz.func154 (by kernel_rfl) (by kernel_rfl) (by kernel_rfl) (by kernel_rfl)
  have mK := mtKind
  have mE := mtElem
  have mI := mtImpl
  have v128 := vOf128
  have y128 := ty128
  have k128 := kd128
  have k74 := kd74
  have e128 := elm128
  have i74 := imp74
  have l0 := World.block_lt_of_cell? w ⟨0, 0, none⟩ hg
  have b1 := below_new w (.cells #[.pointer (some t)] 97)
  have s1 := size_alloc w (.cells #[.pointer (some t)] 97)
  have n1 := heap_new w (.cells #[.pointer (some t)] 97)
  have b2 := below_new (w.alloc (.cells #[.pointer (some t)] 97)) (.cells #[.pointer (some ⟨3, 97, none⟩), .pointer (some ⟨w.heap.size, 0, none⟩), .int .u64 150] 125)
  have ca : ((w.alloc (.cells #[.pointer (some t)] 97)).alloc (.cells #[.pointer (some ⟨3, 97, none⟩), .pointer (some ⟨w.heap.size, 0, none⟩), .int .u64 150] 125)).cell? ⟨w.heap.size, 0, none⟩ = some (.pointer (some t)) := cell_of ((b2.block _ (by omega)).trans n1) 0
  have hg2 : ((w.alloc (.cells #[.pointer (some t)] 97)).alloc (.cells #[.pointer (some ⟨3, 97, none⟩), .pointer (some ⟨w.heap.size, 0, none⟩), .int .u64 150] 125)).cell? ⟨0, 0, none⟩ = some (.iface 146 (.agg #[.pointer (some ⟨3, 40, none⟩)])) := by
    rw [(below2 b1 b2).cell l0]; exact hg
  have n8 := nil128 ⟨w.heap.size, 0, none⟩ t ((w.alloc (.cells #[.pointer (some t)] 97)).alloc (.cells #[.pointer (some ⟨3, 97, none⟩), .pointer (some ⟨w.heap.size, 0, none⟩), .int .u64 150] 125)) ca
  clear b1 s1 n1 b2 ca
  go_enter Tryz.func38, Tryz.ntmps38
  go_wp2_with fail
  refine cS.mono ?_
  rintro ev w' ⟨b, rfl, hq⟩
  have HQ : Hid (Q b w') := hq
  clear cS hq
  go_wp2_with fail
  go_ret
  exact ⟨b, rfl, HQ.out⟩
set_option maxRecDepth 100000 in
set_option maxHeartbeats 4000000 in
/-- errors.as of an Errno at a target for a Failure: none. -/
theorem asN0 (n : Int) (t a : Addr) (w : World) :
    Calls Tryz.prog 64 #[.iface 25 (.int .i64 n), .iface 97 (.pointer (some t)), .agg #[.pointer (some ⟨3, 97, none⟩), .pointer (some a), .int .u64 150], .iface 146 (.agg #[.pointer (some ⟨3, 75, none⟩)])] w fun ev w' => ev = .returned (.bool false) ∧ Below w.heap.size w w' := by
  have h50 := @run_callFunc_extern Tryz.prog 80 _ ReflectliteType.typeOf Tryz.func80 (by kernel_rfl) (by kernel_rfl) (by kernel_rfl) (by kernel_rfl)
  have h221 := @run_callFunc_extern Tryz.prog 151 _ (ReflectliteType.relation "AssignableTo" ReflectliteType.assignableTo) Tryz.func151 (by kernel_rfl) (by kernel_rfl) (by kernel_rfl) (by kernel_rfl)
  have mA := mtAsg
  have tO := tOf48
  have a48 := asg48_74
  have q1 := no48_As
  have q2 := no48_Un
  have q3 := no48_Uns
  have HB1 : Hid (Below w.heap.size w (w.alloc (.cells #[.pointer (some ⟨3, 97, none⟩), .pointer (some a), .int .u64 150] 125))) := below_new w _
  go_enter Tryz.func64, Tryz.ntmps64
  go_wp2
  refine wp_loop_rounds 1 ?_
  rw [rounds_succ]
  go_wp2
  go_ret
  exact ⟨rfl, HB1.out⟩
end Go.Proofs.YtkfabnchhjfjjabGreatDoor
