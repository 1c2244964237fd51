import Derived.Test.YtkfabnchhjfjjaaGreatDoorA0
import Derived.Test.YtkfabnchhjfjjaaGreatDoorA16
import Derived.Test.YtkfabnchhjfjjaaGreatDoorRows
import Derived.LaidMore
import Derived.LaidHandle
import Derived.MakeChecks
import Derived.Stop.LaidErr
import Derived.Lib.LaidTab
namespace Go.Proofs.YtkfabnchhjfjjaaGreatDoor
open Go.RowKit Go.Extern.Stop Go.Stop Go.Extern
set_option maxRecDepth 100000 in
set_option maxHeartbeats 4000000 in
theorem as_own (e t a : Addr) (old : Value) (w : World) (ha : w.cell? a = some (.pointer (some t))) (ht0 : w.cell? t = some old) (hf0 : w.frozen? t = false) :
  Calls zG 96 #[.iface 74 (.pointer (some e)),.iface 128 (.pointer (some t)),.agg #[.pointer (some ⟨3,128,none⟩),.pointer (some a),.int .u64 150],.iface 193 (.agg #[.pointer (some ⟨3,74,none⟩)])] w fun ev w' => ev = .returned (.bool true) ∧ ∃ V,Below w§ w V ∧ w' = V.setCell t (.pointer (some e)) := by
 have h50 := @run_callFunc_extern Tryz.prog 50 _ ReflectliteType.typeOf Tryz.func50 zK zK zK zK
 have h93 := @run_callFunc_extern Tryz.prog 93 _ (fun args => ReflectliteValue.unpack (args.getD 0 (.tuple #[]))) Tryz.func93 zK zK zK zK
 have h118 := @run_callFunc_extern Tryz.prog 118 _ (ReflectliteValue.method (ReflectliteValue.valueError "reflectlite.Value.Elem" 0) ReflectliteValue.elem) Tryz.func118 zK zK zK zK
 have h119 := @run_callFunc_extern Tryz.prog 119 _ ReflectliteValue.set Tryz.func119 zK zK zK zK
 have h221 := @run_callFunc_extern Tryz.prog 221 _ (ReflectliteType.relation "AssignableTo" ReflectliteType.assignableTo) Tryz.func221 zK zK zK zK
 have mA := mtAsg
 have tO := tOf74
 have a74 := asg74_74
 have v74 := vOf74
 have b1 := below_new w (.cells #[.pointer (some ⟨3,128,none⟩),.pointer (some a),.int .u64 150] 185)
 have s1 := size_alloc w (.cells #[.pointer (some ⟨3,128,none⟩),.pointer (some a),.int .u64 150] 185)
 have b2 := below_new (w.alloc (.cells #[.pointer (some ⟨3,128,none⟩),.pointer (some a),.int .u64 150] 185)) (.cells #[.pointer (some e)] 74)
 have n2 := heap_new (w.alloc (.cells #[.pointer (some ⟨3,128,none⟩),.pointer (some a),.int .u64 150] 185)) (.cells #[.pointer (some e)] 74)
 have HBB : Hid (Below w§ w ((w.alloc (.cells #[.pointer (some ⟨3,128,none⟩),.pointer (some a),.int .u64 150] 185)).alloc (.cells #[.pointer (some e)] 74))) := below2 b1 b2
 have el := elv128 a t (w.alloc (.cells #[.pointer (some ⟨3,128,none⟩),.pointer (some a),.int .u64 150] 185)) (by rw [World.cell?_alloc_lt _ _ a (World.block_lt_of_cell? w a ha)]; exact ha)
 have st := set74 t ⟨w§ + 1,0,none⟩ e old ((w.alloc (.cells #[.pointer (some ⟨3,128,none⟩),.pointer (some a),.int .u64 150] 185)).alloc (.cells #[.pointer (some e)] 74)) (by rw [s1] at n2; exact cell_of n2 0)
  (by rw [World.cell?_alloc_lt _ _ t (by rw [s1]; exact Nat.lt_succ_of_lt (World.block_lt_of_cell? w t ht0)),World.cell?_alloc_lt _ _ t (World.block_lt_of_cell? w t ht0)]; exact ht0)
  (by rw [World.frozen?_alloc_old _ _ t (by rw [s1]; have := World.block_lt_of_cell? w t ht0; omega),World.frozen?_alloc_old _ _ t (Nat.ne_of_lt (World.block_lt_of_cell? w t ht0))]; exact hf0)
 clear b1 s1 b2 n2
 go_enter Tryz.func96,Tryz.ntmps96
 go_wp2
 refine wp_loop_rounds 1 ?_
 rw [rounds_succ]
 go_wp2
 go_ret
 exact ⟨rfl,_,HBB.out,rfl⟩
set_option maxRecDepth 100000 in
set_option maxHeartbeats 4000000 in
theorem asF_any (e t : Addr) (old : Value) (w : World) (hg : w.cell? ⟨0,0,none⟩ = some (.iface 193 (.agg #[.pointer (some ⟨3,45,none⟩)]))) (ht0 : w.cell? t = some old) (hf0 : w.frozen? t = false) :
  Calls zG 49 #[.iface 74 (.pointer (some e)),.iface 128 (.pointer (some t))] w fun ev w' => ev = .returned (.bool true) ∧ ∃ V,Below w§ w V ∧ w' = V.setCell t (.pointer (some e)) := by
 have h93 := @run_callFunc_extern Tryz.prog 93 _ (fun args => ReflectliteValue.unpack (args.getD 0 (.tuple #[]))) Tryz.func93 zK zK zK zK
 have h94 := @run_callFunc_extern Tryz.prog 94 _ (ReflectliteValue.methodAny (ReflectliteValue.valueError "reflectlite.Value.Type" 0) (fun t _ _ _ => ReflectliteType.toType t)) Tryz.func94 zK zK zK zK
 have h95 := @run_callFunc_extern Tryz.prog 95 _ (ReflectliteValue.method (ReflectliteValue.valueError "reflectlite.Value.IsNil" 0) ReflectliteValue.isNil) Tryz.func95 zK zK zK zK
 have h210 := @run_callFunc_extern Tryz.prog 210 _ (ReflectliteType.abiMethod fun t => do pure (zU (← Rtype.kind t))) Tryz.func210 zK zK zK zK
 have h223 := @run_callFunc_extern Tryz.prog 223 _ (ReflectliteType.method ReflectliteType.elem) Tryz.func223 zK zK zK zK
 have h224 := @run_callFunc_extern Tryz.prog 224 _ (ReflectliteType.relation "Implements" ReflectliteType.implements_) Tryz.func224 zK zK zK zK
 have mK := mtKind
 have mE := mtElem
 have mI := mtImpl
 have v128 := vOf128
 have y128 := ty128
 have k128 := kd128
 have k74 := kd74
 have e128 := elm128
 have i74 := imp74
 have l0 := World.block_lt_of_cell? w ⟨0,0,none⟩ hg
 have lt := World.block_lt_of_cell? w t ht0
 have b1 := below_new w (.cells #[.pointer (some t)] 128)
 have s1 := size_alloc w (.cells #[.pointer (some t)] 128)
 have n1 := heap_new w (.cells #[.pointer (some t)] 128)
 have b2 := below_new (w.alloc (.cells #[.pointer (some t)] 128)) (.cells #[.pointer (some ⟨3,128,none⟩),zP w§,.int .u64 150] 185)
 have HBB : Hid (Below w§ w ((w.alloc (.cells #[.pointer (some t)] 128)).alloc (.cells #[.pointer (some ⟨3,128,none⟩),zP w§,.int .u64 150] 185))) := below2 b1 b2
 have ca : ((w.alloc (.cells #[.pointer (some t)] 128)).alloc (.cells #[.pointer (some ⟨3,128,none⟩),zP w§,.int .u64 150] 185)).cell? ⟨w§,0,none⟩ = some (.pointer (some t)) := cell_of ((b2.block _ (by omega)).trans n1) 0
 have hg2 : ((w.alloc (.cells #[.pointer (some t)] 128)).alloc (.cells #[.pointer (some ⟨3,128,none⟩),zP w§,.int .u64 150] 185)).cell? ⟨0,0,none⟩ = some (.iface 193 (.agg #[.pointer (some ⟨3,45,none⟩)])) := by
  rw [HBB.out.cell l0]; exact hg
 have n8 := nil128 ⟨w§,0,none⟩ t ((w.alloc (.cells #[.pointer (some t)] 128)).alloc (.cells #[.pointer (some ⟨3,128,none⟩),zP w§,.int .u64 150] 185)) ca
 have cS := as_own e t ⟨w§,0,none⟩ old ((w.alloc (.cells #[.pointer (some t)] 128)).alloc (.cells #[.pointer (some ⟨3,128,none⟩),zP w§,.int .u64 150] 185)) ca (by rw [HBB.out.cell lt]; exact ht0) (by rw [World.frozen?_alloc_old _ _ t (by rw [s1]; omega),World.frozen?_alloc_old _ _ t (by omega)]; exact hf0)
 clear b1 s1 n1 b2 ca
 go_enter Tryz.func49,Tryz.ntmps49
 go_wp2_with fail
 refine cS.mono ?_
 rintro ev w' ⟨rfl,V,hV,rfl⟩
 have HV : Hid (Below w§ w V) := below2 HBB.out hV
 clear cS hV
 go_wp2_with fail
 go_ret
 exact ⟨rfl,V,HV.out,rfl⟩
theorem vOf48 (n : Int) (w : World) : (ReflectliteValue.unpack (.iface 48 (zI n))).run Tryz.prog w = .ok (.agg #[.pointer (some ⟨3,48,none⟩),zP w§,.int .u64 130]) (w.alloc (.cells #[zI n] 48)) := by kernel_rfl
theorem ty161 (a : Addr) (w : World) : (ReflectliteValue.methodAny (ReflectliteValue.valueError "reflectlite.Value.Type" 0) (fun t _ _ _ => ReflectliteType.toType t) #[.agg #[.pointer (some ⟨3, 161, none⟩), .pointer (some a), .int .u64 150]]).run Tryz.prog w = .ok (.iface 193 (.agg #[.pointer (some ⟨3, 161, none⟩)])) w := by kernel_rfl
theorem kd161 (w : World) : ((ReflectliteType.abiMethod fun t => (fun a : Nat => Value.int IntKind.u8 (a : Int)) <$> Rtype.kind t) #[.pointer (some ⟨3,161,none⟩)]).run Tryz.prog w = .ok (zU 22) w := by kernel_rfl
theorem kd48 (w : World) : ((ReflectliteType.abiMethod fun t => (fun a : Nat => Value.int IntKind.u8 (a : Int)) <$> Rtype.kind t) #[.pointer (some ⟨3,48,none⟩)]).run Tryz.prog w = .ok (zU 2) w := by kernel_rfl
theorem pt161 (a : Addr) (w : World) : (ReflectliteValue.parts (.agg #[.pointer (some ⟨3,161,none⟩),.pointer (some a),.int .u64 150])).run Tryz.prog w = .ok (some (161,a,150)) w := by kernel_rfl
theorem pt48 (a : Addr) (w : World) : (ReflectliteValue.parts (.agg #[.pointer (some ⟨3,48,none⟩),.pointer (some a),.int .u64 130])).run Tryz.prog w = .ok (some (48,a,130)) w := by kernel_rfl
theorem pt48a (a : Addr) (w : World) : (ReflectliteValue.parts (.agg #[.pointer (some ⟨3,48,none⟩),.pointer (some a),.int .u64 386])).run Tryz.prog w = .ok (some (48,a,386)) w := by kernel_rfl
theorem el161 (w : World) : (Rtype.elem? 161).run Tryz.prog w = .ok (some 48) w := by kernel_rfl
theorem mk48 (p : Addr) (w : World) : (ReflectliteValue.mk 48 p ReflectliteValue.flagAddr).run Tryz.prog w = .ok (.agg #[.pointer (some ⟨3,48,none⟩),.pointer (some p),.int .u64 386]) w := by kernel_rfl
theorem da48 (w : World) : (Rtype.directlyAssignable 48 48).run Tryz.prog w = .ok true w := by kernel_rfl
theorem nil161 (a p : Addr) (W : World) (ha : W.cell? a = some (.pointer (some p))) :
  (ReflectliteValue.method (ReflectliteValue.valueError "reflectlite.Value.IsNil" 0) ReflectliteValue.isNil #[.agg #[.pointer (some ⟨3, 161, none⟩), .pointer (some a), .int .u64 150]]).run Tryz.prog W = .ok (.bool false) W := by
 obtain ⟨g, h1, h2⟩ := rl_parts (ReflectliteValue.valueError "reflectlite.Value.IsNil" 0) ReflectliteValue.isNil (.agg #[.pointer (some ⟨3, 161, none⟩), .pointer (some a), .int .u64 150])
 rw [h1,Sem.run_bind,pt161]
 simp [Result.andThen,h2,ReflectliteValue.isNil,loadVar,isAgg,underlying,Tryz.underlying161,ha]
theorem elv161 (a p : Addr) (W : World) (ha : W.cell? a = some (.pointer (some p))) :
  (ReflectliteValue.method (ReflectliteValue.valueError "reflectlite.Value.Elem" 0) ReflectliteValue.elem #[.agg #[.pointer (some ⟨3, 161, none⟩), .pointer (some a), .int .u64 150]]).run Tryz.prog W = .ok (.agg #[.pointer (some ⟨3, 48, none⟩), .pointer (some p), .int .u64 386]) W := by
 obtain ⟨g, h1, h2⟩ := rl_parts (ReflectliteValue.valueError "reflectlite.Value.Elem" 0) ReflectliteValue.elem (.agg #[.pointer (some ⟨3, 161, none⟩), .pointer (some a), .int .u64 150])
 rw [h1,Sem.run_bind,pt161]
 simp [Result.andThen,h2,ReflectliteValue.elem,loadVar,isAgg,underlying,Tryz.underlying161,ha,el161,mk48]
theorem set48 (ta b : Addr) (n : Int) (old : Value) (W : World) (hb : W.cell? b = some (zI n)) (ht : W.cell? ta = some old) (hf : W.frozen? ta = false) :
  (ReflectliteValue.set #[.agg #[.pointer (some ⟨3,48,none⟩),.pointer (some ta),.int .u64 386],.agg #[.pointer (some ⟨3,48,none⟩),.pointer (some b),.int .u64 130]]).run Tryz.prog W = .ok (.tuple #[]) (W.setCell ta (zI n)) := by
 obtain ⟨g,h1,h2⟩ := rlv_set (.agg #[.pointer (some ⟨3,48,none⟩),.pointer (some ta),.int .u64 386]) (.agg #[.pointer (some ⟨3,48,none⟩),.pointer (some b),.int .u64 130])
 obtain ⟨r,h3,h4⟩ := h2 48 ta 386 48 b 130 (by decide)
 rw [h1]
 simp only [Sem.run_bind,pt48a,pt48,Result.andThen,h3]
 simp [loadVar,isAgg,underlying,Tryz.underlying48,hb,Result.andThen,da48,h4,storeVar,Value.cells,storeCells,Addr.add]
 rw [run_store Tryz.prog W ta _ _ (by rfl)]
 simp [ht,hf]
theorem tOf133 (v : Value) (w : World) : (ReflectliteType.typeOf #[.iface 133 v]).run Tryz.prog w = .ok (.iface 193 (.agg #[.pointer (some ⟨3,133,none⟩)])) w := by kernel_rfl
theorem asg133_48 (w : World) : (ReflectliteType.relation "AssignableTo" ReflectliteType.assignableTo #[.agg #[.pointer (some ⟨3, 133, none⟩)], .iface 193 (.agg #[.pointer (some ⟨3, 48, none⟩)])]).run Tryz.prog w = .ok (.bool false) w := by kernel_rfl
theorem no74_As (v : Value) (w : World) : (Instr.typeAssert (.iface 74 v) 45 223 true).run Tryz.prog w = .ok (.tuple #[.nilIface,.bool false]) w := run_typeAssert_lacksB Tryz.underlying223 zK zK v 45 w
theorem no48_As (v : Value) (w : World) : (Instr.typeAssert (.iface 48 v) 45 223 true).run Tryz.prog w = .ok (.tuple #[.nilIface,.bool false]) w := run_typeAssert_lacksB Tryz.underlying223 zK zK v 45 w
theorem no133_As (v : Value) (w : World) : (Instr.typeAssert (.iface 133 v) 45 223 true).run Tryz.prog w = .ok (.tuple #[.nilIface,.bool false]) w := run_typeAssert_lacksB Tryz.underlying223 zK zK v 45 w
theorem is74_Un (v : Value) (w : World) : (Instr.typeAssert (.iface 74 v) 45 198 true).run Tryz.prog w = .ok (.tuple #[.iface 74 v,.bool true]) w := by kernel_rfl
theorem no48_Un (v : Value) (w : World) : (Instr.typeAssert (.iface 48 v) 45 198 true).run Tryz.prog w = .ok (.tuple #[.nilIface,.bool false]) w := run_typeAssert_lacksB Tryz.underlying198 zK zK v 45 w
theorem no48_Uns (v : Value) (w : World) : (Instr.typeAssert (.iface 48 v) 45 200 true).run Tryz.prog w = .ok (.tuple #[.nilIface,.bool false]) w := run_typeAssert_lacksB Tryz.underlying200 zK zK v 45 w
theorem no133_Un (v : Value) (w : World) : (Instr.typeAssert (.iface 133 v) 45 198 true).run Tryz.prog w = .ok (.tuple #[.nilIface,.bool false]) w := run_typeAssert_lacksB Tryz.underlying198 zK zK v 45 w
theorem no133_Uns (v : Value) (w : World) : (Instr.typeAssert (.iface 133 v) 45 200 true).run Tryz.prog w = .ok (.tuple #[.nilIface,.bool false]) w := run_typeAssert_lacksB Tryz.underlying200 zK zK v 45 w
theorem mtUn (p : Value) (w : World) : (Go.method 392 74 p "Unwrap").run Tryz.prog w = .ok (215, p) w := by kernel_rfl
set_option maxRecDepth 100000 in
set_option maxHeartbeats 4000000 in
theorem asE1 (n : Int) (t a : Addr) (old : Value) (w : World) (ha : w.cell? a = some (.pointer (some t))) (ht0 : w.cell? t = some old) (hf0 : w.frozen? t = false) :
  Calls zG 96 #[.iface 48 (zI n),.iface 161 (.pointer (some t)),.agg #[.pointer (some ⟨3,161,none⟩),.pointer (some a),.int .u64 150],.iface 193 (.agg #[.pointer (some ⟨3,48,none⟩)])] w fun ev w' => ev = .returned (.bool true) ∧ ∃ V,Below w§ w V ∧ w' = V.setCell t (zI n) := by
 have h50 := @run_callFunc_extern Tryz.prog 50 _ ReflectliteType.typeOf Tryz.func50 zK zK zK zK
 have h93 := @run_callFunc_extern Tryz.prog 93 _ (fun args => ReflectliteValue.unpack (args.getD 0 (.tuple #[]))) Tryz.func93 zK zK zK zK
 have h118 := @run_callFunc_extern Tryz.prog 118 _ (ReflectliteValue.method (ReflectliteValue.valueError "reflectlite.Value.Elem" 0) ReflectliteValue.elem) Tryz.func118 zK zK zK zK
 have h119 := @run_callFunc_extern Tryz.prog 119 _ ReflectliteValue.set Tryz.func119 zK zK zK zK
 have h221 := @run_callFunc_extern Tryz.prog 221 _ (ReflectliteType.relation "AssignableTo" ReflectliteType.assignableTo) Tryz.func221 zK zK zK zK
 have mA := mtAsg
 have tO := tOf48
 have a48 := asg48_48
 have v48 := vOf48
 have b1 := below_new w (.cells #[.pointer (some ⟨3,161,none⟩),.pointer (some a),.int .u64 150] 185)
 have s1 := size_alloc w (.cells #[.pointer (some ⟨3,161,none⟩),.pointer (some a),.int .u64 150] 185)
 have b2 := below_new (w.alloc (.cells #[.pointer (some ⟨3,161,none⟩),.pointer (some a),.int .u64 150] 185)) (.cells #[zI n] 48)
 have n2 := heap_new (w.alloc (.cells #[.pointer (some ⟨3,161,none⟩),.pointer (some a),.int .u64 150] 185)) (.cells #[zI n] 48)
 have HBB : Hid (Below w§ w ((w.alloc (.cells #[.pointer (some ⟨3,161,none⟩),.pointer (some a),.int .u64 150] 185)).alloc (.cells #[zI n] 48))) := below2 b1 b2
 have el := elv161 a t (w.alloc (.cells #[.pointer (some ⟨3,161,none⟩),.pointer (some a),.int .u64 150] 185)) (by rw [World.cell?_alloc_lt _ _ a (World.block_lt_of_cell? w a ha)]; exact ha)
 have st := set48 t ⟨w§ + 1,0,none⟩ n old ((w.alloc (.cells #[.pointer (some ⟨3,161,none⟩),.pointer (some a),.int .u64 150] 185)).alloc (.cells #[zI n] 48)) (by rw [s1] at n2; exact cell_of n2 0)
  (by rw [World.cell?_alloc_lt _ _ t (by rw [s1]; exact Nat.lt_succ_of_lt (World.block_lt_of_cell? w t ht0)),World.cell?_alloc_lt _ _ t (World.block_lt_of_cell? w t ht0)]; exact ht0)
  (by rw [World.frozen?_alloc_old _ _ t (by rw [s1]; have := World.block_lt_of_cell? w t ht0; omega),World.frozen?_alloc_old _ _ t (Nat.ne_of_lt (World.block_lt_of_cell? w t ht0))]; exact hf0)
 clear b1 s1 b2 n2
 go_enter Tryz.func96,Tryz.ntmps96
 go_wp2
 refine wp_loop_rounds 1 ?_
 rw [rounds_succ]
 go_wp2
 go_ret
 exact ⟨rfl,_,HBB.out,rfl⟩
set_option maxRecDepth 100000 in
set_option maxHeartbeats 4000000 in
theorem asE2 (F : Nat) (call : ByteArray) (at' : Int) (n : Int) (t a : Addr) (old : Value) (w : World) (ha : w.cell? a = some (.pointer (some t))) (ht0 : w.cell? t = some old) (hf0 : w.frozen? t = false) (hF : w.heap[F]? = some (.cells #[.string call,zI at',.iface 48 (zI n)] 76 (0,0))) :
  Calls zG 96 #[.iface 74 (zP F),.iface 161 (.pointer (some t)),.agg #[.pointer (some ⟨3,161,none⟩),.pointer (some a),.int .u64 150],.iface 193 (.agg #[.pointer (some ⟨3,48,none⟩)])] w fun ev w' => ev = .returned (.bool true) ∧ ∃ V,Below w§ w V ∧ w' = V.setCell t (zI n) := by
 have h50 := @run_callFunc_extern Tryz.prog 50 _ ReflectliteType.typeOf Tryz.func50 zK zK zK zK
 have h93 := @run_callFunc_extern Tryz.prog 93 _ (fun args => ReflectliteValue.unpack (args.getD 0 (.tuple #[]))) Tryz.func93 zK zK zK zK
 have h118 := @run_callFunc_extern Tryz.prog 118 _ (ReflectliteValue.method (ReflectliteValue.valueError "reflectlite.Value.Elem" 0) ReflectliteValue.elem) Tryz.func118 zK zK zK zK
 have h119 := @run_callFunc_extern Tryz.prog 119 _ ReflectliteValue.set Tryz.func119 zK zK zK zK
 have h221 := @run_callFunc_extern Tryz.prog 221 _ (ReflectliteType.relation "AssignableTo" ReflectliteType.assignableTo) Tryz.func221 zK zK zK zK
 have mA := mtAsg
 have mU := mtUn
 have tO7 := tOf74
 have a74 := asg74_48
 have n74 := no74_As
 have i74 := is74_Un
 have b1 := below_new w (.cells #[.pointer (some ⟨3,161,none⟩),.pointer (some a),.int .u64 150] 185)
 have c1 : (w.alloc (.cells #[.pointer (some ⟨3,161,none⟩),.pointer (some a),.int .u64 150] 185)).cell? ⟨F,2,none⟩ = some _ := cell_of ((b1.block _ (Array.getElem?_eq_some_iff.1 hF).1).trans hF) 2
 have tO := tOf48
 have a48 := asg48_48
 have v48 := vOf48
 have s1 := size_alloc w (.cells #[.pointer (some ⟨3,161,none⟩),.pointer (some a),.int .u64 150] 185)
 have b2 := below_new (w.alloc (.cells #[.pointer (some ⟨3,161,none⟩),.pointer (some a),.int .u64 150] 185)) (.cells #[zI n] 48)
 have n2 := heap_new (w.alloc (.cells #[.pointer (some ⟨3,161,none⟩),.pointer (some a),.int .u64 150] 185)) (.cells #[zI n] 48)
 have HBB : Hid (Below w§ w ((w.alloc (.cells #[.pointer (some ⟨3,161,none⟩),.pointer (some a),.int .u64 150] 185)).alloc (.cells #[zI n] 48))) := below2 b1 b2
 have el := elv161 a t (w.alloc (.cells #[.pointer (some ⟨3,161,none⟩),.pointer (some a),.int .u64 150] 185)) (by rw [World.cell?_alloc_lt _ _ a (World.block_lt_of_cell? w a ha)]; exact ha)
 have st := set48 t ⟨w§ + 1,0,none⟩ n old ((w.alloc (.cells #[.pointer (some ⟨3,161,none⟩),.pointer (some a),.int .u64 150] 185)).alloc (.cells #[zI n] 48)) (by rw [s1] at n2; exact cell_of n2 0)
  (by rw [World.cell?_alloc_lt _ _ t (by rw [s1]; exact Nat.lt_succ_of_lt (World.block_lt_of_cell? w t ht0)),World.cell?_alloc_lt _ _ t (World.block_lt_of_cell? w t ht0)]; exact ht0)
  (by rw [World.frozen?_alloc_old _ _ t (by rw [s1]; have := World.block_lt_of_cell? w t ht0; omega),World.frozen?_alloc_old _ _ t (Nat.ne_of_lt (World.block_lt_of_cell? w t ht0))]; exact hf0)
 clear b1 s1 b2 n2 hF
 go_enter Tryz.func96,Tryz.ntmps96
 go_wp2
 refine wp_loop_rounds 2 ?_
 rw [rounds_succ]
 go_wp2
 rw [rounds_succ]
 go_wp2
 go_ret
 exact ⟨rfl,_,HBB.out,rfl⟩
set_option maxRecDepth 100000 in
set_option maxHeartbeats 4000000 in
theorem asE3 (F : Nat) (call : ByteArray) (at' : Int) (G : Nat) (call2 : ByteArray) (at2 : Int) (n : Int) (t a : Addr) (old : Value) (w : World) (ha : w.cell? a = some (.pointer (some t))) (ht0 : w.cell? t = some old) (hf0 : w.frozen? t = false) (hF : w.heap[F]? = some (.cells #[.string call,zI at',.iface 74 (zP G)] 76 (0,0))) (hG : w.heap[G]? = some (.cells #[.string call2,zI at2,.iface 48 (zI n)] 76 (0,0))) :
  Calls zG 96 #[.iface 74 (zP F),.iface 161 (.pointer (some t)),.agg #[.pointer (some ⟨3,161,none⟩),.pointer (some a),.int .u64 150],.iface 193 (.agg #[.pointer (some ⟨3,48,none⟩)])] w fun ev w' => ev = .returned (.bool true) ∧ ∃ V,Below w§ w V ∧ w' = V.setCell t (zI n) := by
 have h50 := @run_callFunc_extern Tryz.prog 50 _ ReflectliteType.typeOf Tryz.func50 zK zK zK zK
 have h93 := @run_callFunc_extern Tryz.prog 93 _ (fun args => ReflectliteValue.unpack (args.getD 0 (.tuple #[]))) Tryz.func93 zK zK zK zK
 have h118 := @run_callFunc_extern Tryz.prog 118 _ (ReflectliteValue.method (ReflectliteValue.valueError "reflectlite.Value.Elem" 0) ReflectliteValue.elem) Tryz.func118 zK zK zK zK
 have h119 := @run_callFunc_extern Tryz.prog 119 _ ReflectliteValue.set Tryz.func119 zK zK zK zK
 have h221 := @run_callFunc_extern Tryz.prog 221 _ (ReflectliteType.relation "AssignableTo" ReflectliteType.assignableTo) Tryz.func221 zK zK zK zK
 have mA := mtAsg
 have mU := mtUn
 have tO7 := tOf74
 have a74 := asg74_48
 have n74 := no74_As
 have i74 := is74_Un
 have b1 := below_new w (.cells #[.pointer (some ⟨3,161,none⟩),.pointer (some a),.int .u64 150] 185)
 have c1 : (w.alloc (.cells #[.pointer (some ⟨3,161,none⟩),.pointer (some a),.int .u64 150] 185)).cell? ⟨F,2,none⟩ = some _ := cell_of ((b1.block _ (Array.getElem?_eq_some_iff.1 hF).1).trans hF) 2
 have c2 : (w.alloc (.cells #[.pointer (some ⟨3,161,none⟩),.pointer (some a),.int .u64 150] 185)).cell? ⟨G,2,none⟩ = some _ := cell_of ((b1.block _ (Array.getElem?_eq_some_iff.1 hG).1).trans hG) 2
 have tO := tOf48
 have a48 := asg48_48
 have v48 := vOf48
 have s1 := size_alloc w (.cells #[.pointer (some ⟨3,161,none⟩),.pointer (some a),.int .u64 150] 185)
 have b2 := below_new (w.alloc (.cells #[.pointer (some ⟨3,161,none⟩),.pointer (some a),.int .u64 150] 185)) (.cells #[zI n] 48)
 have n2 := heap_new (w.alloc (.cells #[.pointer (some ⟨3,161,none⟩),.pointer (some a),.int .u64 150] 185)) (.cells #[zI n] 48)
 have HBB : Hid (Below w§ w ((w.alloc (.cells #[.pointer (some ⟨3,161,none⟩),.pointer (some a),.int .u64 150] 185)).alloc (.cells #[zI n] 48))) := below2 b1 b2
 have el := elv161 a t (w.alloc (.cells #[.pointer (some ⟨3,161,none⟩),.pointer (some a),.int .u64 150] 185)) (by rw [World.cell?_alloc_lt _ _ a (World.block_lt_of_cell? w a ha)]; exact ha)
 have st := set48 t ⟨w§ + 1,0,none⟩ n old ((w.alloc (.cells #[.pointer (some ⟨3,161,none⟩),.pointer (some a),.int .u64 150] 185)).alloc (.cells #[zI n] 48)) (by rw [s1] at n2; exact cell_of n2 0)
  (by rw [World.cell?_alloc_lt _ _ t (by rw [s1]; exact Nat.lt_succ_of_lt (World.block_lt_of_cell? w t ht0)),World.cell?_alloc_lt _ _ t (World.block_lt_of_cell? w t ht0)]; exact ht0)
  (by rw [World.frozen?_alloc_old _ _ t (by rw [s1]; have := World.block_lt_of_cell? w t ht0; omega),World.frozen?_alloc_old _ _ t (Nat.ne_of_lt (World.block_lt_of_cell? w t ht0))]; exact hf0)
 clear b1 s1 b2 n2 hF hG
 go_enter Tryz.func96,Tryz.ntmps96
 go_wp2
 refine wp_loop_rounds 3 ?_
 rw [rounds_succ]
 go_wp2
 rw [rounds_succ]
 go_wp2
 rw [rounds_succ]
 go_wp2
 go_ret
 exact ⟨rfl,_,HBB.out,rfl⟩
set_option maxRecDepth 100000 in
set_option maxHeartbeats 4000000 in
theorem asN2 (F : Nat) (call : ByteArray) (at' : Int) (v : Value) (t a : Addr) (w : World) (hF : w.heap[F]? = some (.cells #[.string call,zI at',.iface 133 v] 76 (0,0))) :
  Calls zG 96 #[.iface 74 (zP F),.iface 161 (.pointer (some t)),.agg #[.pointer (some ⟨3,161,none⟩),.pointer (some a),.int .u64 150],.iface 193 (.agg #[.pointer (some ⟨3,48,none⟩)])] w fun ev w' => ev = .returned (.bool false) ∧ Below w§ w w' := by
 have h50 := @run_callFunc_extern Tryz.prog 50 _ ReflectliteType.typeOf Tryz.func50 zK zK zK zK
 have h93 := @run_callFunc_extern Tryz.prog 93 _ (fun args => ReflectliteValue.unpack (args.getD 0 (.tuple #[]))) Tryz.func93 zK zK zK zK
 have h118 := @run_callFunc_extern Tryz.prog 118 _ (ReflectliteValue.method (ReflectliteValue.valueError "reflectlite.Value.Elem" 0) ReflectliteValue.elem) Tryz.func118 zK zK zK zK
 have h119 := @run_callFunc_extern Tryz.prog 119 _ ReflectliteValue.set Tryz.func119 zK zK zK zK
 have h221 := @run_callFunc_extern Tryz.prog 221 _ (ReflectliteType.relation "AssignableTo" ReflectliteType.assignableTo) Tryz.func221 zK zK zK zK
 have mA := mtAsg
 have mU := mtUn
 have tO7 := tOf74
 have a74 := asg74_48
 have n74 := no74_As
 have i74 := is74_Un
 have b1 := below_new w (.cells #[.pointer (some ⟨3,161,none⟩),.pointer (some a),.int .u64 150] 185)
 have c1 : (w.alloc (.cells #[.pointer (some ⟨3,161,none⟩),.pointer (some a),.int .u64 150] 185)).cell? ⟨F,2,none⟩ = some _ := cell_of ((b1.block _ (Array.getElem?_eq_some_iff.1 hF).1).trans hF) 2
 have HB1 : Hid (Below w§ w (w.alloc (.cells #[.pointer (some ⟨3,161,none⟩),.pointer (some a),.int .u64 150] 185))) := b1
 have tO := tOf133
 have a133 := asg133_48
 have q1 := no133_As
 have q2 := no133_Un
 have q3 := no133_Uns
 clear b1 hF
 go_enter Tryz.func96,Tryz.ntmps96
 go_wp2
 refine wp_loop_rounds 2 ?_
 rw [rounds_succ]
 go_wp2
 rw [rounds_succ]
 go_wp2
 go_ret
 exact ⟨rfl,HB1.out⟩
set_option maxRecDepth 100000 in
set_option maxHeartbeats 4000000 in
theorem asN1 (F : Nat) (call : ByteArray) (at' : Int)  (t a : Addr) (w : World) (hF : w.heap[F]? = some (.cells #[.string call,zI at',.nilIface] 76 (0,0))) :
  Calls zG 96 #[.iface 74 (zP F),.iface 161 (.pointer (some t)),.agg #[.pointer (some ⟨3,161,none⟩),.pointer (some a),.int .u64 150],.iface 193 (.agg #[.pointer (some ⟨3,48,none⟩)])] w fun ev w' => ev = .returned (.bool false) ∧ Below w§ w w' := by
 have h50 := @run_callFunc_extern Tryz.prog 50 _ ReflectliteType.typeOf Tryz.func50 zK zK zK zK
 have h93 := @run_callFunc_extern Tryz.prog 93 _ (fun args => ReflectliteValue.unpack (args.getD 0 (.tuple #[]))) Tryz.func93 zK zK zK zK
 have h118 := @run_callFunc_extern Tryz.prog 118 _ (ReflectliteValue.method (ReflectliteValue.valueError "reflectlite.Value.Elem" 0) ReflectliteValue.elem) Tryz.func118 zK zK zK zK
 have h119 := @run_callFunc_extern Tryz.prog 119 _ ReflectliteValue.set Tryz.func119 zK zK zK zK
 have h221 := @run_callFunc_extern Tryz.prog 221 _ (ReflectliteType.relation "AssignableTo" ReflectliteType.assignableTo) Tryz.func221 zK zK zK zK
 have mA := mtAsg
 have mU := mtUn
 have tO7 := tOf74
 have a74 := asg74_48
 have n74 := no74_As
 have i74 := is74_Un
 have b1 := below_new w (.cells #[.pointer (some ⟨3,161,none⟩),.pointer (some a),.int .u64 150] 185)
 have c1 : (w.alloc (.cells #[.pointer (some ⟨3,161,none⟩),.pointer (some a),.int .u64 150] 185)).cell? ⟨F,2,none⟩ = some _ := cell_of ((b1.block _ (Array.getElem?_eq_some_iff.1 hF).1).trans hF) 2
 have HB1 : Hid (Below w§ w (w.alloc (.cells #[.pointer (some ⟨3,161,none⟩),.pointer (some a),.int .u64 150] 185))) := b1
 clear b1 hF
 go_enter Tryz.func96,Tryz.ntmps96
 go_wp2
 refine wp_loop_rounds 1 ?_
 rw [rounds_succ]
 go_wp2
 go_ret
 exact ⟨rfl,HB1.out⟩
set_option maxRecDepth 100000 in
set_option maxHeartbeats 4000000 in
theorem as49E (T : TypeId) (x : Value) (t : Addr) (w : World) (hg : w.cell? ⟨0,0,none⟩ = some (.iface 193 (.agg #[.pointer (some ⟨3,45,none⟩)]))) (Q : Bool → World → Prop)
  (cS : Calls zG 96 #[.iface T x,.iface 161 (.pointer (some t)),.agg #[.pointer (some ⟨3,161,none⟩),zP w§,.int .u64 150],.iface 193 (.agg #[.pointer (some ⟨3,48,none⟩)])] ((w.alloc (.cells #[.pointer (some t)] 161)).alloc (.cells #[.pointer (some ⟨3,161,none⟩),zP w§,.int .u64 150] 185)) fun ev w' => ∃ b,ev = .returned (.bool b) ∧ Q b w') :
  Calls zG 49 #[.iface T x,.iface 161 (.pointer (some t))] w fun ev w' => ∃ b,ev = .returned (.bool b) ∧ Q b w' := by
 have h93 := @run_callFunc_extern Tryz.prog 93 _ (fun args => ReflectliteValue.unpack (args.getD 0 (.tuple #[]))) Tryz.func93 zK zK zK zK
 have h94 := @run_callFunc_extern Tryz.prog 94 _ (ReflectliteValue.methodAny (ReflectliteValue.valueError "reflectlite.Value.Type" 0) (fun t _ _ _ => ReflectliteType.toType t)) Tryz.func94 zK zK zK zK
 have h95 := @run_callFunc_extern Tryz.prog 95 _ (ReflectliteValue.method (ReflectliteValue.valueError "reflectlite.Value.IsNil" 0) ReflectliteValue.isNil) Tryz.func95 zK zK zK zK
 have h210 := @run_callFunc_extern Tryz.prog 210 _ (ReflectliteType.abiMethod fun t => do pure (zU (← Rtype.kind t))) Tryz.func210 zK zK zK zK
 have h223 := @run_callFunc_extern Tryz.prog 223 _ (ReflectliteType.method ReflectliteType.elem) Tryz.func223 zK zK zK zK
 have h224 := @run_callFunc_extern Tryz.prog 224 _ (ReflectliteType.relation "Implements" ReflectliteType.implements_) Tryz.func224 zK zK zK zK
 have mK := mtKind
 have mE := mtElem
 have mI := mtImpl
 have v128 := vOf161
 have y128 := ty161
 have k128 := kd161
 have k74 := kd48
 have e128 := elm161
 have i74 := imp48
 have l0 := World.block_lt_of_cell? w ⟨0,0,none⟩ hg
 have b1 := below_new w (.cells #[.pointer (some t)] 161)
 have s1 := size_alloc w (.cells #[.pointer (some t)] 161)
 have n1 := heap_new w (.cells #[.pointer (some t)] 161)
 have b2 := below_new (w.alloc (.cells #[.pointer (some t)] 161)) (.cells #[.pointer (some ⟨3,161,none⟩),zP w§,.int .u64 150] 185)
 have ca : ((w.alloc (.cells #[.pointer (some t)] 161)).alloc (.cells #[.pointer (some ⟨3,161,none⟩),zP w§,.int .u64 150] 185)).cell? ⟨w§,0,none⟩ = some (.pointer (some t)) := cell_of ((b2.block _ (by omega)).trans n1) 0
 have hg2 : ((w.alloc (.cells #[.pointer (some t)] 161)).alloc (.cells #[.pointer (some ⟨3,161,none⟩),zP w§,.int .u64 150] 185)).cell? ⟨0,0,none⟩ = some (.iface 193 (.agg #[.pointer (some ⟨3,45,none⟩)])) := by
  rw [(below2 b1 b2).cell l0]; exact hg
 have n8 := nil161 ⟨w§,0,none⟩ t ((w.alloc (.cells #[.pointer (some t)] 161)).alloc (.cells #[.pointer (some ⟨3,161,none⟩),zP w§,.int .u64 150] 185)) ca
 clear b1 s1 n1 b2 ca
 go_enter Tryz.func49,Tryz.ntmps49
 go_wp2_with fail
 refine cS.mono ?_
 rintro ev w' ⟨b,rfl,hq⟩
 have HQ : Hid (Q b w') := hq
 clear cS hq
 go_wp2_with fail
 go_ret
 exact ⟨b,rfl,HQ.out⟩
set_option maxRecDepth 100000 in
set_option maxHeartbeats 4000000 in
theorem as49F (T : TypeId) (x : Value) (t : Addr) (w : World) (hg : w.cell? ⟨0,0,none⟩ = some (.iface 193 (.agg #[.pointer (some ⟨3,45,none⟩)]))) (Q : Bool → World → Prop)
  (cS : Calls zG 96 #[.iface T x,.iface 128 (.pointer (some t)),.agg #[.pointer (some ⟨3,128,none⟩),zP w§,.int .u64 150],.iface 193 (.agg #[.pointer (some ⟨3,74,none⟩)])] ((w.alloc (.cells #[.pointer (some t)] 128)).alloc (.cells #[.pointer (some ⟨3,128,none⟩),zP w§,.int .u64 150] 185)) fun ev w' => ∃ b,ev = .returned (.bool b) ∧ Q b w') :
  Calls zG 49 #[.iface T x,.iface 128 (.pointer (some t))] w fun ev w' => ∃ b,ev = .returned (.bool b) ∧ Q b w' := by
 have h93 := @run_callFunc_extern Tryz.prog 93 _ (fun args => ReflectliteValue.unpack (args.getD 0 (.tuple #[]))) Tryz.func93 zK zK zK zK
 have h94 := @run_callFunc_extern Tryz.prog 94 _ (ReflectliteValue.methodAny (ReflectliteValue.valueError "reflectlite.Value.Type" 0) (fun t _ _ _ => ReflectliteType.toType t)) Tryz.func94 zK zK zK zK
 have h95 := @run_callFunc_extern Tryz.prog 95 _ (ReflectliteValue.method (ReflectliteValue.valueError "reflectlite.Value.IsNil" 0) ReflectliteValue.isNil) Tryz.func95 zK zK zK zK
 have h210 := @run_callFunc_extern Tryz.prog 210 _ (ReflectliteType.abiMethod fun t => do pure (zU (← Rtype.kind t))) Tryz.func210 zK zK zK zK
 have h223 := @run_callFunc_extern Tryz.prog 223 _ (ReflectliteType.method ReflectliteType.elem) Tryz.func223 zK zK zK zK
 have h224 := @run_callFunc_extern Tryz.prog 224 _ (ReflectliteType.relation "Implements" ReflectliteType.implements_) Tryz.func224 zK zK zK zK
 have mK := mtKind
 have mE := mtElem
 have mI := mtImpl
 have v128 := vOf128
 have y128 := ty128
 have k128 := kd128
 have k74 := kd74
 have e128 := elm128
 have i74 := imp74
 have l0 := World.block_lt_of_cell? w ⟨0,0,none⟩ hg
 have b1 := below_new w (.cells #[.pointer (some t)] 128)
 have s1 := size_alloc w (.cells #[.pointer (some t)] 128)
 have n1 := heap_new w (.cells #[.pointer (some t)] 128)
 have b2 := below_new (w.alloc (.cells #[.pointer (some t)] 128)) (.cells #[.pointer (some ⟨3,128,none⟩),zP w§,.int .u64 150] 185)
 have ca : ((w.alloc (.cells #[.pointer (some t)] 128)).alloc (.cells #[.pointer (some ⟨3,128,none⟩),zP w§,.int .u64 150] 185)).cell? ⟨w§,0,none⟩ = some (.pointer (some t)) := cell_of ((b2.block _ (by omega)).trans n1) 0
 have hg2 : ((w.alloc (.cells #[.pointer (some t)] 128)).alloc (.cells #[.pointer (some ⟨3,128,none⟩),zP w§,.int .u64 150] 185)).cell? ⟨0,0,none⟩ = some (.iface 193 (.agg #[.pointer (some ⟨3,45,none⟩)])) := by
  rw [(below2 b1 b2).cell l0]; exact hg
 have n8 := nil128 ⟨w§,0,none⟩ t ((w.alloc (.cells #[.pointer (some t)] 128)).alloc (.cells #[.pointer (some ⟨3,128,none⟩),zP w§,.int .u64 150] 185)) ca
 clear b1 s1 n1 b2 ca
 go_enter Tryz.func49,Tryz.ntmps49
 go_wp2_with fail
 refine cS.mono ?_
 rintro ev w' ⟨b,rfl,hq⟩
 have HQ : Hid (Q b w') := hq
 clear cS hq
 go_wp2_with fail
 go_ret
 exact ⟨b,rfl,HQ.out⟩
set_option maxRecDepth 100000 in
set_option maxHeartbeats 4000000 in
theorem asN0 (n : Int) (t a : Addr) (w : World) :
  Calls zG 96 #[.iface 48 (zI n),.iface 128 (.pointer (some t)),.agg #[.pointer (some ⟨3,128,none⟩),.pointer (some a),.int .u64 150],.iface 193 (.agg #[.pointer (some ⟨3,74,none⟩)])] w fun ev w' => ev = .returned (.bool false) ∧ Below w§ w w' := by
 have h50 := @run_callFunc_extern Tryz.prog 50 _ ReflectliteType.typeOf Tryz.func50 zK zK zK zK
 have h221 := @run_callFunc_extern Tryz.prog 221 _ (ReflectliteType.relation "AssignableTo" ReflectliteType.assignableTo) Tryz.func221 zK zK zK zK
 have mA := mtAsg
 have tO := tOf48
 have a48 := asg48_74
 have q1 := no48_As
 have q2 := no48_Un
 have q3 := no48_Uns
 have HB1 : Hid (Below w§ w (w.alloc (.cells #[.pointer (some ⟨3,128,none⟩),.pointer (some a),.int .u64 150] 185))) := below_new w _
 go_enter Tryz.func96,Tryz.ntmps96
 go_wp2
 refine wp_loop_rounds 1 ?_
 rw [rounds_succ]
 go_wp2
 go_ret
 exact ⟨rfl,HB1.out⟩
def Er (w : World) (v : Value) (n p : Int) : Prop :=
 (v = .iface 48 (zI n) ∧ p = 0) ∨
 (∃ F c,v = .iface 74 (zP F) ∧ w.heap[F]? = some (.cells #[.string c,zI p,.iface 48 (zI n)] 76 (0,0))) ∨
 (∃ F c G c2 p2,v = .iface 74 (zP F) ∧ w.heap[F]? = some (.cells #[.string c,zI p,.iface 74 (zP G)] 76 (0,0)) ∧ w.heap[G]? = some (.cells #[.string c2,zI p2,.iface 48 (zI n)] 76 (0,0))) ∨
 (∃ F c x,v = .iface 74 (zP F) ∧ w.heap[F]? = some (.cells #[.string c,zI p,.iface 133 x] 76 (0,0)) ∧ n = -1) ∨
 (∃ F c,v = .iface 74 (zP F) ∧ w.heap[F]? = some (.cells #[.string c,zI p,.nilIface] 76 (0,0)) ∧ n = -1)
theorem Er.on {w w' : World} {v : Value} {n p : Int} (h : Er w v n p) (hb : Below w§ w w') : Er w' v n p := by
 have k : ∀ {F : Nat} {o},w.heap[F]? = some o → w'.heap[F]? = some o := fun hF => (hb.block _ (Array.getElem?_eq_some_iff.1 hF).1).trans hF
 rcases h with h | ⟨F,c,h1,h2⟩ | ⟨F,c,G,c2,p2,h1,h2,h3⟩ | ⟨F,c,x,h1,h2,h3⟩ | ⟨F,c,h1,h2,h3⟩
 ·exact .inl h
 ·exact .inr (.inl ⟨F,c,h1,k h2⟩)
 ·exact .inr (.inr (.inl ⟨F,c,G,c2,p2,h1,k h2,k h3⟩))
 ·exact .inr (.inr (.inr (.inl ⟨F,c,x,h1,k h2,h3⟩)))
 ·exact .inr (.inr (.inr (.inr ⟨F,c,h1,k h2,h3⟩)))
theorem asE_any {w : World} {v : Value} {n p : Int} (h : Er w v n p) (t a : Addr) (old : Value) (ha : w.cell? a = some (.pointer (some t))) (ht0 : w.cell? t = some old) (hf0 : w.frozen? t = false) :
  Calls zG 96 #[v,.iface 161 (.pointer (some t)),.agg #[.pointer (some ⟨3,161,none⟩),.pointer (some a),.int .u64 150],.iface 193 (.agg #[.pointer (some ⟨3,48,none⟩)])] w fun ev w' => ∃ b,ev = .returned (.bool b) ∧ ((b = true ∧ ∃ V,Below w§ w V ∧ w' = V.setCell t (zI n)) ∨ (b = false ∧ n = -1 ∧ Below w§ w w')) := by
 rcases h with ⟨rfl,_⟩ | ⟨F,c,rfl,h2⟩ | ⟨F,c,G,c2,p2,rfl,h2,h3⟩ | ⟨F,c,x,rfl,h2,h3⟩ | ⟨F,c,rfl,h2,h3⟩
 ·exact (asE1 n t a old w ha ht0 hf0).mono fun e w' h => ⟨true,h.1,.inl ⟨rfl,h.2⟩⟩
 ·exact (asE2 F c p n t a old w ha ht0 hf0 h2).mono fun e w' h => ⟨true,h.1,.inl ⟨rfl,h.2⟩⟩
 ·exact (asE3 F c p G c2 p2 n t a old w ha ht0 hf0 h2 h3).mono fun e w' h => ⟨true,h.1,.inl ⟨rfl,h.2⟩⟩
 ·exact (asN2 F c p x t a w h2).mono fun e w' h => ⟨false,h.1,.inr ⟨rfl,h3,h.2⟩⟩
 ·exact (asN1 F c p t a w h2).mono fun e w' h => ⟨false,h.1,.inr ⟨rfl,h3,h.2⟩⟩
def Ety (w : World) : Prop := w.cell? ⟨0,0,none⟩ = some (.iface 193 (.agg #[.pointer (some ⟨3,45,none⟩)]))
theorem Ety.on {w w' : World} (h : Ety w) (hb : Below w§ w w') : Ety w' := by
 have l0 := World.block_lt_of_cell? w ⟨0,0,none⟩ h
 unfold Ety; rw [hb.cell l0]; exact h
theorem Er.face {w : World} {v : Value} {n p : Int} (h : Er w v n p) : ∃ T x,v = .iface T x := by
 rcases h with ⟨rfl,_⟩ | ⟨F,c,rfl,h2⟩ | ⟨F,c,G,c2,p2,rfl,h2,h3⟩ | ⟨F,c,x,rfl,h2,h3⟩ | ⟨F,c,rfl,h2,h3⟩ <;> exact ⟨_,_,rfl⟩
theorem as49E_any {w : World} {v : Value} {n p : Int} (h : Er w v n p) (hg : Ety w) (t : Addr) (old : Value) (ht0 : w.cell? t = some old) (hf0 : w.frozen? t = false) :
  Calls zG 49 #[v,.iface 161 (.pointer (some t))] w fun ev w' => ∃ b,ev = .returned (.bool b) ∧ ((b = true ∧ ∃ V,Below w§ w V ∧ w' = V.setCell t (zI n)) ∨ (b = false ∧ n = -1 ∧ Below w§ w w')) := by
 obtain ⟨T,x,rfl⟩ := h.face
 have b1 := below_new w (.cells #[.pointer (some t)] 161)
 have s1 := size_alloc w (.cells #[.pointer (some t)] 161)
 have n1 := heap_new w (.cells #[.pointer (some t)] 161)
 have b2 := below_new (w.alloc (.cells #[.pointer (some t)] 161)) (.cells #[.pointer (some ⟨3,161,none⟩),zP w§,.int .u64 150] 185)
 have bb := below2 b1 b2
 have lt := World.block_lt_of_cell? w t ht0
 refine as49E T x t w hg _ ((asE_any (h.on bb) t ⟨w§,0,none⟩ old (cell_of ((b2.block _ (by omega)).trans n1) 0) (by rw [bb.cell lt]; exact ht0) (by rw [World.frozen?_alloc_old _ _ t (by rw [s1]; omega),World.frozen?_alloc_old _ _ t (by omega)]; exact hf0)).mono ?_)
 rintro e w' ⟨b,rfl,hh⟩
 refine ⟨b,rfl,?_⟩
 rcases hh with ⟨rfl,V,hV,rfl⟩ | ⟨rfl,hn,hV⟩
 ·exact .inl ⟨rfl,V,below2 bb hV,rfl⟩
 ·exact .inr ⟨rfl,hn,below2 bb hV⟩
theorem asF1_any {w : World} {v : Value} {n p : Int} (h : Er w v n p) (hg : Ety w) (t : Addr) (old : Value) (ht0 : w.cell? t = some old) (hf0 : w.frozen? t = false) :
  Calls zG 49 #[v,.iface 128 (.pointer (some t))] w fun ev w' => ∃ b,ev = .returned (.bool b) ∧ ((b = true ∧ ∃ F c e,w.heap[F]? = some (.cells #[.string c,zI p,e] 76 (0,0)) ∧ ∃ V,Below w§ w V ∧ w' = V.setCell t (zP F)) ∨ (b = false ∧ p = 0 ∧ Below w§ w w')) := by
 rcases h with ⟨rfl,hp⟩ | ⟨F,c,rfl,h2⟩ | ⟨F,c,G,c2,p2,rfl,h2,h3⟩ | ⟨F,c,x,rfl,h2,h3⟩ | ⟨F,c,rfl,h2,h3⟩
 ·refine as49F 48 (zI n) t w hg _ ((asN0 n t _ _).mono ?_)
  rintro e w' ⟨rfl,hb⟩
  exact ⟨false,rfl,.inr ⟨rfl,hp,below2 (below2 (below_new _ _) (below_new _ _)) hb⟩⟩
 all_goals exact (asF_any ⟨F,0,none⟩ t old w hg ht0 hf0).mono fun e w' h => ⟨true,h.1,.inl ⟨rfl,F,c,_,h2,h.2⟩⟩
def txtData {H : Type} (zs : List ByteArray) : DataW H := .agg (zs.map fun z => .lit (.string z.data.toList))
theorem tab_data : (Rows.laid_tripwire_lex_words : DataW Unit) = txtData wordsL := by rfl
theorem cells_of_txt {H : Type} {enc : TypeId × Value → H} {P : Program} {w : World} {base : Nat} {sp : Nat → Bool} {held : Bool} {fuel : Nat} {t e : TypeId} {n : Nat} {cs : List Value} {zs : List ByteArray} {p : List MemPlace}
  (ht : P.underlying t = some (.array n e)) (he : P.underlying e = some .string) (hce : P.cellsOf e = 1) (hct : P.cellsOf t = n)
  (h : DataW.trod enc P w base sp held fuel t cs = some (txtData zs,p)) : cs = zs.map Value.string := by
 cases fuel with
 | zero => simp [DataW.trod] at h
 | succ fuel =>
  simp only [DataW.trod,ht,hce,hct,Nat.mul_one] at h
  split at h
  ·rename_i hl
   obtain ⟨xs,hm,hx⟩ := Option.map_eq_some_iff.1 h
   have hxs : xs.map (·.1) = zs.map fun z => (DataW.lit (.string z.data.toList) : DataW H) := by
    have := congrArg Prod.fst hx
    simpa [txtData] using this
   have hxl : xs.length = n := by simpa using Lib.mapM_length hm
   have hzl : zs.length = n := by
    have := congrArg List.length hxs
    simp at this
    omega
   apply List.ext_getElem?
   intro i
   by_cases hi : i < n
   ·obtain ⟨b,hb,hf⟩ := Lib.mapM_at hm i i (by simp [hi])
    obtain ⟨z,hc,rfl,_⟩ := DataW.trod_string he hf
    have h1 : cs[i]? = some (.string z) := by
     have := congrArg (·[0]?) hc
     simpa [List.getElem?_take,List.getElem?_drop] using this
    have h2 : (xs.map (·.1))[i]? = some (DataW.lit (.string z.data.toList) : DataW H) := by simp [hb]
    rw [hxs] at h2
    simp only [List.getElem?_map,Option.map_eq_some_iff,DataW.lit.injEq,Lit.string.injEq] at h2
    obtain ⟨z',hz',e2⟩ := h2
    simp [h1,hz',str_eq e2]
   ·rw [List.getElem?_eq_none (by omega),List.getElem?_eq_none (by simp; omega)]
  ·cases h
theorem txt_of_head {P : Program} {W : World} {name : String} {zs : List ByteArray} {rest : List (String × DataW Unit)} {g : Nat} {t e : TypeId} {n : Nat}
  (hg : P.globalNamed name = some g) (hty : (P.globals[g]?).map (·.type) = some t) (ht : P.underlying t = some (.array n e)) (he : P.underlying e = some .string) (hce : P.cellsOf e = 1) (hct : P.cellsOf t = n)
  (h : laidMet P ((name,txtData zs) :: rest) W) : W.var? P name = some (zs.map Value.string).toArray := by
 obtain ⟨ps,⟨g',t',cs,fuel,p,q,hg',ht',hvar,hd,_,_⟩,_⟩ := h
 obtain rfl := Option.some.inj (hg.symm.trans hg')
 obtain rfl := Option.some.inj (hty.symm.trans ht')
 rw [hvar,← cells_of_txt ht he hce hct hd]
theorem ety_of_var {W : World} (h : W.var? Tryz.prog "errors.errorType" = some #[.iface 193 (.agg #[.pointer (some ⟨3, 45, none⟩)])]) : Ety W := by
 have hg : Tryz.prog.globalNamed "errors.errorType" = some 0 := by kernel_rfl
 have := World.var?_cell hg h 0
 exact this
theorem err_row (ty : TypeId) (h1 : ty < Tryz.prog.types.size) (h2 : Tryz.prog.rowNamed ty [101,114,114,111,114] = true) : ty = 45 := by
 have h : ((List.range Tryz.prog.types.size).all fun t => !(Tryz.prog.rowNamed t [101,114,114,111,114]) || t == 45) = true := by kernel_rfl
 have := List.all_eq_true.1 h ty (List.mem_range.2 h1)
 simp [h2] at this
 exact this
theorem tab_of_laid {W : World} (h : laidMetH Tryz.prog Rows.parseExprsRow.laid W) : Tab W ∧ Ety W := by
 have h2 : laidMet Tryz.prog [("tripwire/lex.words", (Rows.laid_tripwire_lex_words : DataW Unit))] W ∧ handlesMet Tryz.prog [("errors.errorType", (Rows.laid_errors_errorType : DataW Unit))] W := h
 refine ⟨?_,?_⟩
 ·have h3 := h2.1
  rw [tab_data] at h3
  exact txt_of_head (g := 1) (t := 257) (n := 41) (e := 9) zK zK zK zK zK zK h3
 ·obtain ⟨name, u, ty, e1, e2, e3, e4, e5⟩ : ∃ name u ty, (Rows.laid_errors_errorType : DataW Unit).handleName? = some name ∧ Option.map (fun x => x.snd) (Array.find? (fun x => x.fst == "internal/reflectlite.rtype") Tryz.prog.cutTypes) = some u ∧ ty < Tryz.prog.types.size ∧ Tryz.prog.rowNamed ty name = true ∧ World.var? Tryz.prog W "errors.errorType" = some #[Value.iface u (Value.agg #[typeHandle Tryz.prog ty])] := h2.2 _ (List.mem_singleton.2 rfl)
  have f1 : (Rows.laid_errors_errorType : DataW Unit).handleName? = some [101,114,114,111,114] := by kernel_rfl
  have f2 : Option.map (fun x => x.snd) (Array.find? (fun x => x.fst == "internal/reflectlite.rtype") Tryz.prog.cutTypes) = some 193 := by kernel_rfl
  obtain rfl := Option.some.inj (f1.symm.trans e1)
  obtain rfl := Option.some.inj (f2.symm.trans e2)
  obtain rfl := err_row ty e3 e4
  exact ety_of_var e5
set_option maxRecDepth 100000 in
theorem door_met (os : Os) (args : Array Value) : laidMetH Tryz.prog Rows.parseExprsRow.laid ((World.doorLaid Tryz.prog 400 os).forCall (fun _ _ => 0) ⟨#[],args,[]⟩).memory :=
 laidMetH_of_parts3 (fuel := 8) (laidMet_of_run' 8 zK zK) zK zK
end Go.Proofs.YtkfabnchhjfjjaaGreatDoor
