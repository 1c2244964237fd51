import Derived.Test.YtkfabnchhjfjjaaGreatDoorA0
import Derived.Test.YtkfabnchhjfjjaaGreatDoorA9
import Derived.Test.YtkfabnchhjfjjaaGreatDoorRows
import Derived.LaidMore
import Derived.LaidHandle
import Derived.MakeChecks
import Derived.Stop.LaidErr
import Derived.Lib.LaidTab
import Derived.Test.YtkfabnchhjfjjaaGreatDoorA4
import Derived.Deep.QuietTactic
import Derived.Deep.RegionHeld3
import Derived.BigQuiet
namespace Go.Proofs.YtkfabnchhjfjjaaGreatDoor
set_option maxRecDepth 100000
set_option maxHeartbeats 4000000
open Go.RowKit Go.Extern.Stop Go.Stop Go.Extern
theorem asE1 (n:Int) (t a:Addr) (old:Value) (w:World) (ha:w.cell? a=some (.pointer (some t))) (ht0:w.cell? t=some old) (hf0:w.frozen? t=false) :
  Calls zG 96 #[.iface 48 (zI n),.iface 161 (.pointer (some t)),.agg #[.pointer (some ⟨3,161,none⟩),.pointer (some a),.int .u64 150],.iface 193 (.agg #[.pointer (some ⟨3,48,none⟩)])] w fun ev w'=>ev=.returned (.bool true)∧∃ V,Below w§ w V∧w'=V.setCell t (zI n):=by
 have h50:=@run_callFunc_extern Tryz.prog 50 _ ReflectliteType.typeOf Tryz.func50 zK zK zK zK
 have h93:=@run_callFunc_extern Tryz.prog 93 _ (fun args=>ReflectliteValue.unpack (args.getD 0 (.tuple #[]))) Tryz.func93 zK zK zK zK
 have h118 := @run_callFunc_extern Tryz.prog 118 _ (ReflectliteValue.method (ReflectliteValue.valueError "reflectlite.Value.Elem" 0) ReflectliteValue.elem) Tryz.func118 zK zK zK zK
 have h119:=@run_callFunc_extern Tryz.prog 119 _ ReflectliteValue.set Tryz.func119 zK zK zK zK
 have h221 := @run_callFunc_extern Tryz.prog 221 _ (ReflectliteType.relation "AssignableTo" ReflectliteType.assignableTo) Tryz.func221 zK zK zK zK
 have mA:=mtAsg
 have tO:=tOf48
 have a48:=asg48_48
 have v48:=vOf48
 have b1:=Bn w (.cells #[.pointer (some ⟨3,161,none⟩),.pointer (some a),.int .u64 150] 185)
 have s1:=Sa w (.cells #[.pointer (some ⟨3,161,none⟩),.pointer (some a),.int .u64 150] 185)
 have b2:=Bn (w.alloc (.cells #[.pointer (some ⟨3,161,none⟩),.pointer (some a),.int .u64 150] 185)) (.cells #[zI n] 48)
 have n2:=Hn (w.alloc (.cells #[.pointer (some ⟨3,161,none⟩),.pointer (some a),.int .u64 150] 185)) (.cells #[zI n] 48)
 have HBB:=hd (B2 b1 b2)
 have el:=elv161 a t (w.alloc (.cells #[.pointer (some ⟨3,161,none⟩),.pointer (some a),.int .u64 150] 185)) (by rw [World.cell?_alloc_lt _ _ a (World.block_lt_of_cell? w a ha)]; exact ha)
 have st:=set48 t ⟨w§+1,0,none⟩ n old ((w.alloc (.cells #[.pointer (some ⟨3,161,none⟩),.pointer (some a),.int .u64 150] 185)).alloc (.cells #[zI n] 48)) (by rw [s1] at n2; exact Co n2 0)
  (by rw [World.cell?_alloc_lt _ _ t (by rw [s1]; exact Nat.lt_succ_of_lt (World.block_lt_of_cell? w t ht0)),World.cell?_alloc_lt _ _ t (World.block_lt_of_cell? w t ht0)]; exact ht0)
  (by rw [World.frozen?_alloc_old _ _ t (by rw [s1]; have:=World.block_lt_of_cell? w t ht0; omega),World.frozen?_alloc_old _ _ t (Nat.ne_of_lt (World.block_lt_of_cell? w t ht0))]; exact hf0)
 clear b1 s1 b2 n2
 go_enter Tryz.func96,Tryz.ntmps96
 go_wp2
 refine wp_loop_rounds 1 ?_
 rw [rounds_succ]
 go_wp2
 go_ret
 exact⟨rfl,_,HBB.out,rfl⟩
theorem asE2 (F:Nat) (call:ByteArray) (at':Int) (n:Int) (t a:Addr) (old:Value) (w:World) (ha:w.cell? a=some (.pointer (some t))) (ht0:w.cell? t=some old) (hf0:w.frozen? t=false) (hF:w.heap[F]? = some (.cells #[.string call,zI at',.iface 48 (zI n)] 76 (0,0))) :
  Calls zG 96 #[.iface 74 (zP F),.iface 161 (.pointer (some t)),.agg #[.pointer (some ⟨3,161,none⟩),.pointer (some a),.int .u64 150],.iface 193 (.agg #[.pointer (some ⟨3,48,none⟩)])] w fun ev w'=>ev=.returned (.bool true)∧∃ V,Below w§ w V∧w'=V.setCell t (zI n):=by
 have h50:=@run_callFunc_extern Tryz.prog 50 _ ReflectliteType.typeOf Tryz.func50 zK zK zK zK
 have h93:=@run_callFunc_extern Tryz.prog 93 _ (fun args=>ReflectliteValue.unpack (args.getD 0 (.tuple #[]))) Tryz.func93 zK zK zK zK
 have h118 := @run_callFunc_extern Tryz.prog 118 _ (ReflectliteValue.method (ReflectliteValue.valueError "reflectlite.Value.Elem" 0) ReflectliteValue.elem) Tryz.func118 zK zK zK zK
 have h119:=@run_callFunc_extern Tryz.prog 119 _ ReflectliteValue.set Tryz.func119 zK zK zK zK
 have h221 := @run_callFunc_extern Tryz.prog 221 _ (ReflectliteType.relation "AssignableTo" ReflectliteType.assignableTo) Tryz.func221 zK zK zK zK
 have mA:=mtAsg
 have mU:=mtUn
 have tO7:=tOf74
 have a74:=asg74_48
 have n74:=no74_As
 have i74:=is74_Un
 have b1:=Bn w (.cells #[.pointer (some ⟨3,161,none⟩),.pointer (some a),.int .u64 150] 185)
 have c1:(w.alloc (.cells #[.pointer (some ⟨3,161,none⟩),.pointer (some a),.int .u64 150] 185)).cell? ⟨F,2,none⟩=some _:=Co ((b1.block _ (Array.getElem?_eq_some_iff.1 hF).1).trans hF) 2
 have tO:=tOf48
 have a48:=asg48_48
 have v48:=vOf48
 have s1:=Sa w (.cells #[.pointer (some ⟨3,161,none⟩),.pointer (some a),.int .u64 150] 185)
 have b2:=Bn (w.alloc (.cells #[.pointer (some ⟨3,161,none⟩),.pointer (some a),.int .u64 150] 185)) (.cells #[zI n] 48)
 have n2:=Hn (w.alloc (.cells #[.pointer (some ⟨3,161,none⟩),.pointer (some a),.int .u64 150] 185)) (.cells #[zI n] 48)
 have HBB:=hd (B2 b1 b2)
 have el:=elv161 a t (w.alloc (.cells #[.pointer (some ⟨3,161,none⟩),.pointer (some a),.int .u64 150] 185)) (by rw [World.cell?_alloc_lt _ _ a (World.block_lt_of_cell? w a ha)]; exact ha)
 have st:=set48 t ⟨w§+1,0,none⟩ n old ((w.alloc (.cells #[.pointer (some ⟨3,161,none⟩),.pointer (some a),.int .u64 150] 185)).alloc (.cells #[zI n] 48)) (by rw [s1] at n2; exact Co n2 0)
  (by rw [World.cell?_alloc_lt _ _ t (by rw [s1]; exact Nat.lt_succ_of_lt (World.block_lt_of_cell? w t ht0)),World.cell?_alloc_lt _ _ t (World.block_lt_of_cell? w t ht0)]; exact ht0)
  (by rw [World.frozen?_alloc_old _ _ t (by rw [s1]; have:=World.block_lt_of_cell? w t ht0; omega),World.frozen?_alloc_old _ _ t (Nat.ne_of_lt (World.block_lt_of_cell? w t ht0))]; exact hf0)
 clear b1 s1 b2 n2 hF
 go_enter Tryz.func96,Tryz.ntmps96
 go_wp2
 refine wp_loop_rounds 2 ?_
 rw [rounds_succ]
 go_wp2
 rw [rounds_succ]
 go_wp2
 go_ret
 exact⟨rfl,_,HBB.out,rfl⟩
theorem asE3 (F:Nat) (call:ByteArray) (at':Int) (G:Nat) (call2:ByteArray) (at2:Int) (n:Int) (t a:Addr) (old:Value) (w:World) (ha:w.cell? a=some (.pointer (some t))) (ht0:w.cell? t=some old) (hf0:w.frozen? t=false) (hF:w.heap[F]? = some (.cells #[.string call,zI at',.iface 74 (zP G)] 76 (0,0))) (hG:w.heap[G]? = some (.cells #[.string call2,zI at2,.iface 48 (zI n)] 76 (0,0))) :
  Calls zG 96 #[.iface 74 (zP F),.iface 161 (.pointer (some t)),.agg #[.pointer (some ⟨3,161,none⟩),.pointer (some a),.int .u64 150],.iface 193 (.agg #[.pointer (some ⟨3,48,none⟩)])] w fun ev w'=>ev=.returned (.bool true)∧∃ V,Below w§ w V∧w'=V.setCell t (zI n):=by
 have h50:=@run_callFunc_extern Tryz.prog 50 _ ReflectliteType.typeOf Tryz.func50 zK zK zK zK
 have h93:=@run_callFunc_extern Tryz.prog 93 _ (fun args=>ReflectliteValue.unpack (args.getD 0 (.tuple #[]))) Tryz.func93 zK zK zK zK
 have h118 := @run_callFunc_extern Tryz.prog 118 _ (ReflectliteValue.method (ReflectliteValue.valueError "reflectlite.Value.Elem" 0) ReflectliteValue.elem) Tryz.func118 zK zK zK zK
 have h119:=@run_callFunc_extern Tryz.prog 119 _ ReflectliteValue.set Tryz.func119 zK zK zK zK
 have h221 := @run_callFunc_extern Tryz.prog 221 _ (ReflectliteType.relation "AssignableTo" ReflectliteType.assignableTo) Tryz.func221 zK zK zK zK
 have mA:=mtAsg
 have mU:=mtUn
 have tO7:=tOf74
 have a74:=asg74_48
 have n74:=no74_As
 have i74:=is74_Un
 have b1:=Bn w (.cells #[.pointer (some ⟨3,161,none⟩),.pointer (some a),.int .u64 150] 185)
 have c1:(w.alloc (.cells #[.pointer (some ⟨3,161,none⟩),.pointer (some a),.int .u64 150] 185)).cell? ⟨F,2,none⟩=some _:=Co ((b1.block _ (Array.getElem?_eq_some_iff.1 hF).1).trans hF) 2
 have c2:(w.alloc (.cells #[.pointer (some ⟨3,161,none⟩),.pointer (some a),.int .u64 150] 185)).cell? ⟨G,2,none⟩=some _:=Co ((b1.block _ (Array.getElem?_eq_some_iff.1 hG).1).trans hG) 2
 have tO:=tOf48
 have a48:=asg48_48
 have v48:=vOf48
 have s1:=Sa w (.cells #[.pointer (some ⟨3,161,none⟩),.pointer (some a),.int .u64 150] 185)
 have b2:=Bn (w.alloc (.cells #[.pointer (some ⟨3,161,none⟩),.pointer (some a),.int .u64 150] 185)) (.cells #[zI n] 48)
 have n2:=Hn (w.alloc (.cells #[.pointer (some ⟨3,161,none⟩),.pointer (some a),.int .u64 150] 185)) (.cells #[zI n] 48)
 have HBB:=hd (B2 b1 b2)
 have el:=elv161 a t (w.alloc (.cells #[.pointer (some ⟨3,161,none⟩),.pointer (some a),.int .u64 150] 185)) (by rw [World.cell?_alloc_lt _ _ a (World.block_lt_of_cell? w a ha)]; exact ha)
 have st:=set48 t ⟨w§+1,0,none⟩ n old ((w.alloc (.cells #[.pointer (some ⟨3,161,none⟩),.pointer (some a),.int .u64 150] 185)).alloc (.cells #[zI n] 48)) (by rw [s1] at n2; exact Co n2 0)
  (by rw [World.cell?_alloc_lt _ _ t (by rw [s1]; exact Nat.lt_succ_of_lt (World.block_lt_of_cell? w t ht0)),World.cell?_alloc_lt _ _ t (World.block_lt_of_cell? w t ht0)]; exact ht0)
  (by rw [World.frozen?_alloc_old _ _ t (by rw [s1]; have:=World.block_lt_of_cell? w t ht0; omega),World.frozen?_alloc_old _ _ t (Nat.ne_of_lt (World.block_lt_of_cell? w t ht0))]; exact hf0)
 clear b1 s1 b2 n2 hF hG
 go_enter Tryz.func96,Tryz.ntmps96
 go_wp2
 refine wp_loop_rounds 3 ?_
 rw [rounds_succ]
 go_wp2
 rw [rounds_succ]
 go_wp2
 rw [rounds_succ]
 go_wp2
 go_ret
 exact⟨rfl,_,HBB.out,rfl⟩
theorem asN2 (F:Nat) (call:ByteArray) (at':Int) (v:Value) (t a:Addr) (w:World) (hF:w.heap[F]? = some (.cells #[.string call,zI at',.iface 133 v] 76 (0,0))) :
  Calls zG 96 #[.iface 74 (zP F),.iface 161 (.pointer (some t)),.agg #[.pointer (some ⟨3,161,none⟩),.pointer (some a),.int .u64 150],.iface 193 (.agg #[.pointer (some ⟨3,48,none⟩)])] w fun ev w'=>ev=.returned (.bool false)∧Below w§ w w':=by
 have h50:=@run_callFunc_extern Tryz.prog 50 _ ReflectliteType.typeOf Tryz.func50 zK zK zK zK
 have h93:=@run_callFunc_extern Tryz.prog 93 _ (fun args=>ReflectliteValue.unpack (args.getD 0 (.tuple #[]))) Tryz.func93 zK zK zK zK
 have h118 := @run_callFunc_extern Tryz.prog 118 _ (ReflectliteValue.method (ReflectliteValue.valueError "reflectlite.Value.Elem" 0) ReflectliteValue.elem) Tryz.func118 zK zK zK zK
 have h119:=@run_callFunc_extern Tryz.prog 119 _ ReflectliteValue.set Tryz.func119 zK zK zK zK
 have h221 := @run_callFunc_extern Tryz.prog 221 _ (ReflectliteType.relation "AssignableTo" ReflectliteType.assignableTo) Tryz.func221 zK zK zK zK
 have mA:=mtAsg
 have mU:=mtUn
 have tO7:=tOf74
 have a74:=asg74_48
 have n74:=no74_As
 have i74:=is74_Un
 have b1:=Bn w (.cells #[.pointer (some ⟨3,161,none⟩),.pointer (some a),.int .u64 150] 185)
 have c1:(w.alloc (.cells #[.pointer (some ⟨3,161,none⟩),.pointer (some a),.int .u64 150] 185)).cell? ⟨F,2,none⟩=some _:=Co ((b1.block _ (Array.getElem?_eq_some_iff.1 hF).1).trans hF) 2
 have HB1:=hd b1
 have tO:=tOf133
 have a133:=asg133_48
 have q1:=no133_As
 have q2:=no133_Un
 have q3:=no133_Uns
 clear b1 hF
 go_enter Tryz.func96,Tryz.ntmps96
 go_wp2
 refine wp_loop_rounds 2 ?_
 rw [rounds_succ]
 go_wp2
 rw [rounds_succ]
 go_wp2
 go_ret
 exact⟨rfl,HB1.out⟩
theorem asN1 (F:Nat) (call:ByteArray) (at':Int)  (t a:Addr) (w:World) (hF:w.heap[F]? = some (.cells #[.string call,zI at',.nilIface] 76 (0,0))) :
  Calls zG 96 #[.iface 74 (zP F),.iface 161 (.pointer (some t)),.agg #[.pointer (some ⟨3,161,none⟩),.pointer (some a),.int .u64 150],.iface 193 (.agg #[.pointer (some ⟨3,48,none⟩)])] w fun ev w'=>ev=.returned (.bool false)∧Below w§ w w':=by
 have h50:=@run_callFunc_extern Tryz.prog 50 _ ReflectliteType.typeOf Tryz.func50 zK zK zK zK
 have h93:=@run_callFunc_extern Tryz.prog 93 _ (fun args=>ReflectliteValue.unpack (args.getD 0 (.tuple #[]))) Tryz.func93 zK zK zK zK
 have h118 := @run_callFunc_extern Tryz.prog 118 _ (ReflectliteValue.method (ReflectliteValue.valueError "reflectlite.Value.Elem" 0) ReflectliteValue.elem) Tryz.func118 zK zK zK zK
 have h119:=@run_callFunc_extern Tryz.prog 119 _ ReflectliteValue.set Tryz.func119 zK zK zK zK
 have h221 := @run_callFunc_extern Tryz.prog 221 _ (ReflectliteType.relation "AssignableTo" ReflectliteType.assignableTo) Tryz.func221 zK zK zK zK
 have mA:=mtAsg
 have mU:=mtUn
 have tO7:=tOf74
 have a74:=asg74_48
 have n74:=no74_As
 have i74:=is74_Un
 have b1:=Bn w (.cells #[.pointer (some ⟨3,161,none⟩),.pointer (some a),.int .u64 150] 185)
 have c1:(w.alloc (.cells #[.pointer (some ⟨3,161,none⟩),.pointer (some a),.int .u64 150] 185)).cell? ⟨F,2,none⟩=some _:=Co ((b1.block _ (Array.getElem?_eq_some_iff.1 hF).1).trans hF) 2
 have HB1:=hd b1
 clear b1 hF
 go_enter Tryz.func96,Tryz.ntmps96
 go_wp2
 refine wp_loop_rounds 1 ?_
 rw [rounds_succ]
 go_wp2
 go_ret
 exact⟨rfl,HB1.out⟩
theorem as49E (T:TypeId) (x:Value) (t:Addr) (w:World) (hg:w.cell? ⟨0,0,none⟩=some (.iface 193 (.agg #[.pointer (some ⟨3,45,none⟩)]))) (Q:Bool→World→Prop)
  (cS:Calls zG 96 #[.iface T x,.iface 161 (.pointer (some t)),.agg #[.pointer (some ⟨3,161,none⟩),zP w§,.int .u64 150],.iface 193 (.agg #[.pointer (some ⟨3,48,none⟩)])] ((w.alloc (.cells #[.pointer (some t)] 161)).alloc (.cells #[.pointer (some ⟨3,161,none⟩),zP w§,.int .u64 150] 185)) fun ev w'=>∃ b,ev=.returned (.bool b)∧Q b w') :
  Calls zG 49 #[.iface T x,.iface 161 (.pointer (some t))] w fun ev w'=>∃ b,ev=.returned (.bool b)∧Q b w':=by
 have h93:=@run_callFunc_extern Tryz.prog 93 _ (fun args=>ReflectliteValue.unpack (args.getD 0 (.tuple #[]))) Tryz.func93 zK zK zK zK
 have h94 := @run_callFunc_extern Tryz.prog 94 _ (ReflectliteValue.methodAny (ReflectliteValue.valueError "reflectlite.Value.Type" 0) (fun t _ _ _ => ReflectliteType.toType t)) Tryz.func94 zK zK zK zK
 have h95 := @run_callFunc_extern Tryz.prog 95 _ (ReflectliteValue.method (ReflectliteValue.valueError "reflectlite.Value.IsNil" 0) ReflectliteValue.isNil) Tryz.func95 zK zK zK zK
 have h210:=@run_callFunc_extern Tryz.prog 210 _ (ReflectliteType.abiMethod fun t=>do pure (zU (← Rtype.kind t))) Tryz.func210 zK zK zK zK
 have h223:=@run_callFunc_extern Tryz.prog 223 _ (ReflectliteType.method ReflectliteType.elem) Tryz.func223 zK zK zK zK
 have h224 := @run_callFunc_extern Tryz.prog 224 _ (ReflectliteType.relation "Implements" ReflectliteType.implements_) Tryz.func224 zK zK zK zK
 have mK:=mtKind
 have mE:=mtElem
 have mI:=mtImpl
 have v128:=vOf161
 have y128:=ty161
 have k128:=kd161
 have k74:=kd48
 have e128:=elm161
 have i74:=imp48
 have l0:=World.block_lt_of_cell? w ⟨0,0,none⟩ hg
 have b1:=Bn w (.cells #[.pointer (some t)] 161)
 have s1:=Sa w (.cells #[.pointer (some t)] 161)
 have n1:=Hn w (.cells #[.pointer (some t)] 161)
 have b2:=Bn (w.alloc (.cells #[.pointer (some t)] 161)) (.cells #[.pointer (some ⟨3,161,none⟩),zP w§,.int .u64 150] 185)
 have ca:((w.alloc (.cells #[.pointer (some t)] 161)).alloc (.cells #[.pointer (some ⟨3,161,none⟩),zP w§,.int .u64 150] 185)).cell? ⟨w§,0,none⟩=some (.pointer (some t)):=Co ((b2.block _ (by omega)).trans n1) 0
 have hg2:((w.alloc (.cells #[.pointer (some t)] 161)).alloc (.cells #[.pointer (some ⟨3,161,none⟩),zP w§,.int .u64 150] 185)).cell? ⟨0,0,none⟩=some (.iface 193 (.agg #[.pointer (some ⟨3,45,none⟩)])):=by
  rw [(B2 b1 b2).cell l0]; exact hg
 have n8:=nil161 ⟨w§,0,none⟩ t ((w.alloc (.cells #[.pointer (some t)] 161)).alloc (.cells #[.pointer (some ⟨3,161,none⟩),zP w§,.int .u64 150] 185)) ca
 clear b1 s1 n1 b2 ca
 go_enter Tryz.func49,Tryz.ntmps49
 go_wp2_with fail
 refine cS.mono ?_
 rintro ev w' ⟨b,rfl,hq⟩
 have HQ:Hid (Q b w'):=hq
 clear cS hq
 go_wp2_with fail
 go_ret
 exact⟨b,rfl,HQ.out⟩
theorem as49F (T:TypeId) (x:Value) (t:Addr) (w:World) (hg:w.cell? ⟨0,0,none⟩=some (.iface 193 (.agg #[.pointer (some ⟨3,45,none⟩)]))) (Q:Bool→World→Prop)
  (cS:Calls zG 96 #[.iface T x,.iface 128 (.pointer (some t)),.agg #[.pointer (some ⟨3,128,none⟩),zP w§,.int .u64 150],.iface 193 (.agg #[.pointer (some ⟨3,74,none⟩)])] ((w.alloc (.cells #[.pointer (some t)] 128)).alloc (.cells #[.pointer (some ⟨3,128,none⟩),zP w§,.int .u64 150] 185)) fun ev w'=>∃ b,ev=.returned (.bool b)∧Q b w') :
  Calls zG 49 #[.iface T x,.iface 128 (.pointer (some t))] w fun ev w'=>∃ b,ev=.returned (.bool b)∧Q b w':=by
 have h93:=@run_callFunc_extern Tryz.prog 93 _ (fun args=>ReflectliteValue.unpack (args.getD 0 (.tuple #[]))) Tryz.func93 zK zK zK zK
 have h94 := @run_callFunc_extern Tryz.prog 94 _ (ReflectliteValue.methodAny (ReflectliteValue.valueError "reflectlite.Value.Type" 0) (fun t _ _ _ => ReflectliteType.toType t)) Tryz.func94 zK zK zK zK
 have h95 := @run_callFunc_extern Tryz.prog 95 _ (ReflectliteValue.method (ReflectliteValue.valueError "reflectlite.Value.IsNil" 0) ReflectliteValue.isNil) Tryz.func95 zK zK zK zK
 have h210:=@run_callFunc_extern Tryz.prog 210 _ (ReflectliteType.abiMethod fun t=>do pure (zU (← Rtype.kind t))) Tryz.func210 zK zK zK zK
 have h223:=@run_callFunc_extern Tryz.prog 223 _ (ReflectliteType.method ReflectliteType.elem) Tryz.func223 zK zK zK zK
 have h224 := @run_callFunc_extern Tryz.prog 224 _ (ReflectliteType.relation "Implements" ReflectliteType.implements_) Tryz.func224 zK zK zK zK
 have mK:=mtKind
 have mE:=mtElem
 have mI:=mtImpl
 have v128:=vOf128
 have y128:=ty128
 have k128:=kd128
 have k74:=kd74
 have e128:=elm128
 have i74:=imp74
 have l0:=World.block_lt_of_cell? w ⟨0,0,none⟩ hg
 have b1:=Bn w (.cells #[.pointer (some t)] 128)
 have s1:=Sa w (.cells #[.pointer (some t)] 128)
 have n1:=Hn w (.cells #[.pointer (some t)] 128)
 have b2:=Bn (w.alloc (.cells #[.pointer (some t)] 128)) (.cells #[.pointer (some ⟨3,128,none⟩),zP w§,.int .u64 150] 185)
 have ca:((w.alloc (.cells #[.pointer (some t)] 128)).alloc (.cells #[.pointer (some ⟨3,128,none⟩),zP w§,.int .u64 150] 185)).cell? ⟨w§,0,none⟩=some (.pointer (some t)):=Co ((b2.block _ (by omega)).trans n1) 0
 have hg2:((w.alloc (.cells #[.pointer (some t)] 128)).alloc (.cells #[.pointer (some ⟨3,128,none⟩),zP w§,.int .u64 150] 185)).cell? ⟨0,0,none⟩=some (.iface 193 (.agg #[.pointer (some ⟨3,45,none⟩)])):=by
  rw [(B2 b1 b2).cell l0]; exact hg
 have n8:=nil128 ⟨w§,0,none⟩ t ((w.alloc (.cells #[.pointer (some t)] 128)).alloc (.cells #[.pointer (some ⟨3,128,none⟩),zP w§,.int .u64 150] 185)) ca
 clear b1 s1 n1 b2 ca
 go_enter Tryz.func49,Tryz.ntmps49
 go_wp2_with fail
 refine cS.mono ?_
 rintro ev w' ⟨b,rfl,hq⟩
 have HQ:Hid (Q b w'):=hq
 clear cS hq
 go_wp2_with fail
 go_ret
 exact⟨b,rfl,HQ.out⟩
theorem asN0 (n:Int) (t a:Addr) (w:World) :
  Calls zG 96 #[.iface 48 (zI n),.iface 128 (.pointer (some t)),.agg #[.pointer (some ⟨3,128,none⟩),.pointer (some a),.int .u64 150],.iface 193 (.agg #[.pointer (some ⟨3,74,none⟩)])] w fun ev w'=>ev=.returned (.bool false)∧Below w§ w w':=by
 have h50:=@run_callFunc_extern Tryz.prog 50 _ ReflectliteType.typeOf Tryz.func50 zK zK zK zK
 have h221 := @run_callFunc_extern Tryz.prog 221 _ (ReflectliteType.relation "AssignableTo" ReflectliteType.assignableTo) Tryz.func221 zK zK zK zK
 have mA:=mtAsg
 have tO:=tOf48
 have a48:=asg48_74
 have q1:=no48_As
 have q2:=no48_Un
 have q3:=no48_Uns
 have HB1:Hid (Below w§ w (w.alloc (.cells #[.pointer (some ⟨3,128,none⟩),.pointer (some a),.int .u64 150] 185))):=Bn w _
 go_enter Tryz.func96,Tryz.ntmps96
 go_wp2
 refine wp_loop_rounds 1 ?_
 rw [rounds_succ]
 go_wp2
 go_ret
 exact⟨rfl,HB1.out⟩
def Er (w:World) (v:Value) (n p:Int):Prop :=
 (v=.iface 48 (zI n)∧p=0) ∨
 (∃ F c,v=.iface 74 (zP F)∧w.heap[F]? = some (.cells #[.string c,zI p,.iface 48 (zI n)] 76 (0,0))) ∨
 (∃ F c G c2 p2,v=.iface 74 (zP F)∧w.heap[F]? = some (.cells #[.string c,zI p,.iface 74 (zP G)] 76 (0,0))∧w.heap[G]? = some (.cells #[.string c2,zI p2,.iface 48 (zI n)] 76 (0,0))) ∨
 (∃ F c x,v=.iface 74 (zP F)∧w.heap[F]? = some (.cells #[.string c,zI p,.iface 133 x] 76 (0,0))∧n = -1) ∨
 (∃ F c,v=.iface 74 (zP F)∧w.heap[F]? = some (.cells #[.string c,zI p,.nilIface] 76 (0,0))∧n = -1)
theorem Er.on {w w':World}{v:Value}{n p:Int}(h:Er w v n p) (hb:Below w§ w w'):Er w' v n p:=by
 have k:∀ {F:Nat}{o},w.heap[F]? = some o→w'.heap[F]? = some o:=fun hF=>(hb.block _ (Array.getElem?_eq_some_iff.1 hF).1).trans hF
 rcases h with h | ⟨F,c,h1,h2⟩ | ⟨F,c,G,c2,p2,h1,h2,h3⟩ | ⟨F,c,x,h1,h2,h3⟩ | ⟨F,c,h1,h2,h3⟩
 ·exact .inl h
 ·exact .inr (.inl ⟨F,c,h1,k h2⟩)
 ·exact .inr (.inr (.inl ⟨F,c,G,c2,p2,h1,k h2,k h3⟩))
 ·exact .inr (.inr (.inr (.inl ⟨F,c,x,h1,k h2,h3⟩)))
 ·exact .inr (.inr (.inr (.inr ⟨F,c,h1,k h2,h3⟩)))
theorem asE_any {w:World}{v:Value}{n p:Int}(h:Er w v n p) (t a:Addr) (old:Value) (ha:w.cell? a=some (.pointer (some t))) (ht0:w.cell? t=some old) (hf0:w.frozen? t=false) :
  Calls zG 96 #[v,.iface 161 (.pointer (some t)),.agg #[.pointer (some ⟨3,161,none⟩),.pointer (some a),.int .u64 150],.iface 193 (.agg #[.pointer (some ⟨3,48,none⟩)])] w fun ev w'=>∃ b,ev=.returned (.bool b)∧((b=true∧∃ V,Below w§ w V∧w'=V.setCell t (zI n))∨(b=false∧n = -1∧Below w§ w w')):=by
 rcases h with ⟨rfl,_⟩ | ⟨F,c,rfl,h2⟩ | ⟨F,c,G,c2,p2,rfl,h2,h3⟩ | ⟨F,c,x,rfl,h2,h3⟩ | ⟨F,c,rfl,h2,h3⟩
 ·exact (asE1 n t a old w ha ht0 hf0).mono fun e w' h=>⟨true,h.1,.inl ⟨rfl,h.2⟩⟩
 ·exact (asE2 F c p n t a old w ha ht0 hf0 h2).mono fun e w' h=>⟨true,h.1,.inl ⟨rfl,h.2⟩⟩
 ·exact (asE3 F c p G c2 p2 n t a old w ha ht0 hf0 h2 h3).mono fun e w' h=>⟨true,h.1,.inl ⟨rfl,h.2⟩⟩
 ·exact (asN2 F c p x t a w h2).mono fun e w' h=>⟨false,h.1,.inr ⟨rfl,h3,h.2⟩⟩
 ·exact (asN1 F c p t a w h2).mono fun e w' h=>⟨false,h.1,.inr ⟨rfl,h3,h.2⟩⟩
def Ety (w:World):Prop:=w.cell? ⟨0,0,none⟩=some (.iface 193 (.agg #[.pointer (some ⟨3,45,none⟩)]))
theorem Ety.on {w w':World}(h:Ety w) (hb:Below w§ w w'):Ety w':=by
 have l0:=World.block_lt_of_cell? w ⟨0,0,none⟩ h
 unfold Ety; rw [hb.cell l0]; exact h
theorem Er.face {w:World}{v:Value}{n p:Int}(h:Er w v n p):∃ T x,v=.iface T x:=by
 rcases h with ⟨rfl,_⟩ | ⟨F,c,rfl,h2⟩ | ⟨F,c,G,c2,p2,rfl,h2,h3⟩ | ⟨F,c,x,rfl,h2,h3⟩ | ⟨F,c,rfl,h2,h3⟩ <;> exact⟨_,_,rfl⟩
theorem as49E_any {w:World}{v:Value}{n p:Int}(h:Er w v n p) (hg:Ety w) (t:Addr) (old:Value) (ht0:w.cell? t=some old) (hf0:w.frozen? t=false) :
  Calls zG 49 #[v,.iface 161 (.pointer (some t))] w fun ev w'=>∃ b,ev=.returned (.bool b)∧((b=true∧∃ V,Below w§ w V∧w'=V.setCell t (zI n))∨(b=false∧n = -1∧Below w§ w w')):=by
 obtain⟨T,x,rfl⟩:=h.face
 have b1:=Bn w (.cells #[.pointer (some t)] 161)
 have s1:=Sa w (.cells #[.pointer (some t)] 161)
 have n1:=Hn w (.cells #[.pointer (some t)] 161)
 have b2:=Bn (w.alloc (.cells #[.pointer (some t)] 161)) (.cells #[.pointer (some ⟨3,161,none⟩),zP w§,.int .u64 150] 185)
 have bb:=B2 b1 b2
 have lt:=World.block_lt_of_cell? w t ht0
 refine as49E T x t w hg _ ((asE_any (h.on bb) t ⟨w§,0,none⟩ old (Co ((b2.block _ (by omega)).trans n1) 0) (by rw [bb.cell lt]; exact ht0) (by rw [World.frozen?_alloc_old _ _ t (by rw [s1]; omega),World.frozen?_alloc_old _ _ t (by omega)]; exact hf0)).mono ?_)
 rintro e w' ⟨b,rfl,hh⟩
 refine⟨b,rfl,?_⟩
 rcases hh with ⟨rfl,V,hV,rfl⟩ | ⟨rfl,hn,hV⟩
 ·exact .inl ⟨rfl,V,B2 bb hV,rfl⟩
 ·exact .inr ⟨rfl,hn,B2 bb hV⟩
theorem asF1_any {w:World}{v:Value}{n p:Int}(h:Er w v n p) (hg:Ety w) (t:Addr) (old:Value) (ht0:w.cell? t=some old) (hf0:w.frozen? t=false) :
  Calls zG 49 #[v,.iface 128 (.pointer (some t))] w fun ev w'=>∃ b,ev=.returned (.bool b)∧((b=true∧∃ F c e,w.heap[F]? = some (.cells #[.string c,zI p,e] 76 (0,0))∧∃ V,Below w§ w V∧w'=V.setCell t (zP F))∨(b=false∧p=0∧Below w§ w w')):=by
 rcases h with ⟨rfl,hp⟩ | ⟨F,c,rfl,h2⟩ | ⟨F,c,G,c2,p2,rfl,h2,h3⟩ | ⟨F,c,x,rfl,h2,h3⟩ | ⟨F,c,rfl,h2,h3⟩
 ·refine as49F 48 (zI n) t w hg _ ((asN0 n t _ _).mono ?_)
  rintro e w' ⟨rfl,hb⟩
  exact⟨false,rfl,.inr ⟨rfl,hp,B2 (B2 (Bn _ _) (Bn _ _)) hb⟩⟩
 all_goals exact (asF_any ⟨F,0,none⟩ t old w hg ht0 hf0).mono fun e w' h=>⟨true,h.1,.inl ⟨rfl,F,c,_,h2,h.2⟩⟩
/-- An array of texts as a row lists it. -/
def txtData {H : Type} (zs : List ByteArray) : DataW H := .agg (zs.map fun z => .lit (.string z.data.toList))
theorem tab_data : (Rows.laid_tripwire_lex_words : DataW Unit) = txtData wordsL := by rfl
theorem cells_of_txt {H : Type} {enc : TypeId × Value → H} {P : Program} {w : World} {base : Nat} {sp : Nat → Bool} {held : Bool} {fuel : Nat} {t e : TypeId} {n : Nat} {cs : List Value} {zs : List ByteArray} {p : List MemPlace}
    (ht : P.underlying t = some (.array n e)) (he : P.underlying e = some .string) (hce : P.cellsOf e = 1) (hct : P.cellsOf t = n)
    (h : DataW.trod enc P w base sp held fuel t cs = some (txtData zs, p)) : cs = zs.map Value.string := by
  cases fuel with
  | zero => simp [DataW.trod] at h
  | succ fuel =>
    simp only [DataW.trod, ht, hce, hct, Nat.mul_one] at h
    split at h
    · rename_i hl
      obtain ⟨xs, hm, hx⟩ := Option.map_eq_some_iff.1 h
      have hxs : xs.map (·.1) = zs.map fun z => (DataW.lit (.string z.data.toList) : DataW H) := by
        have := congrArg Prod.fst hx
        simpa [txtData] using this
      have hxl : xs.length = n := by simpa using Lib.mapM_length hm
      have hzl : zs.length = n := by
        have := congrArg List.length hxs
        simp at this
        omega
      apply List.ext_getElem?
      intro i
      by_cases hi : i < n
      · obtain ⟨b, hb, hf⟩ := Lib.mapM_at hm i i (by simp [hi])
        obtain ⟨z, hc, rfl, _⟩ := DataW.trod_string he hf
        have h1 : cs[i]? = some (.string z) := by
          have := congrArg (·[0]?) hc
          simpa [List.getElem?_take, List.getElem?_drop] using this
        have h2 : (xs.map (·.1))[i]? = some (DataW.lit (.string z.data.toList) : DataW H) := by simp [hb]
        rw [hxs] at h2
        simp only [List.getElem?_map, Option.map_eq_some_iff, DataW.lit.injEq, Lit.string.injEq] at h2
        obtain ⟨z', hz', e2⟩ := h2
        simp [h1, hz', str_eq e2]
      · rw [List.getElem?_eq_none (by omega), List.getElem?_eq_none (by simp; omega)]
    · cases h
theorem txt_of_head {P : Program} {W : World} {name : String} {zs : List ByteArray} {rest : List (String × DataW Unit)} {g : Nat} {t e : TypeId} {n : Nat}
    (hg : P.globalNamed name = some g) (hty : (P.globals[g]?).map (·.type) = some t) (ht : P.underlying t = some (.array n e)) (he : P.underlying e = some .string) (hce : P.cellsOf e = 1) (hct : P.cellsOf t = n)
    (h : laidMet P ((name, txtData zs) :: rest) W) : W.var? P name = some (zs.map Value.string).toArray := by
  obtain ⟨ps, ⟨g', t', cs, fuel, p, q, hg', ht', hvar, hd, _, _⟩, _⟩ := h
  obtain rfl := Option.some.inj (hg.symm.trans hg')
  obtain rfl := Option.some.inj (hty.symm.trans ht')
  rw [hvar, ← cells_of_txt ht he hce hct hd]
theorem ety_of_var {W : World} (h : W.var? Tryz.prog "errors.errorType" = some #[.iface 193 (.agg #[.pointer (some ⟨3, 45, none⟩)])]) : Ety W := by
  have hg : Tryz.prog.globalNamed "errors.errorType" = some 0 := by kernel_rfl
  have := World.var?_cell hg h 0
  exact this
theorem err_row (ty : TypeId) (h1 : ty < Tryz.prog.types.size) (h2 : Tryz.prog.rowNamed ty [101, 114, 114, 111, 114] = true) : ty = 45 := by
  have h : ((List.range Tryz.prog.types.size).all fun t => !(Tryz.prog.rowNamed t [101, 114, 114, 111, 114]) || t == 45) = true := by kernel_rfl
  have := List.all_eq_true.1 h ty (List.mem_range.2 h1)
  simp [h2] at this
  exact this
theorem tab_of_laid {W : World} (h : laidMetH Tryz.prog Rows.parseWrapsRow.laid W) : Tab W ∧ Ety W := by
  have h2 : laidMet Tryz.prog [("tripwire/lex.words", (Rows.laid_tripwire_lex_words : DataW Unit))] W ∧ handlesMet Tryz.prog [("errors.errorType", (Rows.laid_errors_errorType : DataW Unit))] W := h
  refine ⟨?_, ?_⟩
  · have h3 := h2.1
    rw [tab_data] at h3
    exact txt_of_head (g := 1) (t := 257) (n := 41) (e := 9) zK zK zK zK zK zK h3
  · obtain ⟨name, u, ty, e1, e2, e3, e4, e5⟩ : ∃ name u ty, (Rows.laid_errors_errorType : DataW Unit).handleName? = some name ∧ Option.map (fun x => x.snd) (Array.find? (fun x => x.fst == "internal/reflectlite.rtype") Tryz.prog.cutTypes) = some u ∧ ty < Tryz.prog.types.size ∧ Tryz.prog.rowNamed ty name = true ∧ World.var? Tryz.prog W "errors.errorType" = some #[Value.iface u (Value.agg #[typeHandle Tryz.prog ty])] := h2.2 _ (List.mem_singleton.2 rfl)
    have f1 : (Rows.laid_errors_errorType : DataW Unit).handleName? = some [101, 114, 114, 111, 114] := by kernel_rfl
    have f2 : Option.map (fun x => x.snd) (Array.find? (fun x => x.fst == "internal/reflectlite.rtype") Tryz.prog.cutTypes) = some 193 := by kernel_rfl
    obtain rfl := Option.some.inj (f1.symm.trans e1)
    obtain rfl := Option.some.inj (f2.symm.trans e2)
    obtain rfl := err_row ty e3 e4
    exact ety_of_var e5
set_option maxRecDepth 100000 in
theorem door_met (os : Os) (args : Array Value) : laidMetH Tryz.prog Rows.parseWrapsRow.laid ((World.doorLaid Tryz.prog 400 os).forCall (fun _ _ => 0) ⟨#[], args, []⟩).memory :=
  laidMetH_of_parts3 (fuel := 8) (laidMet_of_run' 8 zK zK) zK zK
structure PK where
 a:Option Addr
 c:Nat
 T:List Tk
 be:Int
 ba:Int
 /-- The text is too long. -/
 lg:Bool
structure Pr (w:World) (b:Nat) (K:PK) (i:Nat) (e p:Int) (t:Bool):Prop where
 h:w.heap[b]? = some (.cells #[.slice K.a K.T.length K.c,zI K.be,zI K.ba,zI i,zI e,zI p,.bool t] 96 (0,0))
 l:i≤K.T.length
 m:K.T.length≤1000000
 z:K.lg=true→e=110∧p=0∧t=true
 r:∀ j (hj:j < K.T.length),∃ G o,K.a=some ⟨G,o,none⟩∧G≠b∧TkC w G (o+j * 5) K.T[j]
theorem Pr.hid {w:World}{b:Nat}{K:PK}{i:Nat}{e p:Int}{t:Bool}(h:Pr w b K i e p t):Hid (Pr w b K i e p t):=h
theorem Pr.lt {w:World}{b:Nat}{K:PK}{i:Nat}{e p:Int}{t:Bool}(h:Pr w b K i e p t):b < w§:=(Array.getElem?_eq_some_iff.1 h.h).1
theorem Pr.new {w w':World}{b:Nat}{K:PK}{i:Nat}{e p:Int}{t:Bool}(h:Pr w b K i e p t) (k:∀ c,c≠b→c < w§→w'.heap[c]? = w.heap[c]?) {i':Nat}{e' p':Int}{t':Bool}(hl:i'≤K.T.length) (hz:K.lg=true→e'=110∧p'=0∧t'=true) (hh:w'.heap[b]? = some (.cells #[.slice K.a K.T.length K.c,zI K.be,zI K.ba,zI i',zI e',zI p',.bool t'] 96 (0,0))):Pr w' b K i' e' p' t' :=
 ⟨hh,hl,h.m,hz,fun j hj=>by
  obtain⟨G,o,e,hn,ht⟩:=h.r j hj
  exact⟨G,o,e,hn,ht.blk (k G hn ht.lt)⟩⟩
theorem Pr.on {w w':World}{b:Nat}{K:PK}{i:Nat}{e p:Int}{t:Bool}(h:Pr w b K i e p t) (k:Below w§ w w'):Pr w' b K i e p t :=
 h.new (fun c _ hc=>k.block c hc) h.l h.z ((k.block b h.lt).trans h.h)
theorem Pr.blk {w w':World}{b:Nat}{K:PK}{i:Nat}{e p:Int}{t:Bool}(h:Pr w b K i e p t) (k:∀ c,c < w§→w'.heap[c]? = w.heap[c]?):Pr w' b K i e p t :=
 h.new (fun c _ hc=>k c hc) h.l h.z ((k b h.lt).trans h.h)
def Lv (w:World) (b:Nat) (K:PK) (ts:List Tk):Prop:=∃ i p t,Pr w b K i 0 p t∧ts=K.T.drop i
def Dd (w:World) (b:Nat) (K:PK):Ft→Prop
 | .tok no p=>∃ i,Pr w b K i no p false∧no≠0
 | .lex=>∃ e p t,Pr w b K K.T.length e p t∧(e=0∨(e=K.be∧p=K.ba∧t=true)∨K.lg=true)
theorem Lv.hid {w:World}{b:Nat}{K:PK}{ts:List Tk}(h:Lv w b K ts):Hid (Lv w b K ts):=h
theorem Dd.hid {w:World}{b:Nat}{K:PK}{f:Ft}(h:Dd w b K f):Hid (Dd w b K f):=h
theorem Lv.on {w w':World}{b:Nat}{K:PK}{ts:List Tk}(h:Lv w b K ts) (k:Below w§ w w'):Lv w' b K ts:=by
 obtain⟨i,p,t,h1,h2⟩:=h
 exact⟨i,p,t,h1.on k,h2⟩
theorem Dd.on {w w':World}{b:Nat}{K:PK}{f:Ft}(h:Dd w b K f) (k:Below w§ w w'):Dd w' b K f:=by
 cases f with
 | tok no p=>obtain⟨i,h1,h2⟩:=h; exact⟨i,h1.on k,h2⟩
 | lex=>obtain⟨e,p,t,h1,h2⟩:=h; exact⟨e,p,t,h1.on k,h2⟩
theorem Lv.blk {w w':World}{b:Nat}{K:PK}{ts:List Tk}(h:Lv w b K ts) (k:∀ c,c < w§→w'.heap[c]? = w.heap[c]?):Lv w' b K ts:=by
 obtain⟨i,p,t,h1,h2⟩:=h
 exact⟨i,p,t,h1.blk k,h2⟩
theorem Dd.blk {w w':World}{b:Nat}{K:PK}{f:Ft}(h:Dd w b K f) (k:∀ c,c < w§→w'.heap[c]? = w.heap[c]?):Dd w' b K f:=by
 cases f with
 | tok no p=>obtain⟨i,h1,h2⟩:=h; exact⟨i,h1.blk k,h2⟩
 | lex=>obtain⟨e,p,t,h1,h2⟩:=h; exact⟨e,p,t,h1.blk k,h2⟩
theorem Lv.lt {w:World}{b:Nat}{K:PK}{ts:List Tk}(h:Lv w b K ts):b < w§:=by
 obtain⟨i,p,t,h1,h2⟩:=h
 exact h1.lt
theorem Dd.lt {w:World}{b:Nat}{K:PK}{f:Ft}(h:Dd w b K f):b < w§:=by
 cases f with
 | tok no p=>obtain⟨i,h1,h2⟩:=h; exact h1.lt
 | lex=>obtain⟨e,p,t,h1,h2⟩:=h; exact h1.lt
theorem Lv.end {w:World}{b:Nat}{K:PK}(h:Lv w b K []):Dd w b K .lex:=by
 obtain⟨i,p,t,h1,h2⟩:=h
 have hl:=h1.l
 have:i=K.T.length:=by
  have:=congrArg List.length h2
  simp at this
  omega
 subst this
 exact⟨0,p,t,h1,.inl rfl⟩
theorem over_no {w:World}{b:Nat}{K:PK}{i:Nat}{p:Int}{t:Bool}(h:Pr w b K i 0 p t) :
  Calls zG 29 #[zP b] w fun e w'=>e=.returned (.bool false)∧w'=w:=by
 have c4:w.cell? ⟨b,4,none⟩=some (zI 0):=Co h.h 4
 clear h
 go_enter Tryz.func29,Tryz.ntmps29
 go_wp2_with fail
 go_ret
 exact⟨rfl,rfl⟩
theorem over_yes {w:World}{b:Nat}{K:PK}{i:Nat}{e p:Int}{t:Bool}(h:Pr w b K i e p t) (he:e≠0) :
  Calls zG 29 #[zP b] w fun e w'=>e=.returned (.bool true)∧w'=w:=by
 have c4:w.cell? ⟨b,4,none⟩=some (zI e):=Co h.h 4
 clear h
 go_enter Tryz.func29,Tryz.ntmps29
 go_wp2_with fail
 go_ret
 exact⟨by show Ending.returned (.bool (e != 0))=_; rw [bne_iff_ne.2 he],rfl⟩
theorem now_over {w:World}{b:Nat}{K:PK}{i:Nat}{e p:Int}{t:Bool}(h:Pr w b K i e p t) (he:e≠0) :
  Calls zG 92 #[zP b] w fun e w'=>e=.returned (.agg (tkA tk0))∧Below w§ w w':=by
 have HP:=(h.on (Bn w (.cells (tkA tk0) 82))).hid
 have HB:Hid (Below w§ w (w.alloc (.cells (tkA tk0) 82))):=Bn _ _
 have HN:Hid ((w.alloc (.cells (tkA tk0) 82)).heap[w§]? = some (.cells (tkA tk0) 82 (0,0))):=Hn _ _
 clear h
 unfold tkA tk0 at HP HB HN
 go_enter Tryz.func92,Tryz.ntmps92
 go_upto_region 1 with fail
 obtain⟨W,eW⟩:∃ W,w.alloc (.cells zA10 82)=W:=⟨_,rfl⟩
 rw [eW] at HP HB HN ⊢
 clear eW
 go_quiet ((go_at_call 29; refine Calls.quiet_of_same (over_yes (HP.out.blk (fun _ _=>rfl)) he)))
 obtain⟨V,eV⟩:∃ V,W.drewN nq=V:=⟨_,rfl⟩
 have hV0:V.heap[w§]? = some (.cells zA10 82 (0,0)):=by rw [← eV]; exact HN.out
 have HBV:Hid (Below w§ w V):=by
  have h1:=HB.out
  rw [← eV]
  exact⟨h1.os,h1.tape,h1.output,h1.size,h1.block⟩
 rw [eV]
 clear eV HP
 obtain⟨z0,z1,z2,z3,z4⟩:=cl5 hV0
 obtain⟨q0,q1,q2,q3,q4⟩:=fz5 hV0
 have HV0:=hV0
 clear hV0
 have HV0:=zH HV0
 go_wp2_with fail
 exact bodyPost_ret (results_cell_row rfl _ _ w§ 82 (tkA tk0) (0,0) _ rfl (put5 HV0.out _ _ _ _ _) Tryz.underlying82 rfl zK) rfl ⟨rfl,(mv5 (F:=fun _=>False) (Mv.ofBelow HBV.out) (Nat.le_refl _) _ _ _ _ _).below (Nat.le_refl _) (fun _ e=>e.elim)⟩
theorem now_none {w:World}{b:Nat}{K:PK}{p:Int}{t:Bool}(h:Pr w b K K.T.length 0 p t) :
  Calls zG 92 #[zP b] w fun e w'=>e=.returned (.agg (tkA tk0))∧Below w§ w w':=by
 have HP:=(h.on (Bn w (.cells (tkA tk0) 82))).hid
 have HB:Hid (Below w§ w (w.alloc (.cells (tkA tk0) 82))):=Bn _ _
 have HN:Hid ((w.alloc (.cells (tkA tk0) 82)).heap[w§]? = some (.cells (tkA tk0) 82 (0,0))):=Hn _ _
 clear h
 unfold tkA tk0 at HP HB HN
 go_enter Tryz.func92,Tryz.ntmps92
 go_upto_region 1 with fail
 obtain⟨W,eW⟩:∃ W,w.alloc (.cells zA10 82)=W:=⟨_,rfl⟩
 rw [eW] at HP HB HN ⊢
 clear eW
 have c0:W.cell? ⟨b,0,none⟩=some (.slice K.a K.T.length K.c):=Co HP.out.h 0
 have c3:W.cell? ⟨b,3,none⟩=some (zI K.T.length):=Co HP.out.h 3
 go_quiet ((go_at_call 29; refine Calls.quiet_of_same (over_no (HP.out.blk (fun _ _=>rfl)))))
 obtain⟨V,eV⟩:∃ V,W.drewN nq=V:=⟨_,rfl⟩
 have hV0:V.heap[w§]? = some (.cells zA10 82 (0,0)):=by rw [← eV]; exact HN.out
 have HBV:Hid (Below w§ w V):=by
  have h1:=HB.out
  rw [← eV]
  exact⟨h1.os,h1.tape,h1.output,h1.size,h1.block⟩
 rw [eV]
 clear eV HP c0 c3
 obtain⟨z0,z1,z2,z3,z4⟩:=cl5 hV0
 obtain⟨q0,q1,q2,q3,q4⟩:=fz5 hV0
 have HV0:=hV0
 clear hV0
 have HV0:=zH HV0
 go_wp2_with fail
 exact bodyPost_ret (results_cell_row rfl _ _ w§ 82 (tkA tk0) (0,0) _ rfl (put5 HV0.out _ _ _ _ _) Tryz.underlying82 rfl zK) rfl ⟨rfl,(mv5 (F:=fun _=>False) (Mv.ofBelow HBV.out) (Nat.le_refl _) _ _ _ _ _).below (Nat.le_refl _) (fun _ e=>e.elim)⟩
theorem now_live {w:World}{b:Nat}{K:PK}{i:Nat}{p:Int}{t:Bool}{tk:Tk}(h:Pr w b K i 0 p t) (hg:K.T[i]? = some tk) :
  Calls zG 92 #[zP b] w fun e w'=>e=.returned (.agg (tkA tk))∧Below w§ w w':=by
 obtain⟨hi,etk⟩:=List.getElem?_eq_some_iff.1 hg
 clear hg
 obtain⟨G,o,ea,hn,ht⟩:=h.r i hi
 rw [etk] at ht
 have hGw:=ht.lt
 have hbw:=h.lt
 have HTK:=zH ht
 clear ht etk
 have HP:=(h.on (Bn w (.cells (tkA tk0) 82))).hid
 have HB:Hid (Below w§ w (w.alloc (.cells (tkA tk0) 82))):=Bn _ _
 have HN:Hid ((w.alloc (.cells (tkA tk0) 82)).heap[w§]? = some (.cells (tkA tk0) 82 (0,0))):=Hn _ _
 clear h
 unfold tkA tk0 at HP HB HN
 go_enter Tryz.func92,Tryz.ntmps92
 go_upto_region 1 with fail
 obtain⟨W,eW⟩:∃ W,w.alloc (.cells zA10 82)=W:=⟨_,rfl⟩
 rw [eW] at HP HB HN ⊢
 clear eW
 have c0:W.cell? ⟨b,0,none⟩=some (.slice K.a K.T.length K.c):=Co HP.out.h 0
 have c3:W.cell? ⟨b,3,none⟩=some (zI i):=Co HP.out.h 3
 have hd:¬ (K.T.length:Int)≤(i:Int):=by omega
 have hd':decide ((K.T.length:Int)≤(i:Int))=false:=decide_eq_false hd
 go_quiet ((go_at_call 29; refine Calls.quiet_of_same (over_no (HP.out.blk (fun _ _=>rfl)))))
 obtain⟨V,eV⟩:∃ V,W.drewN nq=V:=⟨_,rfl⟩
 have hV0:V.heap[w§]? = some (.cells zA10 82 (0,0)):=by rw [← eV]; exact HN.out
 have HBV:Hid (Below w§ w V):=by
  have h1:=HB.out
  rw [← eV]
  exact⟨h1.os,h1.tape,h1.output,h1.size,h1.block⟩
 rw [eV]
 clear c0 c3
 have HPV:=(HP.out.blk (w':=V) (fun _ _=>by rw [← eV]; rfl)).hid
 clear eV HP
 obtain⟨y0,y1,y2,y3,y4⟩:=HTK.out.blk (HBV.out.block G hGw)
 have c0:V.cell? ⟨b,0,none⟩=some (.slice (some ⟨G,o,none⟩) K.T.length K.c):=by rw [← ea]; exact Co HPV.out.h 0
 have c3:V.cell? ⟨b,3,none⟩=some (zI i):=Co HPV.out.h 3
 have hi':(i:Int) < (K.T.length:Int):=by omega
 clear ea
 go_upto_region 3 with fail
 have HKP:Hid (∀ v,Mv V v (fun k=>k=w§)→v.cell? ⟨b,0,none⟩=some (.slice (some ⟨G,o,none⟩) K.T.length K.c)∧v.cell? ⟨b,3,none⟩=some (zI i)∧v.cell? ⟨G,o+i * 5,none⟩=some (zU tk.k)∧v.cell? ⟨G,o+i * 5+1,none⟩=some (.string tk.x)∧v.cell? ⟨G,o+i * 5+2,none⟩=some (zU tk.ty)∧v.cell? ⟨G,o+i * 5+3,none⟩=some (zI tk.n)∧v.cell? ⟨G,o+i * 5+4,none⟩=some (zI tk.p)):=fun v hv=>by
  have h0:=hv.block b (World.block_lt_of_cell? V _ c0) (by omega)
  have h1:=hv.block G (World.block_lt_of_cell? V _ y0) (by omega)
  exact⟨(World.cell?_of_block h0).trans c0,(World.cell?_of_block h0).trans c3,(World.cell?_of_block h1).trans y0,(World.cell?_of_block h1).trans y1,(World.cell?_of_block h1).trans y2,(World.cell?_of_block h1).trans y3,(World.cell?_of_block h1).trans y4⟩
 clear c0 c3 y0 y1 y2 y3 y4
 have HW:=zH hV0
 clear hV0
 refine wp_region_held_drew (S:=fun v=>Mv V v (fun k=>k=w§)) zK ((Mv.refl _ _).drew) (fun hHeld=>?_)
 refine wpAnyH_take (i:=0) (v:=?_) rfl zK zK zK (fun _ _ _ h=>h) (Or.inl ⟨by rfl,?_⟩) (by assumption) ?_
 rotate_left
 ·(intro v hv; obtain⟨c0,c3,y0,y1,y2,y3,y4⟩:=HKP.out v hv; go_simp; try (with_reducible rfl))
 try simp [Act.put]
 refine wpAnyH_take (i:=1) (v:=?_) rfl zK zK zK (fun _ _ _ h=>h) (Or.inl ⟨by rfl,?_⟩) (by assumption) ?_
 rotate_left
 ·(intro v hv; obtain⟨c0,c3,y0,y1,y2,y3,y4⟩:=HKP.out v hv; go_simp; try (with_reducible rfl))
 try simp [Act.put]
 refine wpAnyH_take (i:=2) (v:=?_) rfl zK zK zK (fun _ _ _ h=>h) (Or.inl ⟨by rfl,?_⟩) (by assumption) ?_
 rotate_left
 ·(intro v hv; obtain⟨c0,c3,y0,y1,y2,y3,y4⟩:=HKP.out v hv; go_simp; try (with_reducible rfl))
 try simp [Act.put]
 refine wpAnyH_take (i:=3) (v:=?_) rfl zK zK zK (fun _ _ _ h=>h) (Or.inl ⟨by rfl,?_⟩) (by assumption) ?_
 rotate_left
 ·(intro v hv; obtain⟨c0,c3,y0,y1,y2,y3,y4⟩:=HKP.out v hv; go_simp; try (with_reducible rfl))
 try simp [Act.put]
 refine wpAnyH_take (i:=4) (v:=?_) rfl zK zK zK (fun _ _ _ h=>h) (Or.inl ⟨by rfl,?_⟩) (by assumption) ?_
 rotate_left
 ·(intro v hv; obtain⟨c0,c3,y0,y1,y2,y3,y4⟩:=HKP.out v hv; go_simp; try (with_reducible rfl))
 try simp [Act.put]
 refine wpAnyH_take (i:=5) (v:=?_) rfl zK zK zK (fun _ _ _ h=>h) (Or.inl ⟨by rfl,?_⟩) (by assumption) ?_
 rotate_left
 ·(intro v hv; obtain⟨c0,c3,y0,y1,y2,y3,y4⟩:=HKP.out v hv; go_simp; try (with_reducible rfl))
 try simp [Act.put]
 refine wpAnyH_take (i:=6) (v:=?_) rfl zK zK zK (fun _ _ _ h=>h) (Or.inl ⟨by rfl,?_⟩) (by assumption) ?_
 rotate_left
 ·(intro v hv; obtain⟨c0,c3,y0,y1,y2,y3,y4⟩:=HKP.out v hv; go_simp; try (with_reducible rfl))
 try simp [Act.put]
 refine wpAnyH_take (i:=7) (v:=?_) rfl zK zK zK (fun _ _ _ h=>h) (Or.inl ⟨by rfl,?_⟩) (by assumption) ?_
 rotate_left
 ·(intro v hv; obtain⟨c0,c3,y0,y1,y2,y3,y4⟩:=HKP.out v hv; go_simp; try (with_reducible rfl))
 try simp [Act.put]
 refine wpAnyH_take (i:=8) (v:=?_) rfl zK zK zK (fun _ _ _ h=>h) (Or.inl ⟨by rfl,?_⟩) (by assumption) ?_
 rotate_left
 ·(intro v hv; obtain⟨c0,c3,y0,y1,y2,y3,y4⟩:=HKP.out v hv; go_simp; try (with_reducible rfl))
 try simp [Act.put]
 refine wpAnyH_take (i:=9) (v:=?_) rfl zK zK zK (fun _ _ _ h=>h) (Or.inl ⟨by rfl,?_⟩) (by assumption) ?_
 rotate_left
 ·(intro v hv; obtain⟨c0,c3,y0,y1,y2,y3,y4⟩:=HKP.out v hv; go_simp; try (with_reducible rfl))
 try simp [Act.put]
 obtain⟨U,eU⟩:∃ U,V.drew=U:=⟨_,rfl⟩
 have hU0:U.heap[w§]? = some (.cells zA10 82 (0,0)):=by rw [← eU]; exact HW.out
 have HMU:Hid (Mv V U (fun k=>k=w§)):=by rw [← eU]; exact (Mv.refl _ _).drew
 have HBU:Hid (Below w§ w U):=by rw [← eU]; exact HBV.out.drew
 rw [eU] at hHeld ⊢
 clear eU
 obtain⟨z0,z1,z2,z3,z4⟩:=cl5 hU0
 obtain⟨q0,q1,q2,q3,q4⟩:=fz5 hU0
 have HU0:=zH hU0
 clear hU0
 refine wpAnyH_ready (rs:=[10]) zK (by simp) ?_
 refine AllReadyH.cons rfl (fun K hK=>?_) AllReadyH.nil
 go_simp
 refine hK.out _ _ (((((HMU.out.setCell (a:=⟨w§,0,none⟩) (.inl rfl) _).setCell (a:=⟨w§,1,none⟩) (.inl rfl) _).setCell (a:=⟨w§,2,none⟩) (.inl rfl) _).setCell (a:=⟨w§,3,none⟩) (.inl rfl) _).setCell (a:=⟨w§,4,none⟩) (.inl rfl) _) (fun hHeld7=>?_)
 clear hK K
 refine wpAnyH_done zK ?_ _
 go_wp2_with fail
 exact bodyPost_ret (results_cell_row rfl _ _ w§ 82 (tkA tk) (0,0) _ rfl (put5 HU0.out _ _ _ _ _) Tryz.underlying82 rfl zK) rfl ⟨rfl,(mv5 (F:=fun _=>False) (Mv.ofBelow HBU.out) (Nat.le_refl _) _ _ _ _ _).below (Nat.le_refl _) (fun _ e=>e.elim)⟩
theorem put3 {w:World}{b:Nat}{a0 a1 a2 a3 a4 a5 a6:Value}(h:w.heap[b]? = some (.cells #[a0,a1,a2,a3,a4,a5,a6] 96 (0,0))) (v4 v5 v6:Value):(((w.setCell ⟨b,4,none⟩ v4).setCell ⟨b,5,none⟩ v5).setCell ⟨b,6,none⟩ v6).heap[b]? = some (.cells #[a0,a1,a2,a3,v4,v5,v6] 96 (0,0)):=by
 have h1:(w.setCell ⟨b,4,none⟩ v4).heap[b]? = some (.cells #[a0,a1,a2,a3,v4,a5,a6] 96 (0,0)):=Hs0 v4 h
 have h2:((w.setCell ⟨b,4,none⟩ v4).setCell ⟨b,5,none⟩ v5).heap[b]? = some (.cells #[a0,a1,a2,a3,v4,v5,a6] 96 (0,0)):=Hs0 v5 h1
 exact Hs0 v6 h2
theorem oth3 (w:World) {b c:Nat}(h:c≠b) (v4 v5 v6:Value):(((w.setCell ⟨b,4,none⟩ v4).setCell ⟨b,5,none⟩ v5).setCell ⟨b,6,none⟩ v6).heap[c]? = w.heap[c]?:=by
 iterate 3 (refine (Below.heap_setCell _ _ _ _ (show c≠b from h)).trans ?_)
 rfl
theorem mv3 {w0 w:World}{b:Nat}(m:Mv w0 w (fun k=>k=b)) (v4 v5 v6:Value):Mv w0 (((w.setCell ⟨b,4,none⟩ v4).setCell ⟨b,5,none⟩ v5).setCell ⟨b,6,none⟩ v6) (fun k=>k=b) :=
 ((m.setCell (a:=⟨b,4,none⟩) (.inl rfl) v4).setCell (a:=⟨b,5,none⟩) (.inl rfl) v5).setCell (a:=⟨b,6,none⟩) (.inl rfl) v6
theorem wrong_over {w:World}{b:Nat}{K:PK}{i:Nat}{e p:Int}{t:Bool}(h:Pr w b K i e p t) (he:e≠0) (no:Int) :
  Calls zG 81 #[zP b,zI no] w fun e w'=>e=.returned (.tuple #[])∧w'=w:=by
 have cO:=over_yes h he
 clear h
 go_enter Tryz.func81,Tryz.ntmps81
 go_wp2_with fail
 refine cO.mono ?_
 rintro e w1 ⟨rfl,rfl⟩
 go_wp2_with fail
 exact bodyPost_ret (results_none rfl _ _ _) rfl ⟨rfl,rfl⟩
theorem wrong_lex {w:World}{b:Nat}{K:PK}{p:Int}{t:Bool}(h:Pr w b K K.T.length 0 p t) (no:Int) :
  Calls zG 81 #[zP b,zI no] w fun e w'=>e=.returned (.tuple #[])∧Pr w' b K K.T.length K.be K.ba true∧Mv w w' (fun k=>k=b):=by
 have cO:=over_no h
 have HP:=h.hid
 have c0:w.cell? ⟨b,0,none⟩=some (.slice K.a K.T.length K.c):=Co h.h 0
 have c3:w.cell? ⟨b,3,none⟩=some (zI K.T.length):=Co h.h 3
 clear h
 go_enter Tryz.func81,Tryz.ntmps81
 go_wp2_with fail
 refine cO.mono ?_
 rintro e w1 ⟨rfl,rfl⟩
 clear cO
 go_upto_region 1 with fail
 go_quiet (fail)
 obtain⟨V,eV⟩:∃ V,w1.drewN nq=V:=⟨_,rfl⟩
 have HPV:=(HP.out.blk (w':=V) (fun _ _=>by rw [← eV]; rfl)).hid
 have HMV:Hid (Mv w1 V (fun k=>k=b)):=by rw [← eV]; exact⟨rfl,rfl,rfl,Nat.le_refl _,fun _ _ _=>rfl⟩
 rw [eV]
 clear eV c0 c3 HP
 have c1:V.cell? ⟨b,1,none⟩=some (zI K.be):=Co HPV.out.h 1
 have c2:V.cell? ⟨b,2,none⟩=some (zI K.ba):=Co HPV.out.h 2
 go_upto_region 2 with fail
 refine wp_region_held_drew (S:=fun v=>v.cell? ⟨b,1,none⟩=some (zI K.be)∧v.cell? ⟨b,2,none⟩=some (zI K.ba)) zK ⟨c1,c2⟩ (fun hHeld=>?_)
 refine wpAnyH_take (i:=0) (v:=?_) rfl zK zK zK (fun _ _ _ h=>h) (Or.inl ⟨by rfl,?_⟩) (by assumption) ?_
 rotate_left
 ·(intro v hv; obtain⟨t1,t2⟩:=hv; go_simp; try (with_reducible rfl))
 try simp [Act.put]
 refine wpAnyH_take (i:=1) (v:=?_) rfl zK zK zK (fun _ _ _ h=>h) (Or.inl ⟨by rfl,?_⟩) (by assumption) ?_
 rotate_left
 ·(intro v hv; obtain⟨t1,t2⟩:=hv; go_simp; try (with_reducible rfl))
 try simp [Act.put]
 refine wpAnyH_take (i:=2) (v:=?_) rfl zK zK zK (fun _ _ _ h=>h) (Or.inl ⟨by rfl,?_⟩) (by assumption) ?_
 rotate_left
 ·(intro v hv; obtain⟨t1,t2⟩:=hv; go_simp; try (with_reducible rfl))
 try simp [Act.put]
 refine wpAnyH_take (i:=3) (v:=?_) rfl zK zK zK (fun _ _ _ h=>h) (Or.inl ⟨by rfl,?_⟩) (by assumption) ?_
 rotate_left
 ·(intro v hv; obtain⟨t1,t2⟩:=hv; go_simp; try (with_reducible rfl))
 try simp [Act.put]
 refine wpAnyH_take (i:=4) (v:=?_) rfl zK zK zK (fun _ _ _ h=>h) (Or.inl ⟨by rfl,?_⟩) (by assumption) ?_
 rotate_left
 ·(intro v hv; obtain⟨t1,t2⟩:=hv; go_simp; try (with_reducible rfl))
 try simp [Act.put]
 refine wpAnyH_take (i:=5) (v:=?_) rfl zK zK zK (fun _ _ _ h=>h) (Or.inl ⟨by rfl,?_⟩) (by assumption) ?_
 rotate_left
 ·(intro v hv; obtain⟨t1,t2⟩:=hv; go_simp; try (with_reducible rfl))
 try simp [Act.put]
 refine wpAnyH_take (i:=6) (v:=?_) rfl zK zK zK (fun _ _ _ h=>h) (Or.inl ⟨by rfl,?_⟩) (by assumption) ?_
 rotate_left
 ·(intro v hv; obtain⟨t1,t2⟩:=hv; go_simp; try (with_reducible rfl))
 try simp [Act.put]
 refine wpAnyH_take (i:=7) (v:=?_) rfl zK zK zK (fun _ _ _ h=>h) (Or.inl ⟨by rfl,?_⟩) (by assumption) ?_
 rotate_left
 ·(intro v hv; obtain⟨t1,t2⟩:=hv; go_simp; try (with_reducible rfl))
 try simp [Act.put]
 refine wpAnyH_take (i:=8) (v:=?_) rfl zK zK zK (fun _ _ _ h=>h) (Or.inl ⟨by rfl,?_⟩) (by assumption) ?_
 rotate_left
 ·(intro v hv; obtain⟨t1,t2⟩:=hv; go_simp; try (with_reducible rfl))
 try simp [Act.put]
 refine wpAnyH_take (i:=9) (v:=?_) rfl zK zK zK (fun _ _ _ h=>h) (Or.inl ⟨by rfl,?_⟩) (by assumption) ?_
 rotate_left
 ·(intro v hv; obtain⟨t1,t2⟩:=hv; go_simp; try (with_reducible rfl))
 try simp [Act.put]
 refine wpAnyH_take (i:=10) (v:=?_) rfl zK zK zK (fun _ _ _ h=>h) (Or.inl ⟨by rfl,?_⟩) (by assumption) ?_
 rotate_left
 ·(intro v hv; obtain⟨t1,t2⟩:=hv; go_simp; try (with_reducible rfl))
 try simp [Act.put]
 refine wpAnyH_take (i:=11) (v:=?_) rfl zK zK zK (fun _ _ _ h=>h) (Or.inl ⟨by rfl,?_⟩) (by assumption) ?_
 rotate_left
 ·(intro v hv; obtain⟨t1,t2⟩:=hv; go_simp; try (with_reducible rfl))
 try simp [Act.put]
 obtain⟨U,eU⟩:∃ U,V.drew=U:=⟨_,rfl⟩
 have HPU:=(HPV.out.blk (w':=U) (fun _ _=>by rw [← eU]; rfl)).hid
 have HMU:Hid (Mv w1 U (fun k=>k=b)):=by rw [← eU]; exact HMV.out.drew
 rw [eU] at hHeld ⊢
 clear eU c1 c2
 have z4:U.cell? ⟨b,4,none⟩=some (zI 0):=Co HPU.out.h 4
 have q4:=Fo HPU.out.h 4
 have z5:U.cell? ⟨b,5,none⟩=some (zI p):=Co HPU.out.h 5
 have q5:=Fo HPU.out.h 5
 have z6:U.cell? ⟨b,6,none⟩=some (.bool t):=Co HPU.out.h 6
 have q6:=Fo HPU.out.h 6
 refine wpAnyH_ready (rs:=[12]) zK (by simp) ?_
 refine AllReadyH.cons rfl (fun K' hK=>?_) AllReadyH.nil
 go_simp
 have hfin:=put3 HPU.out.h (zI K.be) (zI K.ba) (.bool true)
 have HF:Hid (Pr (((U.setCell ⟨b,4,none⟩ (zI K.be)).setCell ⟨b,5,none⟩ (zI K.ba)).setCell ⟨b,6,none⟩ (.bool true)) b K K.T.length K.be K.ba true):=HPU.out.new (fun c hc _=>oth3 _ hc _ _ _) (Nat.le_refl _) (fun hl=>absurd (HPU.out.z hl).1 (by decide)) hfin
 refine hK.out _ _ ⟨Co hfin 1,Co hfin 2⟩ (fun hHeld7=>?_)
 clear hK K' hfin
 refine wpAnyH_done zK ?_ _
 go_wp2_with fail
 exact bodyPost_ret (results_none rfl _ _ _) rfl ⟨rfl,HF.out,mv3 HMU.out _ _ _⟩
theorem wrong_tok {w:World}{b:Nat}{K:PK}{i:Nat}{p:Int}{t:Bool}{tk:Tk}(h:Pr w b K i 0 p t) (hg:K.T[i]? = some tk) (no:Int) :
  Calls zG 81 #[.pointer (some ⟨b, 0, none⟩), zI no] w fun e w' => e = .returned (.tuple #[]) ∧ Pr w' b K i no tk.p false ∧ Mv w w' (fun k => k = b) := by
 have cO:=over_no h
 obtain⟨hi,etk⟩:=List.getElem?_eq_some_iff.1 hg
 clear hg
 obtain⟨G,o,ea,hn,ht⟩:=h.r i hi
 rw [etk] at ht
 have HP:=h.hid
 have HTK:Hid (TkC w G (o+i * 5) tk):=ht
 have c0:w.cell? ⟨b,0,none⟩=some (.slice K.a K.T.length K.c):=Co h.h 0
 have c3:w.cell? ⟨b,3,none⟩=some (zI i):=Co h.h 3
 have hd:¬ (K.T.length:Int)≤(i:Int):=by omega
 have hd':decide ((K.T.length:Int)≤(i:Int))=false:=decide_eq_false hd
 clear h ht etk
 go_enter Tryz.func81,Tryz.ntmps81
 go_wp2_with fail
 refine cO.mono ?_
 rintro e w1 ⟨rfl,rfl⟩
 clear cO
 go_upto_region 1 with fail
 go_quiet (fail)
 obtain⟨V,eV⟩:∃ V,w1.drewN nq=V:=⟨_,rfl⟩
 have HPV:=(HP.out.blk (w':=V) (fun _ _=>by rw [← eV]; rfl)).hid
 have HMV:Hid (Mv w1 V (fun k=>k=b)):=by rw [← eV]; exact⟨rfl,rfl,rfl,Nat.le_refl _,fun _ _ _=>rfl⟩
 have HTV:Hid (TkC V G (o+i * 5) tk):=HTK.out.blk (by rw [← eV]; rfl)
 rw [eV]
 clear eV c0 c3 HP HTK
 have c0:V.cell? ⟨b,0,none⟩=some (.slice (some ⟨G,o,none⟩) K.T.length K.c):=by rw [← ea]; exact Co HPV.out.h 0
 have c3:V.cell? ⟨b,3,none⟩=some (zI i):=Co HPV.out.h 3
 have y4:=HTV.out.c4
 have hi':(i:Int) < (K.T.length:Int):=by omega
 have HEA:Hid (K.a=some ⟨G,o,none⟩):=ea
 clear ea
 go_upto_region 3 with fail
 refine wp_region_held_drew (S:=fun v=>v.cell? ⟨b,0,none⟩=some (.slice (some ⟨G,o,none⟩) K.T.length K.c)∧v.cell? ⟨b,3,none⟩=some (zI i)∧v.cell? ⟨G,o+i * 5+4,none⟩=some (zI tk.p)) zK ⟨c0,c3,y4⟩ (fun hHeld=>?_)
 refine wpAnyH_take (i:=0) (v:=?_) rfl zK zK zK (fun _ _ _ h=>h) (Or.inl ⟨by rfl,?_⟩) (by assumption) ?_
 rotate_left
 ·(intro v hv; obtain⟨t0,t3,t4⟩:=hv; go_simp; try (with_reducible rfl))
 try simp [Act.put]
 refine wpAnyH_take (i:=1) (v:=?_) rfl zK zK zK (fun _ _ _ h=>h) (Or.inl ⟨by rfl,?_⟩) (by assumption) ?_
 rotate_left
 ·(intro v hv; obtain⟨t0,t3,t4⟩:=hv; go_simp; try (with_reducible rfl))
 try simp [Act.put]
 refine wpAnyH_take (i:=2) (v:=?_) rfl zK zK zK (fun _ _ _ h=>h) (Or.inl ⟨by rfl,?_⟩) (by assumption) ?_
 rotate_left
 ·(intro v hv; obtain⟨t0,t3,t4⟩:=hv; go_simp; try (with_reducible rfl))
 try simp [Act.put]
 refine wpAnyH_take (i:=3) (v:=?_) rfl zK zK zK (fun _ _ _ h=>h) (Or.inl ⟨by rfl,?_⟩) (by assumption) ?_
 rotate_left
 ·(intro v hv; obtain⟨t0,t3,t4⟩:=hv; go_simp; try (with_reducible rfl))
 try simp [Act.put]
 refine wpAnyH_take (i:=4) (v:=?_) rfl zK zK zK (fun _ _ _ h=>h) (Or.inl ⟨by rfl,?_⟩) (by assumption) ?_
 rotate_left
 ·(intro v hv; obtain⟨t0,t3,t4⟩:=hv; go_simp; try (with_reducible rfl))
 try simp [Act.put]
 refine wpAnyH_take (i:=5) (v:=?_) rfl zK zK zK (fun _ _ _ h=>h) (Or.inl ⟨by rfl,?_⟩) (by assumption) ?_
 rotate_left
 ·(intro v hv; obtain⟨t0,t3,t4⟩:=hv; go_simp; try (with_reducible rfl))
 try simp [Act.put]
 refine wpAnyH_take (i:=6) (v:=?_) rfl zK zK zK (fun _ _ _ h=>h) (Or.inl ⟨by rfl,?_⟩) (by assumption) ?_
 rotate_left
 ·(intro v hv; obtain⟨t0,t3,t4⟩:=hv; go_simp; try (with_reducible rfl))
 try simp [Act.put]
 refine wpAnyH_take (i:=7) (v:=?_) rfl zK zK zK (fun _ _ _ h=>h) (Or.inl ⟨by rfl,?_⟩) (by assumption) ?_
 rotate_left
 ·(intro v hv; obtain⟨t0,t3,t4⟩:=hv; go_simp; try (with_reducible rfl))
 try simp [Act.put]
 refine wpAnyH_take (i:=8) (v:=?_) rfl zK zK zK (fun _ _ _ h=>h) (Or.inl ⟨by rfl,?_⟩) (by assumption) ?_
 rotate_left
 ·(intro v hv; obtain⟨t0,t3,t4⟩:=hv; go_simp; try (with_reducible rfl))
 try simp [Act.put]
 refine wpAnyH_take (i:=9) (v:=?_) rfl zK zK zK (fun _ _ _ h=>h) (Or.inl ⟨by rfl,?_⟩) (by assumption) ?_
 rotate_left
 ·(intro v hv; obtain⟨t0,t3,t4⟩:=hv; go_simp; try (with_reducible rfl))
 try simp [Act.put]
 refine wpAnyH_take (i:=10) (v:=?_) rfl zK zK zK (fun _ _ _ h=>h) (Or.inl ⟨by rfl,?_⟩) (by assumption) ?_
 rotate_left
 ·(intro v hv; obtain⟨t0,t3,t4⟩:=hv; go_simp; try (with_reducible rfl))
 try simp [Act.put]
 refine wpAnyH_take (i:=11) (v:=?_) rfl zK zK zK (fun _ _ _ h=>h) (Or.inl ⟨by rfl,?_⟩) (by assumption) ?_
 rotate_left
 ·(intro v hv; obtain⟨t0,t3,t4⟩:=hv; go_simp; try (with_reducible rfl))
 try simp [Act.put]
 refine wpAnyH_take (i:=12) (v:=?_) rfl zK zK zK (fun _ _ _ h=>h) (Or.inl ⟨by rfl,?_⟩) (by assumption) ?_
 rotate_left
 ·(intro v hv; obtain⟨t0,t3,t4⟩:=hv; go_simp; try (with_reducible rfl))
 try simp [Act.put]
 refine wpAnyH_take (i:=13) (v:=?_) rfl zK zK zK (fun _ _ _ h=>h) (Or.inl ⟨by rfl,?_⟩) (by assumption) ?_
 rotate_left
 ·(intro v hv; obtain⟨t0,t3,t4⟩:=hv; go_simp; try (with_reducible rfl))
 try simp [Act.put]
 refine wpAnyH_take (i:=14) (v:=?_) rfl zK zK zK (fun _ _ _ h=>h) (Or.inl ⟨by rfl,?_⟩) (by assumption) ?_
 rotate_left
 ·(intro v hv; obtain⟨t0,t3,t4⟩:=hv; go_simp; try (with_reducible rfl))
 try simp [Act.put]
 refine wpAnyH_take (i:=15) (v:=?_) rfl zK zK zK (fun _ _ _ h=>h) (Or.inl ⟨by rfl,?_⟩) (by assumption) ?_
 rotate_left
 ·(intro v hv; obtain⟨t0,t3,t4⟩:=hv; go_simp; try (with_reducible rfl))
 try simp [Act.put]
 obtain⟨U,eU⟩:∃ U,V.drew=U:=⟨_,rfl⟩
 have HPU:=(HPV.out.blk (w':=U) (fun _ _=>by rw [← eU]; rfl)).hid
 have HMU:Hid (Mv w1 U (fun k=>k=b)):=by rw [← eU]; exact HMV.out.drew
 have HTU:Hid (TkC U G (o+i * 5) tk):=HTV.out.blk (by rw [← eU]; rfl)
 rw [eU] at hHeld ⊢
 clear eU c0 c3 y4
 have z4:U.cell? ⟨b,4,none⟩=some (zI 0):=Co HPU.out.h 4
 have q4:=Fo HPU.out.h 4
 have z5:U.cell? ⟨b,5,none⟩=some (zI p):=Co HPU.out.h 5
 have q5:=Fo HPU.out.h 5
 have z6:U.cell? ⟨b,6,none⟩=some (.bool t):=Co HPU.out.h 6
 have q6:=Fo HPU.out.h 6
 refine wpAnyH_ready (rs:=[16]) zK (by simp) ?_
 refine AllReadyH.cons rfl (fun K' hK=>?_) AllReadyH.nil
 go_simp
 have hfin:=put3 HPU.out.h (zI no) (zI tk.p) (.bool false)
 have HF:Hid (Pr (((U.setCell ⟨b,4,none⟩ (zI no)).setCell ⟨b,5,none⟩ (zI tk.p)).setCell ⟨b,6,none⟩ (.bool false)) b K i no tk.p false):=HPU.out.new (fun c hc _=>oth3 _ hc _ _ _) HPU.out.l (fun hl=>absurd (HPU.out.z hl).1 (by decide)) hfin
 refine hK.out _ _ ⟨by rw [← HEA.out]; exact Co hfin 0,Co hfin 3,(HTU.out.blk (oth3 _ hn _ _ _)).c4⟩ (fun hHeld7=>?_)
 clear hK K' hfin
 refine wpAnyH_done zK ?_ _
 go_wp2_with fail
 go_end0
 exact⟨rfl,HF.out,mv3 HMU.out _ _ _⟩
theorem wrong_live {w:World}{b:Nat}{K:PK}{t:Tk}{ts:List Tk}(h:Lv w b K (t :: ts)) (no:Int) (hn:no≠0) :
  Calls zG 81 #[zP b,zI no] w fun e w'=>e=.returned (.tuple #[])∧Dd w' b K (.tok no t.p)∧Mv w w' (fun k=>k=b):=by
 obtain⟨i,p,u,h1,h2⟩:=h
 have hg:K.T[i]? = some t:=by
  have:=congrArg (fun l=>l[0]?) h2
  simp at this
  exact this.symm
 refine (wrong_tok h1 hg no).mono ?_
 rintro e w' ⟨rfl,hp,hm⟩
 exact⟨rfl,⟨i,hp,hn⟩,hm⟩
theorem wrong_dead {w:World}{b:Nat}{K:PK}{f:Ft}(h:Dd w b K f) (no:Int) :
  Calls zG 81 #[zP b,zI no] w fun e w'=>e=.returned (.tuple #[])∧Dd w' b K f∧Mv w w' (fun k=>k=b):=by
 cases f with
 | tok n p =>
  obtain⟨i,h1,h2⟩:=h
  refine (wrong_over h1 h2 no).mono ?_
  rintro e w' ⟨rfl,rfl⟩
  exact⟨rfl,⟨i,h1,h2⟩,Mv.refl _ _⟩
 | lex =>
  obtain⟨e,p,t,h1,h2⟩:=h
  by_cases he:e=0
  ·subst he
   refine (wrong_lex h1 no).mono ?_
   rintro e w' ⟨rfl,hp,hm⟩
   exact⟨rfl,⟨_,_,_,hp,.inr (.inl ⟨rfl,rfl,rfl⟩)⟩,hm⟩
  ·refine (wrong_over h1 he no).mono ?_
   rintro e w' ⟨rfl,rfl⟩
   exact⟨rfl,⟨_,_,_,h1,h2⟩,Mv.refl _ _⟩
theorem live_now {w:World}{b:Nat}{K:PK}{t:Tk}{ts:List Tk}(h:Lv w b K (t :: ts)) :
  Calls zG 92 #[zP b] w fun e w'=>e=.returned (.agg (tkA t))∧Below w§ w w':=by
 obtain⟨i,p,u,h1,h2⟩:=h
 have hg:K.T[i]? = some t:=by
  have:=congrArg (fun l=>l[0]?) h2
  simp at this
  exact this.symm
 exact now_live h1 hg
theorem dead_now {w:World}{b:Nat}{K:PK}{f:Ft}(h:Dd w b K f) :
  Calls zG 92 #[zP b] w fun e w'=>e=.returned (.agg (tkA tk0))∧Below w§ w w':=by
 cases f with
 | tok n p =>
  obtain⟨i,h1,h2⟩:=h
  exact now_over h1 h2
 | lex =>
  obtain⟨e,p,t,h1,h2⟩:=h
  by_cases he:e=0
  ·subst he
   exact now_none h1
  ·exact now_over h1 he
end Go.Proofs.YtkfabnchhjfjjaaGreatDoor
