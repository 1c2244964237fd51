import Derived.Test.YtfbjofnaghjmeaaGreatDoorA0
import Derived.Test.YtfbjofnaghjmeaaGreatDoorA2
import Derived.Test.YtfbjofnaghjmeaaGreatDoorA1
import Derived.Lib.Bytealg
import Derived.LaidLaws
namespace Go.Proofs.YtfbjofnaghjmeaaGreatDoor
set_option maxHeartbeats 4000000
set_option maxRecDepth 100000
open Go.RowKit Go.Extern.Stop Go.Stop Go.Extern
theorem asE1 (n:Int) (t a:Addr) (old:Value) (w:yW) (ha:w.cell? a=some (.pointer (some t))) (ht0:w.cell? t=some old) (hf0:w.frozen? t=false) :
  Calls zG 196 #[.iface 41 (zI n),.iface 222 (.pointer (some t)),.agg #[.pointer (some 4¢222),.pointer (some a),.int .u64 150],.iface 283 (.agg #[.pointer (some 4¢41)])] w fun ev w'=>ev=.returned (.bool true)∧∃ V,yD w V∧w'=V.setCell t (zI n):=by
 have h50:=@run_callFunc_extern Tryz.prog 214 _ ReflectliteType.typeOf Tryz.func214 zK zK zK zK
 have h93:=@run_callFunc_extern Tryz.prog 193 _ (fun args=>ReflectliteValue.unpack (args.getD 0 (.tuple #[]))) Tryz.func193 zK zK zK zK
 have h118 := @run_callFunc_extern Tryz.prog 215 _ (ReflectliteValue.method (ReflectliteValue.valueError "reflectlite.Value.Elem" 0) ReflectliteValue.elem) Tryz.func215 zK zK zK zK
 have h119:=@run_callFunc_extern Tryz.prog 216 _ ReflectliteValue.set Tryz.func216 zK zK zK zK
 have h221 := @run_callFunc_extern Tryz.prog 281 _ (ReflectliteType.relation "AssignableTo" ReflectliteType.assignableTo) Tryz.func281 zK zK zK zK
 have mA:=mtAsg
 have tO:=tOf48
 have a48:=asg48_48
 have v48:=vOf48
 have b1:=below_new w (.cells #[.pointer (some 4¢222),.pointer (some a),.int .u64 150] 259)
 have s1:=size_alloc w (.cells #[.pointer (some 4¢222),.pointer (some a),.int .u64 150] 259)
 have b2:=below_new (w.alloc (.cells #[.pointer (some 4¢222),.pointer (some a),.int .u64 150] 259)) (.cells #[zI n] 41)
 have n2:=heap_new (w.alloc (.cells #[.pointer (some 4¢222),.pointer (some a),.int .u64 150] 259)) (.cells #[zI n] 41)
 have HBB:Hid (yD w ((w.alloc (.cells #[.pointer (some 4¢222),.pointer (some a),.int .u64 150] 259)).alloc (.cells #[zI n] 41))):=below2 b1 b2
 have el:=elv161 a t (w.alloc (.cells #[.pointer (some 4¢222),.pointer (some a),.int .u64 150] 259)) (by rw [World.cell?_alloc_lt _ _ a (World.block_lt_of_cell? w a ha)]; exact ha)
 have st:=set48 t ⟨w§+1,0,none⟩ n old ((w.alloc (.cells #[.pointer (some 4¢222),.pointer (some a),.int .u64 150] 259)).alloc (.cells #[zI n] 41)) (by rw [s1] at n2; exact cell_of n2 0)
  (by rw [World.cell?_alloc_lt _ _ t (by rw [s1]; exact Nat.lt_succ_of_lt (World.block_lt_of_cell? w t ht0)),World.cell?_alloc_lt _ _ t (World.block_lt_of_cell? w t ht0)]; exact ht0)
  (by rw [World.frozen?_alloc_old _ _ t (by rw [s1]; have:=World.block_lt_of_cell? w t ht0; omega),World.frozen?_alloc_old _ _ t (Nat.ne_of_lt (World.block_lt_of_cell? w t ht0))]; exact hf0)
 clear b1 s1 b2 n2
 go_enter Tryz.func196,Tryz.ntmps196
 go_wp2
 refine wp_loop_rounds 1 ?_
 rw [rounds_succ]
 go_wp2
 go_ret
 exact⟨rfl,_,HBB.out,rfl⟩
theorem asE2 (F:Nat) (call:yB) (at':Int) (n:Int) (t a:Addr) (old:Value) (w:yW) (ha:w.cell? a=some (.pointer (some t))) (ht0:w.cell? t=some old) (hf0:w.frozen? t=false) (hF:w.heap[F]? = (zC #[.string call,zI at',.iface 41 (zI n)] 186)) :
  Calls zG 196 #[.iface 184 (zP F),.iface 222 (.pointer (some t)),.agg #[.pointer (some 4¢222),.pointer (some a),.int .u64 150],.iface 283 (.agg #[.pointer (some 4¢41)])] w fun ev w'=>ev=.returned (.bool true)∧∃ V,yD w V∧w'=V.setCell t (zI n):=by
 have h50:=@run_callFunc_extern Tryz.prog 214 _ ReflectliteType.typeOf Tryz.func214 zK zK zK zK
 have h93:=@run_callFunc_extern Tryz.prog 193 _ (fun args=>ReflectliteValue.unpack (args.getD 0 (.tuple #[]))) Tryz.func193 zK zK zK zK
 have h118 := @run_callFunc_extern Tryz.prog 215 _ (ReflectliteValue.method (ReflectliteValue.valueError "reflectlite.Value.Elem" 0) ReflectliteValue.elem) Tryz.func215 zK zK zK zK
 have h119:=@run_callFunc_extern Tryz.prog 216 _ ReflectliteValue.set Tryz.func216 zK zK zK zK
 have h221 := @run_callFunc_extern Tryz.prog 281 _ (ReflectliteType.relation "AssignableTo" ReflectliteType.assignableTo) Tryz.func281 zK zK zK zK
 have mA:=mtAsg
 have mU:=mtUn
 have tO7:=tOf74
 have a74:=asg74_48
 have n74:=no74_As
 have i74:=is74_Un
 have b1:=below_new w (.cells #[.pointer (some 4¢222),.pointer (some a),.int .u64 150] 259)
 have c1:(w.alloc (.cells #[.pointer (some 4¢222),.pointer (some a),.int .u64 150] 259)).cell? F¢2=some _:=cell_of ((b1.block _ (zJ hF).1).trans hF) 2
 have tO:=tOf48
 have a48:=asg48_48
 have v48:=vOf48
 have s1:=size_alloc w (.cells #[.pointer (some 4¢222),.pointer (some a),.int .u64 150] 259)
 have b2:=below_new (w.alloc (.cells #[.pointer (some 4¢222),.pointer (some a),.int .u64 150] 259)) (.cells #[zI n] 41)
 have n2:=heap_new (w.alloc (.cells #[.pointer (some 4¢222),.pointer (some a),.int .u64 150] 259)) (.cells #[zI n] 41)
 have HBB:Hid (yD w ((w.alloc (.cells #[.pointer (some 4¢222),.pointer (some a),.int .u64 150] 259)).alloc (.cells #[zI n] 41))):=below2 b1 b2
 have el:=elv161 a t (w.alloc (.cells #[.pointer (some 4¢222),.pointer (some a),.int .u64 150] 259)) (by rw [World.cell?_alloc_lt _ _ a (World.block_lt_of_cell? w a ha)]; exact ha)
 have st:=set48 t ⟨w§+1,0,none⟩ n old ((w.alloc (.cells #[.pointer (some 4¢222),.pointer (some a),.int .u64 150] 259)).alloc (.cells #[zI n] 41)) (by rw [s1] at n2; exact cell_of n2 0)
  (by rw [World.cell?_alloc_lt _ _ t (by rw [s1]; exact Nat.lt_succ_of_lt (World.block_lt_of_cell? w t ht0)),World.cell?_alloc_lt _ _ t (World.block_lt_of_cell? w t ht0)]; exact ht0)
  (by rw [World.frozen?_alloc_old _ _ t (by rw [s1]; have:=World.block_lt_of_cell? w t ht0; omega),World.frozen?_alloc_old _ _ t (Nat.ne_of_lt (World.block_lt_of_cell? w t ht0))]; exact hf0)
 clear b1 s1 b2 n2 hF
 go_enter Tryz.func196,Tryz.ntmps196
 go_wp2
 refine wp_loop_rounds 2 ?_
 rw [rounds_succ]
 go_wp2
 rw [rounds_succ]
 go_wp2
 go_ret
 exact⟨rfl,_,HBB.out,rfl⟩
theorem asE3 (F:Nat) (call:yB) (at':Int) (G:Nat) (call2:yB) (at2:Int) (n:Int) (t a:Addr) (old:Value) (w:yW) (ha:w.cell? a=some (.pointer (some t))) (ht0:w.cell? t=some old) (hf0:w.frozen? t=false) (hF:w.heap[F]? = (zC #[.string call,zI at',.iface 184 (zP G)] 186)) (hG:w.heap[G]? = (zC #[.string call2,zI at2,.iface 41 (zI n)] 186)) :
  Calls zG 196 #[.iface 184 (zP F),.iface 222 (.pointer (some t)),.agg #[.pointer (some 4¢222),.pointer (some a),.int .u64 150],.iface 283 (.agg #[.pointer (some 4¢41)])] w fun ev w'=>ev=.returned (.bool true)∧∃ V,yD w V∧w'=V.setCell t (zI n):=by
 have h50:=@run_callFunc_extern Tryz.prog 214 _ ReflectliteType.typeOf Tryz.func214 zK zK zK zK
 have h93:=@run_callFunc_extern Tryz.prog 193 _ (fun args=>ReflectliteValue.unpack (args.getD 0 (.tuple #[]))) Tryz.func193 zK zK zK zK
 have h118 := @run_callFunc_extern Tryz.prog 215 _ (ReflectliteValue.method (ReflectliteValue.valueError "reflectlite.Value.Elem" 0) ReflectliteValue.elem) Tryz.func215 zK zK zK zK
 have h119:=@run_callFunc_extern Tryz.prog 216 _ ReflectliteValue.set Tryz.func216 zK zK zK zK
 have h221 := @run_callFunc_extern Tryz.prog 281 _ (ReflectliteType.relation "AssignableTo" ReflectliteType.assignableTo) Tryz.func281 zK zK zK zK
 have mA:=mtAsg
 have mU:=mtUn
 have tO7:=tOf74
 have a74:=asg74_48
 have n74:=no74_As
 have i74:=is74_Un
 have b1:=below_new w (.cells #[.pointer (some 4¢222),.pointer (some a),.int .u64 150] 259)
 have c1:(w.alloc (.cells #[.pointer (some 4¢222),.pointer (some a),.int .u64 150] 259)).cell? F¢2=some _:=cell_of ((b1.block _ (zJ hF).1).trans hF) 2
 have c2:(w.alloc (.cells #[.pointer (some 4¢222),.pointer (some a),.int .u64 150] 259)).cell? G¢2=some _:=cell_of ((b1.block _ (zJ hG).1).trans hG) 2
 have tO:=tOf48
 have a48:=asg48_48
 have v48:=vOf48
 have s1:=size_alloc w (.cells #[.pointer (some 4¢222),.pointer (some a),.int .u64 150] 259)
 have b2:=below_new (w.alloc (.cells #[.pointer (some 4¢222),.pointer (some a),.int .u64 150] 259)) (.cells #[zI n] 41)
 have n2:=heap_new (w.alloc (.cells #[.pointer (some 4¢222),.pointer (some a),.int .u64 150] 259)) (.cells #[zI n] 41)
 have HBB:Hid (yD w ((w.alloc (.cells #[.pointer (some 4¢222),.pointer (some a),.int .u64 150] 259)).alloc (.cells #[zI n] 41))):=below2 b1 b2
 have el:=elv161 a t (w.alloc (.cells #[.pointer (some 4¢222),.pointer (some a),.int .u64 150] 259)) (by rw [World.cell?_alloc_lt _ _ a (World.block_lt_of_cell? w a ha)]; exact ha)
 have st:=set48 t ⟨w§+1,0,none⟩ n old ((w.alloc (.cells #[.pointer (some 4¢222),.pointer (some a),.int .u64 150] 259)).alloc (.cells #[zI n] 41)) (by rw [s1] at n2; exact cell_of n2 0)
  (by rw [World.cell?_alloc_lt _ _ t (by rw [s1]; exact Nat.lt_succ_of_lt (World.block_lt_of_cell? w t ht0)),World.cell?_alloc_lt _ _ t (World.block_lt_of_cell? w t ht0)]; exact ht0)
  (by rw [World.frozen?_alloc_old _ _ t (by rw [s1]; have:=World.block_lt_of_cell? w t ht0; omega),World.frozen?_alloc_old _ _ t (Nat.ne_of_lt (World.block_lt_of_cell? w t ht0))]; exact hf0)
 clear b1 s1 b2 n2 hF hG
 go_enter Tryz.func196,Tryz.ntmps196
 go_wp2
 refine wp_loop_rounds 3 ?_
 rw [rounds_succ]
 go_wp2
 rw [rounds_succ]
 go_wp2
 rw [rounds_succ]
 go_wp2
 go_ret
 exact⟨rfl,_,HBB.out,rfl⟩
theorem asN1 (F:Nat) (call:yB) (at':Int)  (t a:Addr) (w:yW) (hF:w.heap[F]? = (zC #[.string call,zI at',.nilIface] 186)) :
  Calls zG 196 #[.iface 184 (zP F),.iface 222 (.pointer (some t)),.agg #[.pointer (some 4¢222),.pointer (some a),.int .u64 150],.iface 283 (.agg #[.pointer (some 4¢41)])] w fun ev w'=>ev=.returned (.bool false)∧yD w w':=by
 have h50:=@run_callFunc_extern Tryz.prog 214 _ ReflectliteType.typeOf Tryz.func214 zK zK zK zK
 have h93:=@run_callFunc_extern Tryz.prog 193 _ (fun args=>ReflectliteValue.unpack (args.getD 0 (.tuple #[]))) Tryz.func193 zK zK zK zK
 have h118 := @run_callFunc_extern Tryz.prog 215 _ (ReflectliteValue.method (ReflectliteValue.valueError "reflectlite.Value.Elem" 0) ReflectliteValue.elem) Tryz.func215 zK zK zK zK
 have h119:=@run_callFunc_extern Tryz.prog 216 _ ReflectliteValue.set Tryz.func216 zK zK zK zK
 have h221 := @run_callFunc_extern Tryz.prog 281 _ (ReflectliteType.relation "AssignableTo" ReflectliteType.assignableTo) Tryz.func281 zK zK zK zK
 have mA:=mtAsg
 have mU:=mtUn
 have tO7:=tOf74
 have a74:=asg74_48
 have n74:=no74_As
 have i74:=is74_Un
 have b1:=below_new w (.cells #[.pointer (some 4¢222),.pointer (some a),.int .u64 150] 259)
 have c1:(w.alloc (.cells #[.pointer (some 4¢222),.pointer (some a),.int .u64 150] 259)).cell? F¢2=some _:=cell_of ((b1.block _ (zJ hF).1).trans hF) 2
 have HB1:Hid (yD w (w.alloc (.cells #[.pointer (some 4¢222),.pointer (some a),.int .u64 150] 259))):=b1
 clear b1 hF
 go_enter Tryz.func196,Tryz.ntmps196
 go_wp2
 refine wp_loop_rounds 1 ?_
 rw [rounds_succ]
 go_wp2
 go_ret
 exact⟨rfl,HB1.out⟩
theorem as49E (T:TypeId) (x:Value) (t:Addr) (w:yW) (hg:w.cell? 1¢0=some (.iface 283 (.agg #[.pointer (some 4¢85)]))) (Q:Bool→yW→Prop)
  (cS:Calls zG 196 #[.iface T x,.iface 222 (.pointer (some t)),.agg #[.pointer (some 4¢222),zP w§,.int .u64 150],.iface 283 (.agg #[.pointer (some 4¢41)])] ((w.alloc (.cells #[.pointer (some t)] 222)).alloc (.cells #[.pointer (some 4¢222),zP w§,.int .u64 150] 259)) fun ev w'=>∃ b,ev=.returned (.bool b)∧Q b w') :
  Calls zG 163 #[.iface T x,.iface 222 (.pointer (some t))] w fun ev w'=>∃ b,ev=.returned (.bool b)∧Q b w':=by
 have h93:=@run_callFunc_extern Tryz.prog 193 _ (fun args=>ReflectliteValue.unpack (args.getD 0 (.tuple #[]))) Tryz.func193 zK zK zK zK
 have h94 := @run_callFunc_extern Tryz.prog 194 _ (ReflectliteValue.methodAny (ReflectliteValue.valueError "reflectlite.Value.Type" 0) (fun t _ _ _ => ReflectliteType.toType t)) Tryz.func194 zK zK zK zK
 have h95 := @run_callFunc_extern Tryz.prog 195 _ (ReflectliteValue.method (ReflectliteValue.valueError "reflectlite.Value.IsNil" 0) ReflectliteValue.isNil) Tryz.func195 zK zK zK zK
 have h210:=@run_callFunc_extern Tryz.prog 271 _ (ReflectliteType.abiMethod fun t=>do pure (zU (← Rtype.kind t))) Tryz.func271 zK zK zK zK
 have h223:=@run_callFunc_extern Tryz.prog 283 _ (ReflectliteType.method ReflectliteType.elem) Tryz.func283 zK zK zK zK
 have h224 := @run_callFunc_extern Tryz.prog 284 _ (ReflectliteType.relation "Implements" ReflectliteType.implements_) Tryz.func284 zK zK zK zK
 have mK:=mtKind
 have mE:=mtElem
 have mI:=mtImpl
 have v128:=vOf161
 have y128:=ty161
 have k128:=kd161
 have k74:=kd48
 have e128:=elm161
 have i74:=imp48
 have l0:=World.block_lt_of_cell? w 1¢0 hg
 have b1:=below_new w (.cells #[.pointer (some t)] 222)
 have s1:=size_alloc w (.cells #[.pointer (some t)] 222)
 have n1:=heap_new w (.cells #[.pointer (some t)] 222)
 have b2:=below_new (w.alloc (.cells #[.pointer (some t)] 222)) (.cells #[.pointer (some 4¢222),zP w§,.int .u64 150] 259)
 have ca:((w.alloc (.cells #[.pointer (some t)] 222)).alloc (.cells #[.pointer (some 4¢222),zP w§,.int .u64 150] 259)).cell? w§¢0=some (.pointer (some t)):=cell_of ((b2.block _ (by omega)).trans n1) 0
 have hg2:((w.alloc (.cells #[.pointer (some t)] 222)).alloc (.cells #[.pointer (some 4¢222),zP w§,.int .u64 150] 259)).cell? 1¢0=some (.iface 283 (.agg #[.pointer (some 4¢85)])):=by
  rw [(below2 b1 b2).cell l0]; exact hg
 have n8:=nil161 w§¢0 t ((w.alloc (.cells #[.pointer (some t)] 222)).alloc (.cells #[.pointer (some 4¢222),zP w§,.int .u64 150] 259)) ca
 clear b1 s1 n1 b2 ca
 go_enter Tryz.func163,Tryz.ntmps163
 go_wp2_with fail
 refine cS.mono ?_
 rintro ev w' ⟨b,rfl,hq⟩
 have HQ:Hid (Q b w'):=hq
 clear cS hq
 go_wp2_with fail
 go_ret
 exact⟨b,rfl,HQ.out⟩
theorem as49F (T:TypeId) (x:Value) (t:Addr) (w:yW) (hg:w.cell? 1¢0=some (.iface 283 (.agg #[.pointer (some 4¢85)]))) (Q:Bool→yW→Prop)
  (cS:Calls zG 196 #[.iface T x,.iface 223 (.pointer (some t)),.agg #[.pointer (some 4¢223),zP w§,.int .u64 150],.iface 283 (.agg #[.pointer (some 4¢184)])] ((w.alloc (.cells #[.pointer (some t)] 223)).alloc (.cells #[.pointer (some 4¢223),zP w§,.int .u64 150] 259)) fun ev w'=>∃ b,ev=.returned (.bool b)∧Q b w') :
  Calls zG 163 #[.iface T x,.iface 223 (.pointer (some t))] w fun ev w'=>∃ b,ev=.returned (.bool b)∧Q b w':=by
 have h93:=@run_callFunc_extern Tryz.prog 193 _ (fun args=>ReflectliteValue.unpack (args.getD 0 (.tuple #[]))) Tryz.func193 zK zK zK zK
 have h94 := @run_callFunc_extern Tryz.prog 194 _ (ReflectliteValue.methodAny (ReflectliteValue.valueError "reflectlite.Value.Type" 0) (fun t _ _ _ => ReflectliteType.toType t)) Tryz.func194 zK zK zK zK
 have h95 := @run_callFunc_extern Tryz.prog 195 _ (ReflectliteValue.method (ReflectliteValue.valueError "reflectlite.Value.IsNil" 0) ReflectliteValue.isNil) Tryz.func195 zK zK zK zK
 have h210:=@run_callFunc_extern Tryz.prog 271 _ (ReflectliteType.abiMethod fun t=>do pure (zU (← Rtype.kind t))) Tryz.func271 zK zK zK zK
 have h223:=@run_callFunc_extern Tryz.prog 283 _ (ReflectliteType.method ReflectliteType.elem) Tryz.func283 zK zK zK zK
 have h224 := @run_callFunc_extern Tryz.prog 284 _ (ReflectliteType.relation "Implements" ReflectliteType.implements_) Tryz.func284 zK zK zK zK
 have mK:=mtKind
 have mE:=mtElem
 have mI:=mtImpl
 have v128:=vOf128
 have y128:=ty128
 have k128:=kd128
 have k74:=kd74
 have e128:=elm128
 have i74:=imp74
 have l0:=World.block_lt_of_cell? w 1¢0 hg
 have b1:=below_new w (.cells #[.pointer (some t)] 223)
 have s1:=size_alloc w (.cells #[.pointer (some t)] 223)
 have n1:=heap_new w (.cells #[.pointer (some t)] 223)
 have b2:=below_new (w.alloc (.cells #[.pointer (some t)] 223)) (.cells #[.pointer (some 4¢223),zP w§,.int .u64 150] 259)
 have ca:((w.alloc (.cells #[.pointer (some t)] 223)).alloc (.cells #[.pointer (some 4¢223),zP w§,.int .u64 150] 259)).cell? w§¢0=some (.pointer (some t)):=cell_of ((b2.block _ (by omega)).trans n1) 0
 have hg2:((w.alloc (.cells #[.pointer (some t)] 223)).alloc (.cells #[.pointer (some 4¢223),zP w§,.int .u64 150] 259)).cell? 1¢0=some (.iface 283 (.agg #[.pointer (some 4¢85)])):=by
  rw [(below2 b1 b2).cell l0]; exact hg
 have n8:=nil128 w§¢0 t ((w.alloc (.cells #[.pointer (some t)] 223)).alloc (.cells #[.pointer (some 4¢223),zP w§,.int .u64 150] 259)) ca
 clear b1 s1 n1 b2 ca
 go_enter Tryz.func163,Tryz.ntmps163
 go_wp2_with fail
 refine cS.mono ?_
 rintro ev w' ⟨b,rfl,hq⟩
 have HQ:Hid (Q b w'):=hq
 clear cS hq
 go_wp2_with fail
 go_ret
 exact⟨b,rfl,HQ.out⟩
theorem asN0 (n:Int) (t a:Addr) (w:yW) :
  Calls zG 196 #[.iface 41 (zI n),.iface 223 (.pointer (some t)),.agg #[.pointer (some 4¢223),.pointer (some a),.int .u64 150],.iface 283 (.agg #[.pointer (some 4¢184)])] w fun ev w'=>ev=.returned (.bool false)∧yD w w':=by
 have h50:=@run_callFunc_extern Tryz.prog 214 _ ReflectliteType.typeOf Tryz.func214 zK zK zK zK
 have h221 := @run_callFunc_extern Tryz.prog 281 _ (ReflectliteType.relation "AssignableTo" ReflectliteType.assignableTo) Tryz.func281 zK zK zK zK
 have mA:=mtAsg
 have tO:=tOf48
 have a48:=asg48_74
 have q1:=no48_As
 have q2:=no48_Un
 have q3:=no48_Uns
 have HB1:Hid (yD w (w.alloc (.cells #[.pointer (some 4¢223),.pointer (some a),.int .u64 150] 259))):=below_new w _
 go_enter Tryz.func196,Tryz.ntmps196
 go_wp2
 refine wp_loop_rounds 1 ?_
 rw [rounds_succ]
 go_wp2
 go_ret
 exact⟨rfl,HB1.out⟩
def Er (w:yW) (v:Value) (n p:Int):Prop :=
 (v=.iface 41 (zI n)∧p=0) ∨
 (∃ F c,v=.iface 184 (zP F)∧w.heap[F]? = (zC #[.string c,zI p,.iface 41 (zI n)] 186)) ∨
 (∃ F c G c2 p2,v=.iface 184 (zP F)∧w.heap[F]? = (zC #[.string c,zI p,.iface 184 (zP G)] 186)∧w.heap[G]? = (zC #[.string c2,zI p2,.iface 41 (zI n)] 186)) ∨
 (∃ F c,v=.iface 184 (zP F)∧w.heap[F]? = (zC #[.string c,zI p,.nilIface] 186)∧n = -1)
theorem Er.on {w w':yW}{v:Value}{n p:Int}(h:Er w v n p) (hb:yD w w'):Er w' v n p:=by
 have k:∀ {F:Nat}{o},w.heap[F]? = some o→w'.heap[F]? = some o:=fun hF=>(hb.block _ (zJ hF).1).trans hF
 rcases h with h | ⟨F,c,h1,h2⟩ | ⟨F,c,G,c2,p2,h1,h2,h3⟩ | ⟨F,c,h1,h2,h3⟩
 ·exact .inl h
 ·exact .inr (.inl ⟨F,c,h1,k h2⟩)
 ·exact .inr (.inr (.inl ⟨F,c,G,c2,p2,h1,k h2,k h3⟩))
 ·exact .inr (.inr (.inr ⟨F,c,h1,k h2,h3⟩))
theorem asE_any {w:yW}{v:Value}{n p:Int}(h:Er w v n p) (t a:Addr) (old:Value) (ha:w.cell? a=some (.pointer (some t))) (ht0:w.cell? t=some old) (hf0:w.frozen? t=false) :
  Calls zG 196 #[v,.iface 222 (.pointer (some t)),.agg #[.pointer (some 4¢222),.pointer (some a),.int .u64 150],.iface 283 (.agg #[.pointer (some 4¢41)])] w fun ev w'=>∃ b,ev=.returned (.bool b)∧((b=true∧∃ V,yD w V∧w'=V.setCell t (zI n))∨(b=false∧n = -1∧yD w w')):=by
 rcases h with ⟨rfl,_⟩ | ⟨F,c,rfl,h2⟩ | ⟨F,c,G,c2,p2,rfl,h2,h3⟩ | ⟨F,c,rfl,h2,h3⟩
 ·exact (asE1 n t a old w ha ht0 hf0).mono fun e w' h=>⟨true,h.1,.inl ⟨rfl,h.2⟩⟩
 ·exact (asE2 F c p n t a old w ha ht0 hf0 h2).mono fun e w' h=>⟨true,h.1,.inl ⟨rfl,h.2⟩⟩
 ·exact (asE3 F c p G c2 p2 n t a old w ha ht0 hf0 h2 h3).mono fun e w' h=>⟨true,h.1,.inl ⟨rfl,h.2⟩⟩
 ·exact (asN1 F c p t a w h2).mono fun e w' h=>⟨false,h.1,.inr ⟨rfl,h3,h.2⟩⟩
def Ety (w:yW):Prop:=w.cell? 1¢0=some (.iface 283 (.agg #[.pointer (some 4¢85)]))
theorem Ety.on {w w':yW}(h:Ety w) (hb:yD w w'):Ety w':=by
 have l0:=World.block_lt_of_cell? w 1¢0 h
 unfold Ety; rw [hb.cell l0]; exact h
theorem Er.face {w:yW}{v:Value}{n p:Int}(h:Er w v n p):∃ T x,v=.iface T x:=by
 rcases h with ⟨rfl,_⟩ | ⟨F,c,rfl,h2⟩ | ⟨F,c,G,c2,p2,rfl,h2,h3⟩ | ⟨F,c,rfl,h2,h3⟩ <;> exact⟨_,_,rfl⟩
theorem as49E_any {w:yW}{v:Value}{n p:Int}(h:Er w v n p) (hg:Ety w) (t:Addr) (old:Value) (ht0:w.cell? t=some old) (hf0:w.frozen? t=false) :
  Calls zG 163 #[v,.iface 222 (.pointer (some t))] w fun ev w'=>∃ b,ev=.returned (.bool b)∧((b=true∧∃ V,yD w V∧w'=V.setCell t (zI n))∨(b=false∧n = -1∧yD w w')):=by
 obtain⟨T,x,rfl⟩:=h.face
 have b1:=below_new w (.cells #[.pointer (some t)] 222)
 have s1:=size_alloc w (.cells #[.pointer (some t)] 222)
 have n1:=heap_new w (.cells #[.pointer (some t)] 222)
 have b2:=below_new (w.alloc (.cells #[.pointer (some t)] 222)) (.cells #[.pointer (some 4¢222),zP w§,.int .u64 150] 259)
 have bb:=below2 b1 b2
 have lt:=World.block_lt_of_cell? w t ht0
 refine as49E T x t w hg _ ((asE_any (h.on bb) t w§¢0 old (cell_of ((b2.block _ (by omega)).trans n1) 0) (by rw [bb.cell lt]; exact ht0) (by rw [World.frozen?_alloc_old _ _ t (by rw [s1]; omega),World.frozen?_alloc_old _ _ t (by omega)]; exact hf0)).mono ?_)
 rintro e w' ⟨b,rfl,hh⟩
 refine⟨b,rfl,?_⟩
 rcases hh with ⟨rfl,V,hV,rfl⟩ | ⟨rfl,hn,hV⟩
 ·exact .inl ⟨rfl,V,below2 bb hV,rfl⟩
 ·exact .inr ⟨rfl,hn,below2 bb hV⟩
theorem asF1_any {w:yW}{v:Value}{n p:Int}(h:Er w v n p) (hg:Ety w) (t:Addr) (old:Value) (ht0:w.cell? t=some old) (hf0:w.frozen? t=false) :
  Calls zG 163 #[v,.iface 223 (.pointer (some t))] w fun ev w'=>∃ b,ev=.returned (.bool b)∧((b=true∧∃ F c e,w.heap[F]? = (zC #[.string c,zI p,e] 186)∧∃ V,yD w V∧w'=V.setCell t (zP F))∨(b=false∧p=0∧yD w w')):=by
 rcases h with ⟨rfl,hp⟩ | ⟨F,c,rfl,h2⟩ | ⟨F,c,G,c2,p2,rfl,h2,h3⟩ | ⟨F,c,rfl,h2,h3⟩
 ·refine as49F 41 (zI n) t w hg _ ((asN0 n t _ _).mono ?_)
  rintro e w' ⟨rfl,hb⟩
  exact⟨false,rfl,.inr ⟨rfl,hp,below2 (below2 (below_new _ _) (below_new _ _)) hb⟩⟩
 all_goals exact (asF_any F¢0 t old w hg ht0 hf0).mono fun e w' h=>⟨true,h.1,.inl ⟨rfl,F,c,_,h2,h.2⟩⟩
def SfH (w:yW) (b:Nat) (h:Hd):Prop:=w.heap[b]? = (zC (selfA h) 251)
theorem SfH.lt {w:yW}{b:Nat}{h:Hd}(k:SfH w b h):b < w§:=(zJ k).1
theorem SfH.on {w w':yW}{b:Nat}{h:Hd}(k:SfH w b h) (j:yD w w'):SfH w' b h:=(j.block b k.lt).trans k
theorem SfH.hid {w:yW}{b:Nat}{h:Hd}(k:SfH w b h):Hid (SfH w b h):=k
theorem SfH.cells {w:yW}{b:Nat}{h:Hd}(k:SfH w b h):w.cell? b¢0=some (zU h.k)∧w.cell? b¢1=some (zU h.o)∧w.cell? b¢2=some (zU h.t)∧w.cell? b¢3=some (zI h.n)∧w.cell? b¢4=some (zU h.f)∧w.cell? b¢5=some (.string h.x) :=
 ⟨cell_of k 0,cell_of k 1,cell_of k 2,cell_of k 3,cell_of k 4,cell_of k 5⟩
theorem SfH.froz {w:yW}{b:Nat}{h:Hd}(k:SfH w b h):w.frozen? b¢0=false∧w.frozen? b¢1=false∧w.frozen? b¢2=false∧w.frozen? b¢3=false∧w.frozen? b¢4=false∧w.frozen? b¢5=false :=
 ⟨frozen_of k 0,frozen_of k 1,frozen_of k 2,frozen_of k 3,frozen_of k 4,frozen_of k 5⟩
theorem put6 {w:yW}{b:Nat}{cs:Array Value}(h:w.heap[b]? = (zC cs 251)) (hs:cs.size=6) (v0 v1 v2 v3 v4 v5:Value) :
  ((((((w.setCell b¢0 v0).setCell b¢1 v1).setCell b¢2 v2).setCell b¢3 v3).setCell b¢4 v4).setCell b¢5 v5).heap[b]? = (zC #[v0,v1,v2,v3,v4,v5] 251):=by
 obtain⟨a0,a1,a2,a3,a4,a5,e⟩:∃ a0 a1 a2 a3 a4 a5,cs=#[a0,a1,a2,a3,a4,a5]:=⟨cs[0],cs[1],cs[2],cs[3],cs[4],cs[5],by
  apply Array.ext
  ·simpa using hs
  ·intro i h1 h2
   have:i < 6:=by omega
   match i,this with
   | 0,_=>rfl
   | 1,_=>rfl
   | 2,_=>rfl
   | 3,_=>rfl
   | 4,_=>rfl
   | 5,_=>rfl⟩
 subst e
 exact heap_set _ (heap_set _ (heap_set _ (heap_set _ (heap_set _ (heap_set _ h)))))
theorem belowput6 {B:Nat}{w v:yW}{b:Nat}(h:Below B w v) (hb:B≤b) (v0 v1 v2 v3 v4 v5:Value):Below B w ((((((v.setCell b¢0 v0).setCell b¢1 v1).setCell b¢2 v2).setCell b¢3 v3).setCell b¢4 v4).setCell b¢5 v5) :=
 (((((h.setCell (p:=b¢0) hb v0).setCell (p:=b¢1) hb v1).setCell (p:=b¢2) hb v2).setCell (p:=b¢3) hb v3).setCell (p:=b¢4) hb v4).setCell (p:=b¢5) hb v5
def hdN:Hd:=⟨0,0,0,0,0,⟨#[]⟩,0⟩
theorem selfOf_any (h:Hd) (a:Option Addr) (l c:Nat) (w:yW):Calls zG 185 #[.agg (hdA h a l c)] w fun e w'=>e=.returned (.agg (selfA h))∧yD w w':=by
 obtain⟨W,eW⟩:∃ W,(w.alloc (.cells (hdA h a l c) 38)).alloc (.cells #[zU 0,zU 0,zU 0,zI 0,zU 0,yQ] 251)=W:=⟨_,rfl⟩
 have HB:Hid (yD w W):=by rw [← eW]; exact below_two _ _ _
 have HN:Hid (W.heap[w§]? = (zC (hdA h a l c) 38)):=by show _=_; rw [← eW]; exact heap_old (heap_new _ _) (by rw [size_alloc]; omega)
 have HS:Hid (SfH W (w§+1) hdN):=by show SfH _ _ _; rw [← eW,← size_alloc w (.cells (hdA h a l c) 38)]; exact heap_new _ _
 obtain⟨y0,y1,y2,y3,y4,y5⟩:W.cell? w§¢0=some (zU h.k)∧W.cell? w§¢1=some (zU h.o)∧W.cell? w§¢2=some (zU h.t)∧W.cell? w§¢3=some (zI h.n)∧W.cell? w§¢4=some (zU h.f)∧W.cell? w§¢5=some (.string h.x) :=
  ⟨cell_of HN.out 0,cell_of HN.out 1,cell_of HN.out 2,cell_of HN.out 3,cell_of HN.out 4,cell_of HN.out 5⟩
 obtain⟨z0,z1,z2,z3,z4,z5⟩:=HS.out.cells
 obtain⟨f0,f1,f2,f3,f4,f5⟩:=HS.out.froz
 unfold hdA at eW ⊢
 go_enter Tryz.func185,Tryz.ntmps185
 go_wp2
 exact bodyPost_ret (results_cell_row rfl _ _ (w§+1) 251 (selfA h) (0,0) _ rfl (put6 HS.out rfl _ _ _ _ _ _) Tryz.underlying251 rfl zK) rfl ⟨rfl,belowput6 HB.out (by omega) _ _ _ _ _ _⟩
theorem mid3 (w:yW) (A B C:Obj):(((w.alloc A).alloc B).alloc C).heap[w§+1]? = some B:=by
 refine heap_old ?_ (by rw [size_alloc,size_alloc]; omega)
 rw [← size_alloc w A]; exact heap_new _ _
theorem below3 (w:yW) (A B C:Obj):yD w (((w.alloc A).alloc B).alloc C):=(below_two _ _ _).alloc (by rw [size_alloc,size_alloc]; omega) _
theorem nm_1 (o t n f:Int) (x:yB) (w:yW):Calls zG 186 #[.agg #[zU 1,zU o,zU t,zI n,zU f,.string x]] w fun e w'=>e=.returned (.agg #[zU 1,zU 0,zU t,zI n,zU 0,yQ])∧yD w w':=by
 go_enter Tryz.func186,Tryz.ntmps186
 go_wp2_with fail
 exact bodyPost_ret (results_cell_row rfl _ _ (w§+1) 251 #[zU 1,zU 0,zU t,zI n,zU 0,yQ] (0,0) _ rfl (mid3 _ _ _ _) Tryz.underlying251 rfl zK) rfl ⟨rfl,below3 _ _ _ _⟩
theorem nm_9 (o t n f:Int) (x:yB) (w:yW):Calls zG 186 #[.agg #[zU 9,zU o,zU t,zI n,zU f,.string x]] w fun e w'=>e=.returned (.agg #[zU 9,zU 0,zU t,zI 0,zU 0,yQ])∧yD w w':=by
 go_enter Tryz.func186,Tryz.ntmps186
 go_wp2_with fail
 exact bodyPost_ret (results_cell_row rfl _ _ (w§+1) 251 #[zU 9,zU 0,zU t,zI 0,zU 0,yQ] (0,0) _ rfl (mid3 _ _ _ _) Tryz.underlying251 rfl zK) rfl ⟨rfl,below3 _ _ _ _⟩
theorem nm_2 (o t n f:Int) (x:yB) (w:yW):Calls zG 186 #[.agg #[zU 2,zU o,zU t,zI n,zU f,.string x]] w fun e w'=>e=.returned (.agg #[zU 2,zU 0,zU 0,zI 0,zU 0,.string x])∧yD w w':=by
 go_enter Tryz.func186,Tryz.ntmps186
 go_wp2_with fail
 exact bodyPost_ret (results_cell_row rfl _ _ (w§+1) 251 #[zU 2,zU 0,zU 0,zI 0,zU 0,.string x] (0,0) _ rfl (mid3 _ _ _ _) Tryz.underlying251 rfl zK) rfl ⟨rfl,below3 _ _ _ _⟩
theorem nm_3 (o t n f:Int) (x:yB) (w:yW):Calls zG 186 #[.agg #[zU 3,zU o,zU t,zI n,zU f,.string x]] w fun e w'=>e=.returned (.agg #[zU 3,zU 0,zU 0,zI 0,zU f,yQ])∧yD w w':=by
 go_enter Tryz.func186,Tryz.ntmps186
 go_wp2_with fail
 exact bodyPost_ret (results_cell_row rfl _ _ (w§+1) 251 #[zU 3,zU 0,zU 0,zI 0,zU f,yQ] (0,0) _ rfl (mid3 _ _ _ _) Tryz.underlying251 rfl zK) rfl ⟨rfl,below3 _ _ _ _⟩
theorem nm_4 (o t n f:Int) (x:yB) (w:yW):Calls zG 186 #[.agg #[zU 4,zU o,zU t,zI n,zU f,.string x]] w fun e w'=>e=.returned (.agg #[zU 4,zU 0,zU 0,zI 0,zU f,yQ])∧yD w w':=by
 go_enter Tryz.func186,Tryz.ntmps186
 go_wp2_with fail
 exact bodyPost_ret (results_cell_row rfl _ _ (w§+1) 251 #[zU 4,zU 0,zU 0,zI 0,zU f,yQ] (0,0) _ rfl (mid3 _ _ _ _) Tryz.underlying251 rfl zK) rfl ⟨rfl,below3 _ _ _ _⟩
theorem nm_5 (o t n f:Int) (x:yB) (w:yW):Calls zG 186 #[.agg #[zU 5,zU o,zU t,zI n,zU f,.string x]] w fun e w'=>e=.returned (.agg #[zU 5,zU o,zU 0,zI 0,zU 0,yQ])∧yD w w':=by
 go_enter Tryz.func186,Tryz.ntmps186
 go_wp2_with fail
 exact bodyPost_ret (results_cell_row rfl _ _ (w§+1) 251 #[zU 5,zU o,zU 0,zI 0,zU 0,yQ] (0,0) _ rfl (mid3 _ _ _ _) Tryz.underlying251 rfl zK) rfl ⟨rfl,below3 _ _ _ _⟩
theorem nm_6 (o t n f:Int) (x:yB) (w:yW):Calls zG 186 #[.agg #[zU 6,zU o,zU t,zI n,zU f,.string x]] w fun e w'=>e=.returned (.agg #[zU 6,zU o,zU 0,zI 0,zU 0,yQ])∧yD w w':=by
 go_enter Tryz.func186,Tryz.ntmps186
 go_wp2_with fail
 exact bodyPost_ret (results_cell_row rfl _ _ (w§+1) 251 #[zU 6,zU o,zU 0,zI 0,zU 0,yQ] (0,0) _ rfl (mid3 _ _ _ _) Tryz.underlying251 rfl zK) rfl ⟨rfl,below3 _ _ _ _⟩
theorem nm_8 (o t n f:Int) (x:yB) (w:yW):Calls zG 186 #[.agg #[zU 8,zU o,zU t,zI n,zU f,.string x]] w fun e w'=>e=.returned (.agg #[zU 8,zU o,zU 0,zI 0,zU 0,yQ])∧yD w w':=by
 go_enter Tryz.func186,Tryz.ntmps186
 go_wp2_with fail
 exact bodyPost_ret (results_cell_row rfl _ _ (w§+1) 251 #[zU 8,zU o,zU 0,zI 0,zU 0,yQ] (0,0) _ rfl (mid3 _ _ _ _) Tryz.underlying251 rfl zK) rfl ⟨rfl,below3 _ _ _ _⟩
theorem nm_z (k:Int) (e1:(k == 1)=false) (e2:(k == 2)=false) (e3:(k == 3)=false) (e4:(k == 4)=false) (e5:(k == 5)=false) (e6:(k == 6)=false) (e8:(k == 8)=false) (e9:(k == 9)=false) (o t n f:Int) (x:yB) (w:yW):Calls zG 186 #[.agg #[zU k,zU o,zU t,zI n,zU f,.string x]] w fun e w'=>e=.returned (.agg #[zU k,zU 0,zU 0,zI 0,zU 0,yQ])∧yD w w':=by
 go_enter Tryz.func186,Tryz.ntmps186
 go_wp2_with fail
 exact bodyPost_ret (results_cell_row rfl _ _ (w§+1) 251 #[zU k,zU 0,zU 0,zI 0,zU 0,yQ] (0,0) _ rfl (mid3 _ _ _ _) Tryz.underlying251 rfl zK) rfl ⟨rfl,below3 _ _ _ _⟩
theorem named_any (h:Hd) (w:yW):Calls zG 186 #[.agg (selfA h)] w fun e w'=>e=.returned (.agg (selfA (nm h)))∧yD w w':=by
 obtain⟨k,o,t,n,f,x,p⟩:=h
 unfold selfA nm
 simp only
 by_cases e1:k=1
 ·subst e1; exact nm_1 o t n f x w
 by_cases e9:k=9
 ·subst e9; exact nm_9 o t n f x w
 by_cases e2:k=2
 ·subst e2; exact nm_2 o t n f x w
 by_cases e3:k=3
 ·subst e3; exact nm_3 o t n f x w
 by_cases e4:k=4
 ·subst e4; exact nm_4 o t n f x w
 by_cases e5:k=5
 ·subst e5; exact nm_5 o t n f x w
 by_cases e6:k=6
 ·subst e6; exact nm_6 o t n f x w
 by_cases e8:k=8
 ·subst e8; exact nm_8 o t n f x w
 rw [if_neg e1,if_neg e9,if_neg e2,if_neg (by omega),if_neg (by omega)]
 exact nm_z k (by simp [e1]) (by simp [e2]) (by simp [e3]) (by simp [e4]) (by simp [e5]) (by simp [e6]) (by simp [e8]) (by simp [e9]) o t n f x w
def Tab (w : yW) : Prop := w.var? Tryz.prog "tripwire/lex.words" = some wordsV
theorem words_global : Tryz.prog.globalNamed "tripwire/lex.words" = some 2 := by kernel_rfl
theorem Tab.on {w w':yW}(h:Tab w) (hb:yD w w'):Tab w':=by
 unfold Tab World.var? at *
 rw [words_global] at h ⊢
 simp only [Option.bind_some] at h ⊢
 have hlt:2 < w§:=by
  rcases Nat.lt_or_ge 2 w§ with h' | h'
  ·exact h'
  ·rw [Array.getElem?_eq_none h'] at h; simp at h
 rw [hb.block 2 hlt]
 exact h
theorem Tab.cell {w:yW}(h:Tab w) (i:Nat) (hi:i < 41):w.cell? 2¢i=some (.string (wd i)):=by
 have:=World.var?_cell words_global h i
 rw [this]
 unfold wordsV wd
 have hl:i < wordsL.length:=hi
 simp [List.getElem?_map,List.getElem?_eq_getElem hl,List.getD]
theorem Tab.hid {w:yW}(h:Tab w):Hid (Tab w):=h
theorem isLetter_any (c:UInt8) (w:yW):Calls zG 227 #[zU (c.toNat:Int)] w fun e w'=>e=.returned (.bool (letB c))∧w'=w:=by
 go_enter Tryz.func227,Tryz.ntmps227
 go_wp2
 all_goals go_ret
 all_goals refine⟨retB ?_,rfl⟩
 all_goals unfold letB
 ·have h:97≤c.toNat:=by omega
  by_cases h2:c.toNat≤122
  ·rw [decide_eq_true (show (c.toNat:Int)≤122 by omega),decide_eq_true ⟨h,h2⟩]
  ·rw [decide_eq_false (show ¬ (c.toNat:Int)≤122 by omega),decide_eq_false (fun k=>h2 k.2)]
 ·rw [decide_eq_false (by omega)]
theorem isDigit_any (c:UInt8) (w:yW):Calls zG 229 #[zU (c.toNat:Int)] w fun e w'=>e=.returned (.bool (digB c))∧w'=w:=by
 go_enter Tryz.func229,Tryz.ntmps229
 go_wp2
 all_goals go_ret
 all_goals refine⟨retB ?_,rfl⟩
 all_goals unfold digB
 ·have h:48≤c.toNat:=by omega
  by_cases h2:c.toNat≤57
  ·rw [decide_eq_true (show (c.toNat:Int)≤57 by omega),decide_eq_true ⟨h,h2⟩]
  ·rw [decide_eq_false (show ¬ (c.toNat:Int)≤57 by omega),decide_eq_false (fun k=>h2 k.2)]
 ·rw [decide_eq_false (by omega)]
theorem isLetter_b {c:UInt8}{b:Bool}(h:letB c=b) (w:yW):Calls zG 227 #[zU (c.toNat:Int)] w fun e w'=>e=.returned (.bool b)∧w'=w:=h ▸ isLetter_any c w
theorem isDigit_b {c:UInt8}{b:Bool}(h:digB c=b) (w:yW):Calls zG 229 #[zU (c.toNat:Int)] w fun e w'=>e=.returned (.bool b)∧w'=w:=h ▸ isDigit_any c w
theorem slite_any (s:yB) (c:Int) (w:yW):Calls zG 249 #[.string s,zU c] w fun e w'=>e=.returned (zI (Lib.indexByte s.data.toList c.toNat.toUInt8))∧w'=w:=by
 go_enter Tryz.func249,Tryz.ntmps249
 go_wp2
 rw [run_callFunc_extern Tryz.func252 zK zK zK (e:=Extern.BytealgIndexByte.indexByte) zK,Lib.run_indexByteString]
 simp only [Result.andThen]
 rw [Oper.upon_value]
 go_wp2
 go_ret
 exact⟨rfl,rfl⟩
theorem indexByte_any (s:yB) (c:Int) (w:yW):Calls zG 246 #[.string s,zU c] w fun e w'=>e=.returned (zI (Lib.indexByte s.data.toList c.toNat.toUInt8))∧w'=w:=by
 go_enter Tryz.func246,Tryz.ntmps246
 go_wp2_with (go_at_call 249; refine (slite_any _ _ _).mono ?_; rintro e w' ⟨rfl,rfl⟩)
 go_ret
 exact⟨rfl,rfl⟩
theorem wordP_any (s:yB) (w:yW) (ht:Tab w):Calls zG 239 #[.string s] w fun e w'=>e=.returned (.bool (isW s))∧w'=w:=by
 have HC:Hid (∀ j,j < 41→w.cell? 2¢j=some (.string (wd j))):=ht.cell
 clear ht
 go_enter Tryz.func239,Tryz.ntmps239
 go_wp2_with fail
 go_loop [4] (fun t=>∃ i:Nat,i≤41∧t=zI i∧Hid (∀ j,j < i→¬ wd j=s)) (fun t=>41 - (intOf t).toNat)
 case atStart=>exact⟨0,by omega,rfl,fun j hj=>by omega⟩
 case round =>
  obtain⟨i,hi,rfl,HR⟩:=hrel
  by_cases hlt:i < 41
  ·have hlt':(i:Int) < 41:=by omega
   have hcell:=HC.out i hlt
   obtain⟨x,ex⟩:∃ x,wd i=x:=⟨_,rfl⟩
   rw [ex] at hcell
   by_cases he:x=s
   ·have hw:=isW_yes hlt (ex.trans he)
    subst he
    go_wp2
    go_ret
    exact⟨by first | rfl | exact retB hw.symm,rfl⟩
   ·have hne:=seq_ne he
    have hn:Hid (∀ j,j < i+1→¬ wd j=s):=fun j hj=>by
     by_cases e:j=i
     ·subst e; rw [ex]; exact he
     ·exact HR.out j (by omega)
    clear he ex
    go_wp2
    exact⟨⟨i+1,by omega,by go_num,hn⟩,by simp only [intOf]; omega⟩
  ·obtain rfl:i=41:=by omega
   have hw:=isW_no HR.out
   go_wp2
   go_ret
   exact⟨by first | rfl | exact retB hw.symm,rfl⟩
theorem hd_at {s:yB}{i:Nat}(h:i < s.size) {c:UInt8}(hc:s[i]=c) (p:UInt8→Bool):hdB p (rest s i)=p c:=by rw [rest_at s i h,hc]; rfl
theorem hd_out {s:yB}{i:Nat}(h:s.size≤i) (p:UInt8→Bool):hdB p (rest s i)=false:=by rw [rest_end s i h]; rfl
theorem wordC_any (s:yB) (i B:Nat) (w:yW) (hB:w.cell? B¢0=some (.string s)) (hi:i≤s.size) :
  Calls zG 238 #[zI i,zP B] w fun e w'=>e=.returned (.bool (hdB goB (rest s i)))∧w'=w:=by
 by_cases hlt:i < s.size
 ·have hlt':(i:Int) < (s.size:Int):=by omega
  obtain⟨c,hc⟩:∃ c,s[i]=c:=⟨_,rfl⟩
  rw [hd_at hlt hc]
  cases b1:letB c
  ·cases b2:digB c
   ·have hg:Hid (goB c=((c.toNat:Int) == 95)):=by
     show _=_
     unfold goB
     rw [b1,b2]
     by_cases h:c.toNat=95
     ·rw [h]; rfl
     ·have h':((c.toNat:Int) == 95)=false:=beq_false_of_ne (by omega)
      rw [h']; simp [h]
    go_enter Tryz.func238,Tryz.ntmps238
    go_wp2_with (first | (go_at_call 227; refine (isLetter_b b1 _).mono ?_; rintro _ v ⟨rfl,e⟩; obtain rfl:=e.symm) | (go_at_call 229; refine (isDigit_b b2 _).mono ?_; rintro _ v ⟨rfl,e⟩; obtain rfl:=e.symm))
    all_goals go_ret
    all_goals exact⟨by rw [hg.out]; rfl,rfl⟩
   ·have hg:goB c=true:=by unfold goB; rw [b1,b2]; rfl
    rw [hg]
    go_enter Tryz.func238,Tryz.ntmps238
    go_wp2_with (first | (go_at_call 227; refine (isLetter_b b1 _).mono ?_; rintro _ v ⟨rfl,e⟩; obtain rfl:=e.symm) | (go_at_call 229; refine (isDigit_b b2 _).mono ?_; rintro _ v ⟨rfl,e⟩; obtain rfl:=e.symm))
    all_goals go_ret
    all_goals exact⟨rfl,rfl⟩
  ·have hg:goB c=true:=by unfold goB; rw [b1]; rfl
   rw [hg]
   go_enter Tryz.func238,Tryz.ntmps238
   go_wp2_with (go_at_call 227; refine (isLetter_b b1 _).mono ?_; rintro _ v ⟨rfl,e⟩; obtain rfl:=e.symm)
   all_goals go_ret
   all_goals exact⟨rfl,rfl⟩
 ·rw [hd_out (by omega)]
  have hn:¬ (i:Int) < (s.size:Int):=by omega
  go_enter Tryz.func238,Tryz.ntmps238
  go_wp2_with fail
  go_ret
  exact⟨rfl,rfl⟩
theorem numC_any (s:yB) (i B:Nat) (w:yW) (hB:w.cell? B¢0=some (.string s)) (hi:i≤s.size) :
  Calls zG 240 #[zI i,zP B] w fun e w'=>e=.returned (.bool (hdB digB (rest s i)))∧w'=w:=by
 by_cases hlt:i < s.size
 ·have hlt':(i:Int) < (s.size:Int):=by omega
  obtain⟨c,hc⟩:∃ c,s[i]=c:=⟨_,rfl⟩
  rw [hd_at hlt hc]
  go_enter Tryz.func240,Tryz.ntmps240
  go_wp2_with (go_at_call 229; refine (isDigit_any _ _).mono ?_; rintro _ v ⟨rfl,e⟩; obtain rfl:=e.symm)
  all_goals go_ret
  all_goals exact⟨rfl,rfl⟩
 ·rw [hd_out (by omega)]
  have hn:¬ (i:Int) < (s.size:Int):=by omega
  go_enter Tryz.func240,Tryz.ntmps240
  go_wp2_with fail
  go_ret
  exact⟨rfl,rfl⟩
theorem reachW_any (s:yB) (a B:Nat) (hs:s.size≤140737488355328) (ha:a≤s.size) (w:yW) (hB:w.cell? B¢0=some (.string s)) (d:Nat) (hd:Hid (d=a+lead goB (rest s a))) :
  Calls zG 237 #[zI a,.func (.func 238) #[] #[zP B]] w fun e w'=>e=.returned (zI d)∧w'=w:=by
 go_enter Tryz.func237,Tryz.ntmps237
 go_wp2_with fail
 go_loop [0] (fun t=>∃ i:Nat,a≤i∧i≤s.size∧t=zI i∧Hid (d=i+lead goB (rest s i))) (fun t=>s.size - (intOf t).toNat)
 case atStart=>exact⟨a,Nat.le_refl _,ha,rfl,hd⟩
 case round =>
  obtain⟨i,hi1,hi2,rfl,HR⟩:=hrel
  clear hd
  have cF:=wordC_any s i B w hB hi2
  cases hb:hdB goB (rest s i)
  ·rw [hb] at cF
   have hs2:Hid (i=d):=by
    show _=_
    rw [HR.out]
    cases hr:rest s i with
    | nil=>rfl
    | cons c l=>rw [hr] at hb; rw [lead,if_neg (by rw [show goB c=false from hb]; decide)]; rfl
   clear hb
   go_wp2_with fail
   refine cF.mono ?_
   rintro _ v ⟨rfl,e⟩
   obtain rfl:=e.symm
   go_wp2_with fail
   go_ret
   exact⟨retI (by rw [hs2.out]),rfl⟩
  ·rw [hb] at cF
   have hlt:i < s.size:=by
    by_cases h:i < s.size
    ·exact h
    ·rw [hd_out (by omega)] at hb; cases hb
   have hs2:Hid (d=(i+1)+lead goB (rest s (i+1))):=by
    show _=_
    rw [HR.out]
    have hr:=rest_at s i hlt
    rw [hr] at hb
    unfold hdB at hb
    rw [hr,lead,if_pos hb]; omega
   clear hb HR
   go_wp2_with fail
   refine cF.mono ?_
   rintro _ v ⟨rfl,e⟩
   obtain rfl:=e.symm
   go_wp2_with fail
   exact⟨⟨i+1,by omega,by omega,by go_num,hs2⟩,by simp only [intOf]; omega⟩
theorem reachN_any (s:yB) (a B:Nat) (hs:s.size≤140737488355328) (ha:a≤s.size) (w:yW) (hB:w.cell? B¢0=some (.string s)) (d:Nat) (hd:Hid (d=a+lead digB (rest s a))) :
  Calls zG 237 #[zI a,.func (.func 240) #[] #[zP B]] w fun e w'=>e=.returned (zI d)∧w'=w:=by
 go_enter Tryz.func237,Tryz.ntmps237
 go_wp2_with fail
 go_loop [0] (fun t=>∃ i:Nat,a≤i∧i≤s.size∧t=zI i∧Hid (d=i+lead digB (rest s i))) (fun t=>s.size - (intOf t).toNat)
 case atStart=>exact⟨a,Nat.le_refl _,ha,rfl,hd⟩
 case round =>
  obtain⟨i,hi1,hi2,rfl,HR⟩:=hrel
  clear hd
  have cF:=numC_any s i B w hB hi2
  cases hb:hdB digB (rest s i)
  ·rw [hb] at cF
   have hs2:Hid (i=d):=by
    show _=_
    rw [HR.out]
    cases hr:rest s i with
    | nil=>rfl
    | cons c l=>rw [hr] at hb; rw [lead,if_neg (by rw [show digB c=false from hb]; decide)]; rfl
   clear hb
   go_wp2_with fail
   refine cF.mono ?_
   rintro _ v ⟨rfl,e⟩
   obtain rfl:=e.symm
   go_wp2_with fail
   go_ret
   exact⟨retI (by rw [hs2.out]),rfl⟩
  ·rw [hb] at cF
   have hlt:i < s.size:=by
    by_cases h:i < s.size
    ·exact h
    ·rw [hd_out (by omega)] at hb; cases hb
   have hs2:Hid (d=(i+1)+lead digB (rest s (i+1))):=by
    show _=_
    rw [HR.out]
    have hr:=rest_at s i hlt
    rw [hr] at hb
    unfold hdB at hb
    rw [hr,lead,if_pos hb]; omega
   clear hb HR
   go_wp2_with fail
   refine cF.mono ?_
   rintro _ v ⟨rfl,e⟩
   obtain rfl:=e.symm
   go_wp2_with fail
   exact⟨⟨i+1,by omega,by omega,by go_num,hs2⟩,by simp only [intOf]; omega⟩
end Go.Proofs.YtfbjofnaghjmeaaGreatDoor
