import Derived.Test.YtoogodlnnijikaaGreatDoorA0
import Derived.Test.YtoogodlnnijikaaGreatDoorA2
namespace Go.Proofs.YtoogodlnnijikaaGreatDoor
set_option maxHeartbeats 4000000
set_option maxRecDepth 100000
open Go.RowKit Go.Extern.Stop Go.Stop Go.Extern
theorem mtKind (h : Value) (w : yW) : (Go.method 377 196 (.agg #[h]) "Kind").run Tryz.prog w = .ok (213, h) w := by kernel_rfl
theorem mtElem (h : Value) (w : yW) : (Go.method 377 196 (.agg #[h]) "Elem").run Tryz.prog w = .ok (225, .agg #[h]) w := by kernel_rfl
theorem mtImpl (h : Value) (w : yW) : (Go.method 377 196 (.agg #[h]) "Implements").run Tryz.prog w = .ok (226, .agg #[h]) w := by kernel_rfl
theorem mtAsg (h : Value) (w : yW) : (Go.method 377 196 (.agg #[h]) "AssignableTo").run Tryz.prog w = .ok (223, .agg #[h]) w := by kernel_rfl
theorem ty128 (a : Addr) (w : yW) : (ReflectliteValue.methodAny (ReflectliteValue.valueError "reflectlite.Value.Type" 0) (fun t _ _ _ => ReflectliteType.toType t) #[.agg #[.pointer (some ⟨4, 119, none⟩), .pointer (some a), .int .u64 150]]).run Tryz.prog w = .ok (.iface 196 (.agg #[.pointer (some ⟨4, 119, none⟩)])) w := by kernel_rfl
theorem kd128 (w:yW):((ReflectliteType.abiMethod fun t=>(fun a:Nat=>Value.int IntKind.u8 (a:Int)) <$> Rtype.kind t) #[.pointer (some 4¢119)]).run Tryz.prog w=.ok (zU 22) w:=by kernel_rfl
theorem kd74 (w:yW):((ReflectliteType.abiMethod fun t=>(fun a:Nat=>Value.int IntKind.u8 (a:Int)) <$> Rtype.kind t) #[.pointer (some 4¢118)]).run Tryz.prog w=.ok (zU 22) w:=by kernel_rfl
theorem pt128 (a:Addr) (w:yW):(ReflectliteValue.parts (.agg #[.pointer (some 4¢119),.pointer (some a),.int .u64 150])).run Tryz.prog w=.ok (some (119,a,150)) w:=by kernel_rfl
theorem pt74 (a:Addr) (w:yW):(ReflectliteValue.parts (.agg #[.pointer (some 4¢118),.pointer (some a),.int .u64 150])).run Tryz.prog w=.ok (some (118,a,150)) w:=by kernel_rfl
theorem pt74a (a:Addr) (w:yW):(ReflectliteValue.parts (.agg #[.pointer (some 4¢118),.pointer (some a),.int .u64 406])).run Tryz.prog w=.ok (some (118,a,406)) w:=by kernel_rfl
theorem el128 (w:yW):(Rtype.elem? 119).run Tryz.prog w=.ok (some 118) w:=by kernel_rfl
theorem mk74 (p:Addr) (w:yW):(ReflectliteValue.mk 118 p ReflectliteValue.flagAddr).run Tryz.prog w=.ok (.agg #[.pointer (some 4¢118),.pointer (some p),.int .u64 406]) w:=by kernel_rfl
theorem da74 (w:yW):(Rtype.directlyAssignable 118 118).run Tryz.prog w=.ok true w:=by kernel_rfl
theorem rl_parts (z:Sem Value) (f:TypeId→Addr→Nat→Nat→Sem Value) (v:Value):∃ g:Option (TypeId × Addr × Nat)→Sem Value,ReflectliteValue.method z f #[v]=(ReflectliteValue.parts v >>= g)∧∀ t a fl,g (some (t,a,fl))=f t a fl (fl % 32):=⟨_,rfl,fun _ _ _=>rfl⟩
theorem nil128 (a p:Addr) (W:yW) (ha:W.cell? a=some (.pointer (some p))) :
  (ReflectliteValue.method (ReflectliteValue.valueError "reflectlite.Value.IsNil" 0) ReflectliteValue.isNil #[.agg #[.pointer (some ⟨4, 119, none⟩), .pointer (some a), .int .u64 150]]).run Tryz.prog W = .ok (.bool false) W := by
 obtain ⟨g, h1, h2⟩ := rl_parts (ReflectliteValue.valueError "reflectlite.Value.IsNil" 0) ReflectliteValue.isNil (.agg #[.pointer (some ⟨4, 119, none⟩), .pointer (some a), .int .u64 150])
 rw [h1,Sem.run_bind,pt128]
 simp [Result.andThen,h2,ReflectliteValue.isNil,loadVar,isAgg,underlying,Tryz.underlying119,ha]
theorem elv128 (a p:Addr) (W:yW) (ha:W.cell? a=some (.pointer (some p))) :
  (ReflectliteValue.method (ReflectliteValue.valueError "reflectlite.Value.Elem" 0) ReflectliteValue.elem #[.agg #[.pointer (some ⟨4, 119, none⟩), .pointer (some a), .int .u64 150]]).run Tryz.prog W = .ok (.agg #[.pointer (some ⟨4, 118, none⟩), .pointer (some p), .int .u64 406]) W := by
 obtain ⟨g, h1, h2⟩ := rl_parts (ReflectliteValue.valueError "reflectlite.Value.Elem" 0) ReflectliteValue.elem (.agg #[.pointer (some ⟨4, 119, none⟩), .pointer (some a), .int .u64 150])
 rw [h1,Sem.run_bind,pt128]
 simp [Result.andThen,h2,ReflectliteValue.elem,loadVar,isAgg,underlying,Tryz.underlying119,ha,el128,mk74]
theorem rlv_set (v x:Value):∃ g:Option (TypeId × Addr × Nat)→Option (TypeId × Addr × Nat)→Sem Value,ReflectliteValue.set #[v,x]=(ReflectliteValue.parts v >>= fun p=>ReflectliteValue.parts x >>= fun q=>g p q)∧∀ dst a fl src b k,fl / ReflectliteValue.flagAddr % 2=1→∃ r:Value→Bool→Sem Value,g (some (dst,a,fl)) (some (src,b,k))=(loadVar src b >>= fun val=>Rtype.directlyAssignable dst src >>= r val)∧∀ val,r val true=(storeVar dst a val >>= fun _=>pure (.tuple #[])):=by
 refine⟨_,rfl,fun dst a fl src b k h=>?_⟩
 have h':(fl / ReflectliteValue.flagAddr % 2 == 0)=false:=by rw [h]; rfl
 simp only [h']
 exact⟨_,rfl,fun _=>rfl⟩
theorem set74 (ta b e:Addr) (old:Value) (W:yW) (hb:W.cell? b=some (.pointer (some e))) (ht:W.cell? ta=some old) (hf:W.frozen? ta=false) :
  (ReflectliteValue.set #[.agg #[.pointer (some 4¢118),.pointer (some ta),.int .u64 406],.agg #[.pointer (some 4¢118),.pointer (some b),.int .u64 150]]).run Tryz.prog W=.ok (.tuple #[]) (W.setCell ta (.pointer (some e))):=by
 obtain⟨g,h1,h2⟩:=rlv_set (.agg #[.pointer (some 4¢118),.pointer (some ta),.int .u64 406]) (.agg #[.pointer (some 4¢118),.pointer (some b),.int .u64 150])
 obtain⟨r,h3,h4⟩:=h2 118 ta 406 118 b 150 (by decide)
 rw [h1]
 simp only [Sem.run_bind,pt74a,pt74,Result.andThen,h3]
 simp [loadVar,isAgg,underlying,Tryz.underlying118,hb,Result.andThen,da74,h4,storeVar,Value.cells,storeCells,Addr.add]
 rw [run_store Tryz.prog W ta _ _ (by rfl)]
 simp [ht,hf]
theorem as_own (e t a:Addr) (old:Value) (w:yW) (ha:w.cell? a=some (.pointer (some t))) (ht0:w.cell? t=some old) (hf0:w.frozen? t=false) :
  Calls zG 98 #[.iface 118 (.pointer (some e)),.iface 119 (.pointer (some t)),.agg #[.pointer (some 4¢119),.pointer (some a),.int .u64 150],.iface 196 (.agg #[.pointer (some 4¢118)])] w fun ev w'=>ev=.returned (.bool true)∧∃ V,yD w V∧w'=V.setCell t (.pointer (some e)):=by
 have h50:=@run_callFunc_extern Tryz.prog 133 _ ReflectliteType.typeOf Tryz.func133 zK zK zK zK
 have h93:=@run_callFunc_extern Tryz.prog 95 _ (fun args=>ReflectliteValue.unpack (args.getD 0 (.tuple #[]))) Tryz.func95 zK zK zK zK
 have h118 := @run_callFunc_extern Tryz.prog 134 _ (ReflectliteValue.method (ReflectliteValue.valueError "reflectlite.Value.Elem" 0) ReflectliteValue.elem) Tryz.func134 zK zK zK zK
 have h119:=@run_callFunc_extern Tryz.prog 135 _ ReflectliteValue.set Tryz.func135 zK zK zK zK
 have h221 := @run_callFunc_extern Tryz.prog 223 _ (ReflectliteType.relation "AssignableTo" ReflectliteType.assignableTo) Tryz.func223 zK zK zK zK
 have mA:=mtAsg
 have tO:=tOf74
 have a74:=asg74_74
 have v74:=vOf74
 have b1:=Qc w (.cells #[.pointer (some 4¢119),.pointer (some a),.int .u64 150] 160)
 have s1:=Qf w (.cells #[.pointer (some 4¢119),.pointer (some a),.int .u64 150] 160)
 have b2:=Qc (w.alloc (.cells #[.pointer (some 4¢119),.pointer (some a),.int .u64 150] 160)) (.cells #[.pointer (some e)] 118)
 have n2:=Qd (w.alloc (.cells #[.pointer (some 4¢119),.pointer (some a),.int .u64 150] 160)) (.cells #[.pointer (some e)] 118)
 have HBB:Hid (yD w ((w.alloc (.cells #[.pointer (some 4¢119),.pointer (some a),.int .u64 150] 160)).alloc (.cells #[.pointer (some e)] 118))):=Qe b1 b2
 have el:=elv128 a t (w.alloc (.cells #[.pointer (some 4¢119),.pointer (some a),.int .u64 150] 160)) (by rw [World.cell?_alloc_lt _ _ a (World.block_lt_of_cell? w a ha)]; exact ha)
 have st:=set74 t ⟨w§+1,0,none⟩ e old ((w.alloc (.cells #[.pointer (some 4¢119),.pointer (some a),.int .u64 150] 160)).alloc (.cells #[.pointer (some e)] 118)) (by rw [s1] at n2; exact Qa n2 0)
  (by rw [World.cell?_alloc_lt _ _ t (by rw [s1]; exact Nat.lt_succ_of_lt (World.block_lt_of_cell? w t ht0)),World.cell?_alloc_lt _ _ t (World.block_lt_of_cell? w t ht0)]; exact ht0)
  (by rw [World.frozen?_alloc_old _ _ t (by rw [s1]; have:=World.block_lt_of_cell? w t ht0; omega),World.frozen?_alloc_old _ _ t (Nat.ne_of_lt (World.block_lt_of_cell? w t ht0))]; exact hf0)
 clear b1 s1 b2 n2
 go_enter Tryz.func98,Tryz.ntmps98
 go_wp2
 refine wp_loop_rounds 1 ?_
 rw [rounds_succ]
 go_wp2
 go_ret
 exact⟨rfl,_,HBB.out,rfl⟩
theorem asF_any (e t:Addr) (old:Value) (w:yW) (hg:w.cell? 0¢0=some (.iface 196 (.agg #[.pointer (some 4¢36)]))) (ht0:w.cell? t=some old) (hf0:w.frozen? t=false) :
  Calls zG 63 #[.iface 118 (.pointer (some e)),.iface 119 (.pointer (some t))] w fun ev w'=>ev=.returned (.bool true)∧∃ V,yD w V∧w'=V.setCell t (.pointer (some e)):=by
 have h93:=@run_callFunc_extern Tryz.prog 95 _ (fun args=>ReflectliteValue.unpack (args.getD 0 (.tuple #[]))) Tryz.func95 zK zK zK zK
 have h94 := @run_callFunc_extern Tryz.prog 96 _ (ReflectliteValue.methodAny (ReflectliteValue.valueError "reflectlite.Value.Type" 0) (fun t _ _ _ => ReflectliteType.toType t)) Tryz.func96 zK zK zK zK
 have h95 := @run_callFunc_extern Tryz.prog 97 _ (ReflectliteValue.method (ReflectliteValue.valueError "reflectlite.Value.IsNil" 0) ReflectliteValue.isNil) Tryz.func97 zK zK zK zK
 have h210:=@run_callFunc_extern Tryz.prog 213 _ (ReflectliteType.abiMethod fun t=>do pure (zU (← Rtype.kind t))) Tryz.func213 zK zK zK zK
 have h223:=@run_callFunc_extern Tryz.prog 225 _ (ReflectliteType.method ReflectliteType.elem) Tryz.func225 zK zK zK zK
 have h224 := @run_callFunc_extern Tryz.prog 226 _ (ReflectliteType.relation "Implements" ReflectliteType.implements_) Tryz.func226 zK zK zK zK
 have mK:=mtKind
 have mE:=mtElem
 have mI:=mtImpl
 have v128:=vOf128
 have y128:=ty128
 have k128:=kd128
 have k74:=kd74
 have e128:=elm128
 have i74:=imp74
 have l0:=World.block_lt_of_cell? w 0¢0 hg
 have lt:=World.block_lt_of_cell? w t ht0
 have b1:=Qc w (.cells #[.pointer (some t)] 119)
 have s1:=Qf w (.cells #[.pointer (some t)] 119)
 have n1:=Qd w (.cells #[.pointer (some t)] 119)
 have b2:=Qc (w.alloc (.cells #[.pointer (some t)] 119)) (.cells #[.pointer (some 4¢119),zP w§,.int .u64 150] 160)
 have HBB:Hid (yD w ((w.alloc (.cells #[.pointer (some t)] 119)).alloc (.cells #[.pointer (some 4¢119),zP w§,.int .u64 150] 160))):=Qe b1 b2
 have ca:((w.alloc (.cells #[.pointer (some t)] 119)).alloc (.cells #[.pointer (some 4¢119),zP w§,.int .u64 150] 160)).cell? w§¢0=some (.pointer (some t)):=Qa ((b2.block _ (by omega)).trans n1) 0
 have hg2:((w.alloc (.cells #[.pointer (some t)] 119)).alloc (.cells #[.pointer (some 4¢119),zP w§,.int .u64 150] 160)).cell? 0¢0=some (.iface 196 (.agg #[.pointer (some 4¢36)])):=by
  rw [HBB.out.cell l0]; exact hg
 have n8:=nil128 w§¢0 t ((w.alloc (.cells #[.pointer (some t)] 119)).alloc (.cells #[.pointer (some 4¢119),zP w§,.int .u64 150] 160)) ca
 have cS:=as_own e t w§¢0 old ((w.alloc (.cells #[.pointer (some t)] 119)).alloc (.cells #[.pointer (some 4¢119),zP w§,.int .u64 150] 160)) ca (by rw [HBB.out.cell lt]; exact ht0) (by rw [World.frozen?_alloc_old _ _ t (by rw [s1]; omega),World.frozen?_alloc_old _ _ t (by omega)]; exact hf0)
 clear b1 s1 n1 b2 ca
 go_enter Tryz.func63,Tryz.ntmps63
 go_wp2_with fail
 refine cS.mono ?_
 rintro ev w' ⟨rfl,V,hV,rfl⟩
 have HV:Hid (yD w V):=Qe HBB.out hV
 clear cS hV
 go_wp2_with fail
 go_ret
 exact⟨rfl,V,HV.out,rfl⟩
theorem vOf48 (n:Int) (w:yW):(ReflectliteValue.unpack (.iface 28 (zI n))).run Tryz.prog w=.ok (.agg #[.pointer (some 4¢28),zP w§,.int .u64 130]) (w.alloc (.cells #[zI n] 28)):=by kernel_rfl
theorem ty161 (a : Addr) (w : yW) : (ReflectliteValue.methodAny (ReflectliteValue.valueError "reflectlite.Value.Type" 0) (fun t _ _ _ => ReflectliteType.toType t) #[.agg #[.pointer (some ⟨4, 117, none⟩), .pointer (some a), .int .u64 150]]).run Tryz.prog w = .ok (.iface 196 (.agg #[.pointer (some ⟨4, 117, none⟩)])) w := by kernel_rfl
theorem kd161 (w:yW):((ReflectliteType.abiMethod fun t=>(fun a:Nat=>Value.int IntKind.u8 (a:Int)) <$> Rtype.kind t) #[.pointer (some 4¢117)]).run Tryz.prog w=.ok (zU 22) w:=by kernel_rfl
theorem kd48 (w:yW):((ReflectliteType.abiMethod fun t=>(fun a:Nat=>Value.int IntKind.u8 (a:Int)) <$> Rtype.kind t) #[.pointer (some 4¢28)]).run Tryz.prog w=.ok (zU 2) w:=by kernel_rfl
theorem pt161 (a:Addr) (w:yW):(ReflectliteValue.parts (.agg #[.pointer (some 4¢117),.pointer (some a),.int .u64 150])).run Tryz.prog w=.ok (some (117,a,150)) w:=by kernel_rfl
theorem pt48 (a:Addr) (w:yW):(ReflectliteValue.parts (.agg #[.pointer (some 4¢28),.pointer (some a),.int .u64 130])).run Tryz.prog w=.ok (some (28,a,130)) w:=by kernel_rfl
theorem pt48a (a:Addr) (w:yW):(ReflectliteValue.parts (.agg #[.pointer (some 4¢28),.pointer (some a),.int .u64 386])).run Tryz.prog w=.ok (some (28,a,386)) w:=by kernel_rfl
theorem el161 (w:yW):(Rtype.elem? 117).run Tryz.prog w=.ok (some 28) w:=by kernel_rfl
theorem mk48 (p:Addr) (w:yW):(ReflectliteValue.mk 28 p ReflectliteValue.flagAddr).run Tryz.prog w=.ok (.agg #[.pointer (some 4¢28),.pointer (some p),.int .u64 386]) w:=by kernel_rfl
theorem da48 (w:yW):(Rtype.directlyAssignable 28 28).run Tryz.prog w=.ok true w:=by kernel_rfl
theorem nil161 (a p:Addr) (W:yW) (ha:W.cell? a=some (.pointer (some p))) :
  (ReflectliteValue.method (ReflectliteValue.valueError "reflectlite.Value.IsNil" 0) ReflectliteValue.isNil #[.agg #[.pointer (some ⟨4, 117, none⟩), .pointer (some a), .int .u64 150]]).run Tryz.prog W = .ok (.bool false) W := by
 obtain ⟨g, h1, h2⟩ := rl_parts (ReflectliteValue.valueError "reflectlite.Value.IsNil" 0) ReflectliteValue.isNil (.agg #[.pointer (some ⟨4, 117, none⟩), .pointer (some a), .int .u64 150])
 rw [h1,Sem.run_bind,pt161]
 simp [Result.andThen,h2,ReflectliteValue.isNil,loadVar,isAgg,underlying,Tryz.underlying117,ha]
theorem elv161 (a p:Addr) (W:yW) (ha:W.cell? a=some (.pointer (some p))) :
  (ReflectliteValue.method (ReflectliteValue.valueError "reflectlite.Value.Elem" 0) ReflectliteValue.elem #[.agg #[.pointer (some ⟨4, 117, none⟩), .pointer (some a), .int .u64 150]]).run Tryz.prog W = .ok (.agg #[.pointer (some ⟨4, 28, none⟩), .pointer (some p), .int .u64 386]) W := by
 obtain ⟨g, h1, h2⟩ := rl_parts (ReflectliteValue.valueError "reflectlite.Value.Elem" 0) ReflectliteValue.elem (.agg #[.pointer (some ⟨4, 117, none⟩), .pointer (some a), .int .u64 150])
 rw [h1,Sem.run_bind,pt161]
 simp [Result.andThen,h2,ReflectliteValue.elem,loadVar,isAgg,underlying,Tryz.underlying117,ha,el161,mk48]
theorem set48 (ta b:Addr) (n:Int) (old:Value) (W:yW) (hb:W.cell? b=some (zI n)) (ht:W.cell? ta=some old) (hf:W.frozen? ta=false) :
  (ReflectliteValue.set #[.agg #[.pointer (some 4¢28),.pointer (some ta),.int .u64 386],.agg #[.pointer (some 4¢28),.pointer (some b),.int .u64 130]]).run Tryz.prog W=.ok (.tuple #[]) (W.setCell ta (zI n)):=by
 obtain⟨g,h1,h2⟩:=rlv_set (.agg #[.pointer (some 4¢28),.pointer (some ta),.int .u64 386]) (.agg #[.pointer (some 4¢28),.pointer (some b),.int .u64 130])
 obtain⟨r,h3,h4⟩:=h2 28 ta 386 28 b 130 (by decide)
 rw [h1]
 simp only [Sem.run_bind,pt48a,pt48,Result.andThen,h3]
 simp [loadVar,isAgg,underlying,Tryz.underlying28,hb,Result.andThen,da48,h4,storeVar,Value.cells,storeCells,Addr.add]
 rw [run_store Tryz.prog W ta _ _ (by rfl)]
 simp [ht,hf]
theorem no74_As (v:Value) (w:yW):(Instr.typeAssert (.iface 118 v) 36 201 true).run Tryz.prog w=.ok (.tuple #[.nilIface,.bool false]) w:=run_typeAssert_lacksB Tryz.underlying201 zK zK v 36 w
theorem no48_As (v:Value) (w:yW):(Instr.typeAssert (.iface 28 v) 36 201 true).run Tryz.prog w=.ok (.tuple #[.nilIface,.bool false]) w:=run_typeAssert_lacksB Tryz.underlying201 zK zK v 36 w
theorem is74_Un (v:Value) (w:yW):(Instr.typeAssert (.iface 118 v) 36 204 true).run Tryz.prog w=.ok (.tuple #[.iface 118 v,.bool true]) w:=by kernel_rfl
theorem no48_Un (v:Value) (w:yW):(Instr.typeAssert (.iface 28 v) 36 204 true).run Tryz.prog w=.ok (.tuple #[.nilIface,.bool false]) w:=run_typeAssert_lacksB Tryz.underlying204 zK zK v 36 w
theorem no48_Uns (v:Value) (w:yW):(Instr.typeAssert (.iface 28 v) 36 206 true).run Tryz.prog w=.ok (.tuple #[.nilIface,.bool false]) w:=run_typeAssert_lacksB Tryz.underlying206 zK zK v 36 w
theorem mtUn (p : Value) (w : yW) : (Go.method 377 118 p "Unwrap").run Tryz.prog w = .ok (218, p) w := by kernel_rfl
theorem asE1 (n:Int) (t a:Addr) (old:Value) (w:yW) (ha:w.cell? a=some (.pointer (some t))) (ht0:w.cell? t=some old) (hf0:w.frozen? t=false) :
  Calls zG 98 #[.iface 28 (zI n),.iface 117 (.pointer (some t)),.agg #[.pointer (some 4¢117),.pointer (some a),.int .u64 150],.iface 196 (.agg #[.pointer (some 4¢28)])] w fun ev w'=>ev=.returned (.bool true)∧∃ V,yD w V∧w'=V.setCell t (zI n):=by
 have h50:=@run_callFunc_extern Tryz.prog 133 _ ReflectliteType.typeOf Tryz.func133 zK zK zK zK
 have h93:=@run_callFunc_extern Tryz.prog 95 _ (fun args=>ReflectliteValue.unpack (args.getD 0 (.tuple #[]))) Tryz.func95 zK zK zK zK
 have h118 := @run_callFunc_extern Tryz.prog 134 _ (ReflectliteValue.method (ReflectliteValue.valueError "reflectlite.Value.Elem" 0) ReflectliteValue.elem) Tryz.func134 zK zK zK zK
 have h119:=@run_callFunc_extern Tryz.prog 135 _ ReflectliteValue.set Tryz.func135 zK zK zK zK
 have h221 := @run_callFunc_extern Tryz.prog 223 _ (ReflectliteType.relation "AssignableTo" ReflectliteType.assignableTo) Tryz.func223 zK zK zK zK
 have mA:=mtAsg
 have tO:=tOf48
 have a48:=asg48_48
 have v48:=vOf48
 have b1:=Qc w (.cells #[.pointer (some 4¢117),.pointer (some a),.int .u64 150] 160)
 have s1:=Qf w (.cells #[.pointer (some 4¢117),.pointer (some a),.int .u64 150] 160)
 have b2:=Qc (w.alloc (.cells #[.pointer (some 4¢117),.pointer (some a),.int .u64 150] 160)) (.cells #[zI n] 28)
 have n2:=Qd (w.alloc (.cells #[.pointer (some 4¢117),.pointer (some a),.int .u64 150] 160)) (.cells #[zI n] 28)
 have HBB:Hid (yD w ((w.alloc (.cells #[.pointer (some 4¢117),.pointer (some a),.int .u64 150] 160)).alloc (.cells #[zI n] 28))):=Qe b1 b2
 have el:=elv161 a t (w.alloc (.cells #[.pointer (some 4¢117),.pointer (some a),.int .u64 150] 160)) (by rw [World.cell?_alloc_lt _ _ a (World.block_lt_of_cell? w a ha)]; exact ha)
 have st:=set48 t ⟨w§+1,0,none⟩ n old ((w.alloc (.cells #[.pointer (some 4¢117),.pointer (some a),.int .u64 150] 160)).alloc (.cells #[zI n] 28)) (by rw [s1] at n2; exact Qa n2 0)
  (by rw [World.cell?_alloc_lt _ _ t (by rw [s1]; exact Nat.lt_succ_of_lt (World.block_lt_of_cell? w t ht0)),World.cell?_alloc_lt _ _ t (World.block_lt_of_cell? w t ht0)]; exact ht0)
  (by rw [World.frozen?_alloc_old _ _ t (by rw [s1]; have:=World.block_lt_of_cell? w t ht0; omega),World.frozen?_alloc_old _ _ t (Nat.ne_of_lt (World.block_lt_of_cell? w t ht0))]; exact hf0)
 clear b1 s1 b2 n2
 go_enter Tryz.func98,Tryz.ntmps98
 go_wp2
 refine wp_loop_rounds 1 ?_
 rw [rounds_succ]
 go_wp2
 go_ret
 exact⟨rfl,_,HBB.out,rfl⟩
theorem asE2 (F:Nat) (call:yB) (at':Int) (n:Int) (t a:Addr) (old:Value) (w:yW) (ha:w.cell? a=some (.pointer (some t))) (ht0:w.cell? t=some old) (hf0:w.frozen? t=false) (hF:w.heap[F]? = (zC #[.string call,zI at',.iface 28 (zI n)] 121)) :
  Calls zG 98 #[.iface 118 (zP F),.iface 117 (.pointer (some t)),.agg #[.pointer (some 4¢117),.pointer (some a),.int .u64 150],.iface 196 (.agg #[.pointer (some 4¢28)])] w fun ev w'=>ev=.returned (.bool true)∧∃ V,yD w V∧w'=V.setCell t (zI n):=by
 have h50:=@run_callFunc_extern Tryz.prog 133 _ ReflectliteType.typeOf Tryz.func133 zK zK zK zK
 have h93:=@run_callFunc_extern Tryz.prog 95 _ (fun args=>ReflectliteValue.unpack (args.getD 0 (.tuple #[]))) Tryz.func95 zK zK zK zK
 have h118 := @run_callFunc_extern Tryz.prog 134 _ (ReflectliteValue.method (ReflectliteValue.valueError "reflectlite.Value.Elem" 0) ReflectliteValue.elem) Tryz.func134 zK zK zK zK
 have h119:=@run_callFunc_extern Tryz.prog 135 _ ReflectliteValue.set Tryz.func135 zK zK zK zK
 have h221 := @run_callFunc_extern Tryz.prog 223 _ (ReflectliteType.relation "AssignableTo" ReflectliteType.assignableTo) Tryz.func223 zK zK zK zK
 have mA:=mtAsg
 have mU:=mtUn
 have tO7:=tOf74
 have a74:=asg74_48
 have n74:=no74_As
 have i74:=is74_Un
 have b1:=Qc w (.cells #[.pointer (some 4¢117),.pointer (some a),.int .u64 150] 160)
 have c1:(w.alloc (.cells #[.pointer (some 4¢117),.pointer (some a),.int .u64 150] 160)).cell? F¢2=some _:=Qa ((b1.block _ (zJ hF).1).trans hF) 2
 have tO:=tOf48
 have a48:=asg48_48
 have v48:=vOf48
 have s1:=Qf w (.cells #[.pointer (some 4¢117),.pointer (some a),.int .u64 150] 160)
 have b2:=Qc (w.alloc (.cells #[.pointer (some 4¢117),.pointer (some a),.int .u64 150] 160)) (.cells #[zI n] 28)
 have n2:=Qd (w.alloc (.cells #[.pointer (some 4¢117),.pointer (some a),.int .u64 150] 160)) (.cells #[zI n] 28)
 have HBB:Hid (yD w ((w.alloc (.cells #[.pointer (some 4¢117),.pointer (some a),.int .u64 150] 160)).alloc (.cells #[zI n] 28))):=Qe b1 b2
 have el:=elv161 a t (w.alloc (.cells #[.pointer (some 4¢117),.pointer (some a),.int .u64 150] 160)) (by rw [World.cell?_alloc_lt _ _ a (World.block_lt_of_cell? w a ha)]; exact ha)
 have st:=set48 t ⟨w§+1,0,none⟩ n old ((w.alloc (.cells #[.pointer (some 4¢117),.pointer (some a),.int .u64 150] 160)).alloc (.cells #[zI n] 28)) (by rw [s1] at n2; exact Qa n2 0)
  (by rw [World.cell?_alloc_lt _ _ t (by rw [s1]; exact Nat.lt_succ_of_lt (World.block_lt_of_cell? w t ht0)),World.cell?_alloc_lt _ _ t (World.block_lt_of_cell? w t ht0)]; exact ht0)
  (by rw [World.frozen?_alloc_old _ _ t (by rw [s1]; have:=World.block_lt_of_cell? w t ht0; omega),World.frozen?_alloc_old _ _ t (Nat.ne_of_lt (World.block_lt_of_cell? w t ht0))]; exact hf0)
 clear b1 s1 b2 n2 hF
 go_enter Tryz.func98,Tryz.ntmps98
 go_wp2
 refine wp_loop_rounds 2 ?_
 rw [rounds_succ]
 go_wp2
 rw [rounds_succ]
 go_wp2
 go_ret
 exact⟨rfl,_,HBB.out,rfl⟩
theorem asE3 (F:Nat) (call:yB) (at':Int) (G:Nat) (call2:yB) (at2:Int) (n:Int) (t a:Addr) (old:Value) (w:yW) (ha:w.cell? a=some (.pointer (some t))) (ht0:w.cell? t=some old) (hf0:w.frozen? t=false) (hF:w.heap[F]? = (zC #[.string call,zI at',.iface 118 (zP G)] 121)) (hG:w.heap[G]? = (zC #[.string call2,zI at2,.iface 28 (zI n)] 121)) :
  Calls zG 98 #[.iface 118 (zP F),.iface 117 (.pointer (some t)),.agg #[.pointer (some 4¢117),.pointer (some a),.int .u64 150],.iface 196 (.agg #[.pointer (some 4¢28)])] w fun ev w'=>ev=.returned (.bool true)∧∃ V,yD w V∧w'=V.setCell t (zI n):=by
 have h50:=@run_callFunc_extern Tryz.prog 133 _ ReflectliteType.typeOf Tryz.func133 zK zK zK zK
 have h93:=@run_callFunc_extern Tryz.prog 95 _ (fun args=>ReflectliteValue.unpack (args.getD 0 (.tuple #[]))) Tryz.func95 zK zK zK zK
 have h118 := @run_callFunc_extern Tryz.prog 134 _ (ReflectliteValue.method (ReflectliteValue.valueError "reflectlite.Value.Elem" 0) ReflectliteValue.elem) Tryz.func134 zK zK zK zK
 have h119:=@run_callFunc_extern Tryz.prog 135 _ ReflectliteValue.set Tryz.func135 zK zK zK zK
 have h221 := @run_callFunc_extern Tryz.prog 223 _ (ReflectliteType.relation "AssignableTo" ReflectliteType.assignableTo) Tryz.func223 zK zK zK zK
 have mA:=mtAsg
 have mU:=mtUn
 have tO7:=tOf74
 have a74:=asg74_48
 have n74:=no74_As
 have i74:=is74_Un
 have b1:=Qc w (.cells #[.pointer (some 4¢117),.pointer (some a),.int .u64 150] 160)
 have c1:(w.alloc (.cells #[.pointer (some 4¢117),.pointer (some a),.int .u64 150] 160)).cell? F¢2=some _:=Qa ((b1.block _ (zJ hF).1).trans hF) 2
 have c2:(w.alloc (.cells #[.pointer (some 4¢117),.pointer (some a),.int .u64 150] 160)).cell? G¢2=some _:=Qa ((b1.block _ (zJ hG).1).trans hG) 2
 have tO:=tOf48
 have a48:=asg48_48
 have v48:=vOf48
 have s1:=Qf w (.cells #[.pointer (some 4¢117),.pointer (some a),.int .u64 150] 160)
 have b2:=Qc (w.alloc (.cells #[.pointer (some 4¢117),.pointer (some a),.int .u64 150] 160)) (.cells #[zI n] 28)
 have n2:=Qd (w.alloc (.cells #[.pointer (some 4¢117),.pointer (some a),.int .u64 150] 160)) (.cells #[zI n] 28)
 have HBB:Hid (yD w ((w.alloc (.cells #[.pointer (some 4¢117),.pointer (some a),.int .u64 150] 160)).alloc (.cells #[zI n] 28))):=Qe b1 b2
 have el:=elv161 a t (w.alloc (.cells #[.pointer (some 4¢117),.pointer (some a),.int .u64 150] 160)) (by rw [World.cell?_alloc_lt _ _ a (World.block_lt_of_cell? w a ha)]; exact ha)
 have st:=set48 t ⟨w§+1,0,none⟩ n old ((w.alloc (.cells #[.pointer (some 4¢117),.pointer (some a),.int .u64 150] 160)).alloc (.cells #[zI n] 28)) (by rw [s1] at n2; exact Qa n2 0)
  (by rw [World.cell?_alloc_lt _ _ t (by rw [s1]; exact Nat.lt_succ_of_lt (World.block_lt_of_cell? w t ht0)),World.cell?_alloc_lt _ _ t (World.block_lt_of_cell? w t ht0)]; exact ht0)
  (by rw [World.frozen?_alloc_old _ _ t (by rw [s1]; have:=World.block_lt_of_cell? w t ht0; omega),World.frozen?_alloc_old _ _ t (Nat.ne_of_lt (World.block_lt_of_cell? w t ht0))]; exact hf0)
 clear b1 s1 b2 n2 hF hG
 go_enter Tryz.func98,Tryz.ntmps98
 go_wp2
 refine wp_loop_rounds 3 ?_
 rw [rounds_succ]
 go_wp2
 rw [rounds_succ]
 go_wp2
 rw [rounds_succ]
 go_wp2
 go_ret
 exact⟨rfl,_,HBB.out,rfl⟩
theorem asN1 (F:Nat) (call:yB) (at':Int)  (t a:Addr) (w:yW) (hF:w.heap[F]? = (zC #[.string call,zI at',.nilIface] 121)) :
  Calls zG 98 #[.iface 118 (zP F),.iface 117 (.pointer (some t)),.agg #[.pointer (some 4¢117),.pointer (some a),.int .u64 150],.iface 196 (.agg #[.pointer (some 4¢28)])] w fun ev w'=>ev=.returned (.bool false)∧yD w w':=by
 have h50:=@run_callFunc_extern Tryz.prog 133 _ ReflectliteType.typeOf Tryz.func133 zK zK zK zK
 have h93:=@run_callFunc_extern Tryz.prog 95 _ (fun args=>ReflectliteValue.unpack (args.getD 0 (.tuple #[]))) Tryz.func95 zK zK zK zK
 have h118 := @run_callFunc_extern Tryz.prog 134 _ (ReflectliteValue.method (ReflectliteValue.valueError "reflectlite.Value.Elem" 0) ReflectliteValue.elem) Tryz.func134 zK zK zK zK
 have h119:=@run_callFunc_extern Tryz.prog 135 _ ReflectliteValue.set Tryz.func135 zK zK zK zK
 have h221 := @run_callFunc_extern Tryz.prog 223 _ (ReflectliteType.relation "AssignableTo" ReflectliteType.assignableTo) Tryz.func223 zK zK zK zK
 have mA:=mtAsg
 have mU:=mtUn
 have tO7:=tOf74
 have a74:=asg74_48
 have n74:=no74_As
 have i74:=is74_Un
 have b1:=Qc w (.cells #[.pointer (some 4¢117),.pointer (some a),.int .u64 150] 160)
 have c1:(w.alloc (.cells #[.pointer (some 4¢117),.pointer (some a),.int .u64 150] 160)).cell? F¢2=some _:=Qa ((b1.block _ (zJ hF).1).trans hF) 2
 have HB1:Hid (yD w (w.alloc (.cells #[.pointer (some 4¢117),.pointer (some a),.int .u64 150] 160))):=b1
 clear b1 hF
 go_enter Tryz.func98,Tryz.ntmps98
 go_wp2
 refine wp_loop_rounds 1 ?_
 rw [rounds_succ]
 go_wp2
 go_ret
 exact⟨rfl,HB1.out⟩
theorem as49E (T:TypeId) (x:Value) (t:Addr) (w:yW) (hg:w.cell? 0¢0=some (.iface 196 (.agg #[.pointer (some 4¢36)]))) (Q:Bool→yW→Prop)
  (cS:Calls zG 98 #[.iface T x,.iface 117 (.pointer (some t)),.agg #[.pointer (some 4¢117),zP w§,.int .u64 150],.iface 196 (.agg #[.pointer (some 4¢28)])] ((w.alloc (.cells #[.pointer (some t)] 117)).alloc (.cells #[.pointer (some 4¢117),zP w§,.int .u64 150] 160)) fun ev w'=>∃ b,ev=.returned (.bool b)∧Q b w') :
  Calls zG 63 #[.iface T x,.iface 117 (.pointer (some t))] w fun ev w'=>∃ b,ev=.returned (.bool b)∧Q b w':=by
 have h93:=@run_callFunc_extern Tryz.prog 95 _ (fun args=>ReflectliteValue.unpack (args.getD 0 (.tuple #[]))) Tryz.func95 zK zK zK zK
 have h94 := @run_callFunc_extern Tryz.prog 96 _ (ReflectliteValue.methodAny (ReflectliteValue.valueError "reflectlite.Value.Type" 0) (fun t _ _ _ => ReflectliteType.toType t)) Tryz.func96 zK zK zK zK
 have h95 := @run_callFunc_extern Tryz.prog 97 _ (ReflectliteValue.method (ReflectliteValue.valueError "reflectlite.Value.IsNil" 0) ReflectliteValue.isNil) Tryz.func97 zK zK zK zK
 have h210:=@run_callFunc_extern Tryz.prog 213 _ (ReflectliteType.abiMethod fun t=>do pure (zU (← Rtype.kind t))) Tryz.func213 zK zK zK zK
 have h223:=@run_callFunc_extern Tryz.prog 225 _ (ReflectliteType.method ReflectliteType.elem) Tryz.func225 zK zK zK zK
 have h224 := @run_callFunc_extern Tryz.prog 226 _ (ReflectliteType.relation "Implements" ReflectliteType.implements_) Tryz.func226 zK zK zK zK
 have mK:=mtKind
 have mE:=mtElem
 have mI:=mtImpl
 have v128:=vOf161
 have y128:=ty161
 have k128:=kd161
 have k74:=kd48
 have e128:=elm161
 have i74:=imp48
 have l0:=World.block_lt_of_cell? w 0¢0 hg
 have b1:=Qc w (.cells #[.pointer (some t)] 117)
 have s1:=Qf w (.cells #[.pointer (some t)] 117)
 have n1:=Qd w (.cells #[.pointer (some t)] 117)
 have b2:=Qc (w.alloc (.cells #[.pointer (some t)] 117)) (.cells #[.pointer (some 4¢117),zP w§,.int .u64 150] 160)
 have ca:((w.alloc (.cells #[.pointer (some t)] 117)).alloc (.cells #[.pointer (some 4¢117),zP w§,.int .u64 150] 160)).cell? w§¢0=some (.pointer (some t)):=Qa ((b2.block _ (by omega)).trans n1) 0
 have hg2:((w.alloc (.cells #[.pointer (some t)] 117)).alloc (.cells #[.pointer (some 4¢117),zP w§,.int .u64 150] 160)).cell? 0¢0=some (.iface 196 (.agg #[.pointer (some 4¢36)])):=by
  rw [(Qe b1 b2).cell l0]; exact hg
 have n8:=nil161 w§¢0 t ((w.alloc (.cells #[.pointer (some t)] 117)).alloc (.cells #[.pointer (some 4¢117),zP w§,.int .u64 150] 160)) ca
 clear b1 s1 n1 b2 ca
 go_enter Tryz.func63,Tryz.ntmps63
 go_wp2_with fail
 refine cS.mono ?_
 rintro ev w' ⟨b,rfl,hq⟩
 have HQ:Hid (Q b w'):=hq
 clear cS hq
 go_wp2_with fail
 go_ret
 exact⟨b,rfl,HQ.out⟩
theorem as49F (T:TypeId) (x:Value) (t:Addr) (w:yW) (hg:w.cell? 0¢0=some (.iface 196 (.agg #[.pointer (some 4¢36)]))) (Q:Bool→yW→Prop)
  (cS:Calls zG 98 #[.iface T x,.iface 119 (.pointer (some t)),.agg #[.pointer (some 4¢119),zP w§,.int .u64 150],.iface 196 (.agg #[.pointer (some 4¢118)])] ((w.alloc (.cells #[.pointer (some t)] 119)).alloc (.cells #[.pointer (some 4¢119),zP w§,.int .u64 150] 160)) fun ev w'=>∃ b,ev=.returned (.bool b)∧Q b w') :
  Calls zG 63 #[.iface T x,.iface 119 (.pointer (some t))] w fun ev w'=>∃ b,ev=.returned (.bool b)∧Q b w':=by
 have h93:=@run_callFunc_extern Tryz.prog 95 _ (fun args=>ReflectliteValue.unpack (args.getD 0 (.tuple #[]))) Tryz.func95 zK zK zK zK
 have h94 := @run_callFunc_extern Tryz.prog 96 _ (ReflectliteValue.methodAny (ReflectliteValue.valueError "reflectlite.Value.Type" 0) (fun t _ _ _ => ReflectliteType.toType t)) Tryz.func96 zK zK zK zK
 have h95 := @run_callFunc_extern Tryz.prog 97 _ (ReflectliteValue.method (ReflectliteValue.valueError "reflectlite.Value.IsNil" 0) ReflectliteValue.isNil) Tryz.func97 zK zK zK zK
 have h210:=@run_callFunc_extern Tryz.prog 213 _ (ReflectliteType.abiMethod fun t=>do pure (zU (← Rtype.kind t))) Tryz.func213 zK zK zK zK
 have h223:=@run_callFunc_extern Tryz.prog 225 _ (ReflectliteType.method ReflectliteType.elem) Tryz.func225 zK zK zK zK
 have h224 := @run_callFunc_extern Tryz.prog 226 _ (ReflectliteType.relation "Implements" ReflectliteType.implements_) Tryz.func226 zK zK zK zK
 have mK:=mtKind
 have mE:=mtElem
 have mI:=mtImpl
 have v128:=vOf128
 have y128:=ty128
 have k128:=kd128
 have k74:=kd74
 have e128:=elm128
 have i74:=imp74
 have l0:=World.block_lt_of_cell? w 0¢0 hg
 have b1:=Qc w (.cells #[.pointer (some t)] 119)
 have s1:=Qf w (.cells #[.pointer (some t)] 119)
 have n1:=Qd w (.cells #[.pointer (some t)] 119)
 have b2:=Qc (w.alloc (.cells #[.pointer (some t)] 119)) (.cells #[.pointer (some 4¢119),zP w§,.int .u64 150] 160)
 have ca:((w.alloc (.cells #[.pointer (some t)] 119)).alloc (.cells #[.pointer (some 4¢119),zP w§,.int .u64 150] 160)).cell? w§¢0=some (.pointer (some t)):=Qa ((b2.block _ (by omega)).trans n1) 0
 have hg2:((w.alloc (.cells #[.pointer (some t)] 119)).alloc (.cells #[.pointer (some 4¢119),zP w§,.int .u64 150] 160)).cell? 0¢0=some (.iface 196 (.agg #[.pointer (some 4¢36)])):=by
  rw [(Qe b1 b2).cell l0]; exact hg
 have n8:=nil128 w§¢0 t ((w.alloc (.cells #[.pointer (some t)] 119)).alloc (.cells #[.pointer (some 4¢119),zP w§,.int .u64 150] 160)) ca
 clear b1 s1 n1 b2 ca
 go_enter Tryz.func63,Tryz.ntmps63
 go_wp2_with fail
 refine cS.mono ?_
 rintro ev w' ⟨b,rfl,hq⟩
 have HQ:Hid (Q b w'):=hq
 clear cS hq
 go_wp2_with fail
 go_ret
 exact⟨b,rfl,HQ.out⟩
theorem asN0 (n:Int) (t a:Addr) (w:yW) :
  Calls zG 98 #[.iface 28 (zI n),.iface 119 (.pointer (some t)),.agg #[.pointer (some 4¢119),.pointer (some a),.int .u64 150],.iface 196 (.agg #[.pointer (some 4¢118)])] w fun ev w'=>ev=.returned (.bool false)∧yD w w':=by
 have h50:=@run_callFunc_extern Tryz.prog 133 _ ReflectliteType.typeOf Tryz.func133 zK zK zK zK
 have h221 := @run_callFunc_extern Tryz.prog 223 _ (ReflectliteType.relation "AssignableTo" ReflectliteType.assignableTo) Tryz.func223 zK zK zK zK
 have mA:=mtAsg
 have tO:=tOf48
 have a48:=asg48_74
 have q1:=no48_As
 have q2:=no48_Un
 have q3:=no48_Uns
 have HB1:Hid (yD w (w.alloc (.cells #[.pointer (some 4¢119),.pointer (some a),.int .u64 150] 160))):=Qc w _
 go_enter Tryz.func98,Tryz.ntmps98
 go_wp2
 refine wp_loop_rounds 1 ?_
 rw [rounds_succ]
 go_wp2
 go_ret
 exact⟨rfl,HB1.out⟩
def Er (w:yW) (v:Value) (n p:Int):Prop :=
 (v=.iface 28 (zI n)∧p=0) ∨
 (∃ F c,v=.iface 118 (zP F)∧w.heap[F]? = (zC #[.string c,zI p,.iface 28 (zI n)] 121)) ∨
 (∃ F c G c2 p2,v=.iface 118 (zP F)∧w.heap[F]? = (zC #[.string c,zI p,.iface 118 (zP G)] 121)∧w.heap[G]? = (zC #[.string c2,zI p2,.iface 28 (zI n)] 121)) ∨
 (∃ F c,v=.iface 118 (zP F)∧w.heap[F]? = (zC #[.string c,zI p,.nilIface] 121)∧n = -1)
theorem Er.on {w w':yW}{v:Value}{n p:Int}(h:Er w v n p) (hb:yD w w'):Er w' v n p:=by
 have k:∀ {F:Nat}{o},w.heap[F]? = some o→w'.heap[F]? = some o:=fun hF=>(hb.block _ (zJ hF).1).trans hF
 rcases h with h | ⟨F,c,h1,h2⟩ | ⟨F,c,G,c2,p2,h1,h2,h3⟩ | ⟨F,c,h1,h2,h3⟩
 ·exact .inl h
 ·exact .inr (.inl ⟨F,c,h1,k h2⟩)
 ·exact .inr (.inr (.inl ⟨F,c,G,c2,p2,h1,k h2,k h3⟩))
 ·exact .inr (.inr (.inr ⟨F,c,h1,k h2,h3⟩))
theorem asE_any {w:yW}{v:Value}{n p:Int}(h:Er w v n p) (t a:Addr) (old:Value) (ha:w.cell? a=some (.pointer (some t))) (ht0:w.cell? t=some old) (hf0:w.frozen? t=false) :
  Calls zG 98 #[v,.iface 117 (.pointer (some t)),.agg #[.pointer (some 4¢117),.pointer (some a),.int .u64 150],.iface 196 (.agg #[.pointer (some 4¢28)])] w fun ev w'=>∃ b,ev=.returned (.bool b)∧((b=true∧∃ V,yD w V∧w'=V.setCell t (zI n))∨(b=false∧n = -1∧yD w w')):=by
 rcases h with ⟨rfl,_⟩ | ⟨F,c,rfl,h2⟩ | ⟨F,c,G,c2,p2,rfl,h2,h3⟩ | ⟨F,c,rfl,h2,h3⟩
 ·exact (asE1 n t a old w ha ht0 hf0).mono fun e w' h=>⟨true,h.1,.inl ⟨rfl,h.2⟩⟩
 ·exact (asE2 F c p n t a old w ha ht0 hf0 h2).mono fun e w' h=>⟨true,h.1,.inl ⟨rfl,h.2⟩⟩
 ·exact (asE3 F c p G c2 p2 n t a old w ha ht0 hf0 h2 h3).mono fun e w' h=>⟨true,h.1,.inl ⟨rfl,h.2⟩⟩
 ·exact (asN1 F c p t a w h2).mono fun e w' h=>⟨false,h.1,.inr ⟨rfl,h3,h.2⟩⟩
def Ety (w:yW):Prop:=w.cell? 0¢0=some (.iface 196 (.agg #[.pointer (some 4¢36)]))
theorem Ety.on {w w':yW}(h:Ety w) (hb:yD w w'):Ety w':=by
 have l0:=World.block_lt_of_cell? w 0¢0 h
 unfold Ety; rw [hb.cell l0]; exact h
theorem Er.face {w:yW}{v:Value}{n p:Int}(h:Er w v n p):∃ T x,v=.iface T x:=by
 rcases h with ⟨rfl,_⟩ | ⟨F,c,rfl,h2⟩ | ⟨F,c,G,c2,p2,rfl,h2,h3⟩ | ⟨F,c,rfl,h2,h3⟩ <;> exact⟨_,_,rfl⟩
theorem as49E_any {w:yW}{v:Value}{n p:Int}(h:Er w v n p) (hg:Ety w) (t:Addr) (old:Value) (ht0:w.cell? t=some old) (hf0:w.frozen? t=false) :
  Calls zG 63 #[v,.iface 117 (.pointer (some t))] w fun ev w'=>∃ b,ev=.returned (.bool b)∧((b=true∧∃ V,yD w V∧w'=V.setCell t (zI n))∨(b=false∧n = -1∧yD w w')):=by
 obtain⟨T,x,rfl⟩:=h.face
 have b1:=Qc w (.cells #[.pointer (some t)] 117)
 have s1:=Qf w (.cells #[.pointer (some t)] 117)
 have n1:=Qd w (.cells #[.pointer (some t)] 117)
 have b2:=Qc (w.alloc (.cells #[.pointer (some t)] 117)) (.cells #[.pointer (some 4¢117),zP w§,.int .u64 150] 160)
 have bb:=Qe b1 b2
 have lt:=World.block_lt_of_cell? w t ht0
 refine as49E T x t w hg _ ((asE_any (h.on bb) t w§¢0 old (Qa ((b2.block _ (by omega)).trans n1) 0) (by rw [bb.cell lt]; exact ht0) (by rw [World.frozen?_alloc_old _ _ t (by rw [s1]; omega),World.frozen?_alloc_old _ _ t (by omega)]; exact hf0)).mono ?_)
 rintro e w' ⟨b,rfl,hh⟩
 refine⟨b,rfl,?_⟩
 rcases hh with ⟨rfl,V,hV,rfl⟩ | ⟨rfl,hn,hV⟩
 ·exact .inl ⟨rfl,V,Qe bb hV,rfl⟩
 ·exact .inr ⟨rfl,hn,Qe bb hV⟩
theorem asF1_any {w:yW}{v:Value}{n p:Int}(h:Er w v n p) (hg:Ety w) (t:Addr) (old:Value) (ht0:w.cell? t=some old) (hf0:w.frozen? t=false) :
  Calls zG 63 #[v,.iface 119 (.pointer (some t))] w fun ev w'=>∃ b,ev=.returned (.bool b)∧((b=true∧∃ F c e,w.heap[F]? = (zC #[.string c,zI p,e] 121)∧∃ V,yD w V∧w'=V.setCell t (zP F))∨(b=false∧p=0∧yD w w')):=by
 rcases h with ⟨rfl,hp⟩ | ⟨F,c,rfl,h2⟩ | ⟨F,c,G,c2,p2,rfl,h2,h3⟩ | ⟨F,c,rfl,h2,h3⟩
 ·refine as49F 28 (zI n) t w hg _ ((asN0 n t _ _).mono ?_)
  rintro e w' ⟨rfl,hb⟩
  exact⟨false,rfl,.inr ⟨rfl,hp,Qe (Qe (Qc _ _) (Qc _ _)) hb⟩⟩
 all_goals exact (asF_any F¢0 t old w hg ht0 hf0).mono fun e w' h=>⟨true,h.1,.inl ⟨rfl,F,c,_,h2,h.2⟩⟩
end Go.Proofs.YtoogodlnnijikaaGreatDoor
