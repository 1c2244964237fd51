import Derived.Test.YtfbjofnaghjmeaaGreatDoorA7
namespace Go.Proofs.YtfbjofnaghjmeaaGreatDoor
open Go.Proofs.Tryz
set_option maxRecDepth 100000
set_option maxHeartbeats 4000000
open Go.RowKit Go.Extern.Stop Go.Stop Go.Extern
theorem as_own (e t a:Addr) (old:Value) (w:yW) (ha:w.cell? a=some (.pointer (some t))) (ht0:w.cell? t=some old) (hf0:w.frozen? t=false) :
  Calls zG 196 #[.iface 184 (.pointer (some e)),.iface 223 (.pointer (some t)),.agg #[.pointer (some 4¢223),.pointer (some a),.int .u64 150],.iface 283 (.agg #[.pointer (some 4¢184)])] w fun ev w'=>ev=.returned (.bool true)∧∃ V,yD w V∧w'=V.setCell t (.pointer (some e)):=by
 have h50:=@run_callFunc_extern zG 214 _ ReflectliteType.typeOf func214 zK zK zK zK
 have h93:=@run_callFunc_extern zG 193 _ (fun args=>ReflectliteValue.unpack (args.getD 0 (.tuple #[]))) func193 zK zK zK zK
 have h118 := @run_callFunc_extern zG 215 _ (ReflectliteValue.method (ReflectliteValue.valueError "reflectlite.Value.Elem" 0) ReflectliteValue.elem) func215 zK zK zK zK
 have h119:=@run_callFunc_extern zG 216 _ ReflectliteValue.set func216 zK zK zK zK
 have h221 := @run_callFunc_extern zG 281 _ (ReflectliteType.relation "AssignableTo" ReflectliteType.assignableTo) func281 zK zK zK zK
 have mA:=VV
 have tO:=Qa8
 have a74:=Qfh
 have v74:=vOf74
 have b1:=Qb w (.cells #[.pointer (some 4¢223),.pointer (some a),.int .u64 150] 259)
 have s1:=Qe w (.cells #[.pointer (some 4¢223),.pointer (some a),.int .u64 150] 259)
 have b2:=Qb (zA w #[.pointer (some 4¢223),.pointer (some a),.int .u64 150] 259) (.cells #[.pointer (some e)] 184)
 have n2:=Qc (zA w #[.pointer (some 4¢223),.pointer (some a),.int .u64 150] 259) (.cells #[.pointer (some e)] 184)
 have HBB:=zH (Qd b1 b2)
 have el:=elv128 a t (zA w #[.pointer (some 4¢223),.pointer (some a),.int .u64 150] 259) (by rw [World.cell?_alloc_lt _ _ a (World.block_lt_of_cell? w a ha)];exact ha)
 have st:=set74 t ⟨w§+1,0,none⟩ e old ((zA w #[.pointer (some 4¢223),.pointer (some a),.int .u64 150] 259).alloc (.cells #[.pointer (some e)] 184)) (by rw [s1] at n2;exact Qa n2 0)
  (by rw [World.cell?_alloc_lt _ _ t (by rw [s1];exact Nat.lt_succ_of_lt (World.block_lt_of_cell? w t ht0)),World.cell?_alloc_lt _ _ t (World.block_lt_of_cell? w t ht0)];exact ht0)
  (by rw [World.frozen?_alloc_old _ _ t (by rw [s1];have:=World.block_lt_of_cell? w t ht0;omega),World.frozen?_alloc_old _ _ t (Nat.ne_of_lt (World.block_lt_of_cell? w t ht0))];exact hf0)
 clear b1 s1 b2 n2
 go_enter func196,ntmps196
 go_wp2
 refine wp_loop_rounds 1 ?_
 rw [rounds_succ]
 go_wp2
 go_ret
 exact⟨rfl,_,HBB.out,rfl⟩
theorem QbN (e t:Addr) (old:Value) (w:yW) (hg:w.cell? 1¢0=some (.iface 283 (.agg #[.pointer (some 4¢85)]))) (ht0:w.cell? t=some old) (hf0:w.frozen? t=false) :
  Calls zG 163 #[.iface 184 (.pointer (some e)),.iface 223 (.pointer (some t))] w fun ev w'=>ev=.returned (.bool true)∧∃ V,yD w V∧w'=V.setCell t (.pointer (some e)):=by
 have h93:=@run_callFunc_extern zG 193 _ (fun args=>ReflectliteValue.unpack (args.getD 0 (.tuple #[]))) func193 zK zK zK zK
 have h94 := @run_callFunc_extern zG 194 _ (ReflectliteValue.methodAny (ReflectliteValue.valueError "reflectlite.Value.Type" 0) (fun t _ _ _ => ReflectliteType.toType t)) func194 zK zK zK zK
 have h95 := @run_callFunc_extern zG 195 _ (ReflectliteValue.method (ReflectliteValue.valueError "reflectlite.Value.IsNil" 0) ReflectliteValue.isNil) func195 zK zK zK zK
 have h210:=@run_callFunc_extern zG 271 _ (ReflectliteType.abiMethod fun t=>do pure (zU (← Rtype.kind t))) func271 zK zK zK zK
 have h223:=@run_callFunc_extern zG 283 _ (ReflectliteType.method ReflectliteType.elem) func283 zK zK zK zK
 have h224 := @run_callFunc_extern zG 284 _ (ReflectliteType.relation "Implements" ReflectliteType.implements_) func284 zK zK zK zK
 have mK:=Qax
 have mE:=Qaz
 have mI:=Qay
 have v128:=Qc2
 have y128:=Qg0
 have k128:=Qhg
 have k74:=kd74
 have e128:=Qe0
 have i74:=Qhi
 have l0:=World.block_lt_of_cell? w 1¢0 hg
 have lt:=World.block_lt_of_cell? w t ht0
 have b1:=Qb w (.cells #[.pointer (some t)] 223)
 have s1:=Qe w (.cells #[.pointer (some t)] 223)
 have n1:=Qc w (.cells #[.pointer (some t)] 223)
 have b2:=Qb (zA w #[.pointer (some t)] 223) (.cells #[.pointer (some 4¢223),zP w§,.int .u64 150] 259)
 have HBB:=zH (Qd b1 b2)
 have ca:((zA w #[.pointer (some t)] 223).alloc (.cells #[.pointer (some 4¢223),zP w§,.int .u64 150] 259)).cell? w§¢0=some (.pointer (some t)):=Qa ((b2.block _ zY).trans n1) 0
 have hg2:((zA w #[.pointer (some t)] 223).alloc (.cells #[.pointer (some 4¢223),zP w§,.int .u64 150] 259)).cell? 1¢0=some (.iface 283 (.agg #[.pointer (some 4¢85)])):=by
  rw [HBB.out.cell l0];exact hg
 have n8:=Qeg w§¢0 t ((zA w #[.pointer (some t)] 223).alloc (.cells #[.pointer (some 4¢223),zP w§,.int .u64 150] 259)) ca
 have cS:=as_own e t w§¢0 old ((zA w #[.pointer (some t)] 223).alloc (.cells #[.pointer (some 4¢223),zP w§,.int .u64 150] 259)) ca (by rw [HBB.out.cell lt];exact ht0) (by rw [World.frozen?_alloc_old _ _ t (by rw [s1];omega),World.frozen?_alloc_old _ _ t zY];exact hf0)
 clear b1 s1 n1 b2 ca
 go_enter func163,ntmps163
 go_wp2_with fail
 refine cS.mono ?_
 rintro ev w' ⟨rfl,V,hV,rfl⟩
 have HV:=zH (Qd HBB.out hV)
 clear cS hV
 go_wp2
 go_ret
 exact⟨rfl,V,HV.out,rfl⟩
theorem Qc1 (n:Int) (w:yW):(ReflectliteValue.unpack (.iface 41 (zI n))).run zG w=.ok (.agg #[.pointer (some 4¢41),zP w§,.int .u64 130]) (zA w #[zI n] 41):=by kernel_rfl
theorem ty161 (a : Addr) (w : yW) : (ReflectliteValue.methodAny (ReflectliteValue.valueError "reflectlite.Value.Type" 0) (fun t _ _ _ => ReflectliteType.toType t) #[.agg #[.pointer (some ⟨4, 222, none⟩), .pointer (some a), .int .u64 150]]).run zG w = .ok (.iface 283 (.agg #[.pointer (some ⟨4, 222, none⟩)])) w := by kernel_rfl
theorem kd161 (w:yW):((ReflectliteType.abiMethod fun t=>(fun a:Nat=>Value.int IntKind.u8 (a:Int)) <$> Rtype.kind t) #[.pointer (some 4¢222)]).run zG w=.ok (zU 22) w:=by kernel_rfl
theorem kd48 (w:yW):((ReflectliteType.abiMethod fun t=>(fun a:Nat=>Value.int IntKind.u8 (a:Int)) <$> Rtype.kind t) #[.pointer (some 4¢41)]).run zG w=.ok (zU 2) w:=by kernel_rfl
theorem Qg4 (a:Addr) (w:yW):(ReflectliteValue.parts (.agg #[.pointer (some 4¢222),.pointer (some a),.int .u64 150])).run zG w=.ok (some (222,a,150)) w:=by kernel_rfl
theorem pt48 (a:Addr) (w:yW):(ReflectliteValue.parts (.agg #[.pointer (some 4¢41),.pointer (some a),.int .u64 130])).run zG w=.ok (some (41,a,130)) w:=by kernel_rfl
theorem pt48a (a:Addr) (w:yW):(ReflectliteValue.parts (.agg #[.pointer (some 4¢41),.pointer (some a),.int .u64 386])).run zG w=.ok (some (41,a,386)) w:=by kernel_rfl
theorem el161 (w:yW):(Rtype.elem? 222).run zG w=.ok (some 41) w:=by kernel_rfl
theorem mk48 (p:Addr) (w:yW):(ReflectliteValue.mk 41 p ReflectliteValue.flagAddr).run zG w=.ok (.agg #[.pointer (some 4¢41),.pointer (some p),.int .u64 386]) w:=by kernel_rfl
theorem da48 (w:yW):(Rtype.directlyAssignable 41 41).run zG w=.ok true w:=by kernel_rfl
theorem Qh8 (a p:Addr) (W:yW) (ha:W.cell? a=some (.pointer (some p))) :
  (ReflectliteValue.method (ReflectliteValue.valueError "reflectlite.Value.IsNil" 0) ReflectliteValue.isNil #[.agg #[.pointer (some ⟨4, 222, none⟩), .pointer (some a), .int .u64 150]]).run zG W = .ok (.bool false) W := by
 obtain ⟨g, h1, h2⟩ := X3 (ReflectliteValue.valueError "reflectlite.Value.IsNil" 0) ReflectliteValue.isNil (.agg #[.pointer (some ⟨4, 222, none⟩), .pointer (some a), .int .u64 150])
 rw [h1,Sem.run_bind,Qg4]
 simp [Result.andThen,h2,ReflectliteValue.isNil,loadVar,isAgg,underlying,underlying222,ha]
theorem QaP (a p:Addr) (W:yW) (ha:W.cell? a=some (.pointer (some p))) :
  (ReflectliteValue.method (ReflectliteValue.valueError "reflectlite.Value.Elem" 0) ReflectliteValue.elem #[.agg #[.pointer (some ⟨4, 222, none⟩), .pointer (some a), .int .u64 150]]).run zG W = .ok (.agg #[.pointer (some ⟨4, 41, none⟩), .pointer (some p), .int .u64 386]) W := by
 obtain ⟨g, h1, h2⟩ := X3 (ReflectliteValue.valueError "reflectlite.Value.Elem" 0) ReflectliteValue.elem (.agg #[.pointer (some ⟨4, 222, none⟩), .pointer (some a), .int .u64 150])
 rw [h1,Sem.run_bind,Qg4]
 simp [Result.andThen,h2,ReflectliteValue.elem,loadVar,isAgg,underlying,underlying222,ha,el161,mk48]
theorem Qdt (ta b:Addr) (n:Int) (old:Value) (W:yW) (hb:W.cell? b=some (zI n)) (ht:W.cell? ta=some old) (hf:W.frozen? ta=false) :
  (ReflectliteValue.set #[.agg #[.pointer (some 4¢41),.pointer (some ta),.int .u64 386],.agg #[.pointer (some 4¢41),.pointer (some b),.int .u64 130]]).run zG W=.ok (.tuple #[]) (W.setCell ta (zI n)):=by
 obtain⟨g,h1,h2⟩:=Qbd (.agg #[.pointer (some 4¢41),.pointer (some ta),.int .u64 386]) (.agg #[.pointer (some 4¢41),.pointer (some b),.int .u64 130])
 obtain⟨r,h3,h4⟩:=h2 41 ta 386 41 b 130 (by decide)
 rw [h1]
 simp only [Sem.run_bind,pt48a,pt48,Result.andThen,h3]
 simp [loadVar,isAgg,underlying,underlying41,hb,Result.andThen,da48,h4,storeVar,Value.cells,storeCells,Addr.add]
 rw [run_store zG W ta _ _ (by rfl)]
 simp [ht,hf]
theorem Hw (v:Value) (w:yW):(Instr.typeAssert (.iface 184 v) 85 288 true).run zG w=.ok (.tuple #[.nilIface,.bool false]) w:=run_typeAssert_lacksB underlying288 zK zK v 85 w
theorem Qf8 (v:Value) (w:yW):(Instr.typeAssert (.iface 41 v) 85 288 true).run zG w=.ok (.tuple #[.nilIface,.bool false]) w:=run_typeAssert_lacksB underlying288 zK zK v 85 w
theorem Pg (v:Value) (w:yW):(Instr.typeAssert (.iface 184 v) 85 291 true).run zG w=.ok (.tuple #[.iface 184 v,.bool true]) w:=by kernel_rfl
theorem Qf7 (v:Value) (w:yW):(Instr.typeAssert (.iface 41 v) 85 291 true).run zG w=.ok (.tuple #[.nilIface,.bool false]) w:=run_typeAssert_lacksB underlying291 zK zK v 85 w
theorem Qee (v:Value) (w:yW):(Instr.typeAssert (.iface 41 v) 85 293 true).run zG w=.ok (.tuple #[.nilIface,.bool false]) w:=run_typeAssert_lacksB underlying293 zK zK v 85 w
theorem mtUn (p : Value) (w : yW) : (Go.method 443 184 p "Unwrap").run zG w = .ok (276, p) w := by kernel_rfl
theorem asE1 (n:Int) (t a:Addr) (old:Value) (w:yW) (ha:w.cell? a=some (.pointer (some t))) (ht0:w.cell? t=some old) (hf0:w.frozen? t=false) :
  Calls zG 196 #[.iface 41 (zI n),.iface 222 (.pointer (some t)),.agg #[.pointer (some 4¢222),.pointer (some a),.int .u64 150],.iface 283 (.agg #[.pointer (some 4¢41)])] w fun ev w'=>ev=.returned (.bool true)∧∃ V,yD w V∧w'=V.setCell t (zI n):=by
 have h50:=@run_callFunc_extern zG 214 _ ReflectliteType.typeOf func214 zK zK zK zK
 have h93:=@run_callFunc_extern zG 193 _ (fun args=>ReflectliteValue.unpack (args.getD 0 (.tuple #[]))) func193 zK zK zK zK
 have h118 := @run_callFunc_extern zG 215 _ (ReflectliteValue.method (ReflectliteValue.valueError "reflectlite.Value.Elem" 0) ReflectliteValue.elem) func215 zK zK zK zK
 have h119:=@run_callFunc_extern zG 216 _ ReflectliteValue.set func216 zK zK zK zK
 have h221 := @run_callFunc_extern zG 281 _ (ReflectliteType.relation "AssignableTo" ReflectliteType.assignableTo) func281 zK zK zK zK
 have mA:=VV
 have tO:=Qa9
 have a48:=Vu
 have v48:=Qc1
 have b1:=Qb w (.cells #[.pointer (some 4¢222),.pointer (some a),.int .u64 150] 259)
 have s1:=Qe w (.cells #[.pointer (some 4¢222),.pointer (some a),.int .u64 150] 259)
 have b2:=Qb (zA w #[.pointer (some 4¢222),.pointer (some a),.int .u64 150] 259) (.cells #[zI n] 41)
 have n2:=Qc (zA w #[.pointer (some 4¢222),.pointer (some a),.int .u64 150] 259) (.cells #[zI n] 41)
 have HBB:=zH (Qd b1 b2)
 have el:=QaP a t (zA w #[.pointer (some 4¢222),.pointer (some a),.int .u64 150] 259) (by rw [World.cell?_alloc_lt _ _ a (World.block_lt_of_cell? w a ha)];exact ha)
 have st:=Qdt t ⟨w§+1,0,none⟩ n old ((zA w #[.pointer (some 4¢222),.pointer (some a),.int .u64 150] 259).alloc (.cells #[zI n] 41)) (by rw [s1] at n2;exact Qa n2 0)
  (by rw [World.cell?_alloc_lt _ _ t (by rw [s1];exact Nat.lt_succ_of_lt (World.block_lt_of_cell? w t ht0)),World.cell?_alloc_lt _ _ t (World.block_lt_of_cell? w t ht0)];exact ht0)
  (by rw [World.frozen?_alloc_old _ _ t (by rw [s1];have:=World.block_lt_of_cell? w t ht0;omega),World.frozen?_alloc_old _ _ t (Nat.ne_of_lt (World.block_lt_of_cell? w t ht0))];exact hf0)
 clear b1 s1 b2 n2
 go_enter func196,ntmps196
 go_wp2
 refine wp_loop_rounds 1 ?_
 rw [rounds_succ]
 go_wp2
 go_ret
 exact⟨rfl,_,HBB.out,rfl⟩
theorem asE2 (F:Nat) (call:yB) (at':Int) (n:Int) (t a:Addr) (old:Value) (w:yW) (ha:w.cell? a=some (.pointer (some t))) (ht0:w.cell? t=some old) (hf0:w.frozen? t=false) (hF:w.heap[F]? = (zC #[.string call,zI at',.iface 41 (zI n)] 186)) :
  Calls zG 196 #[.iface 184 (zP F),.iface 222 (.pointer (some t)),.agg #[.pointer (some 4¢222),.pointer (some a),.int .u64 150],.iface 283 (.agg #[.pointer (some 4¢41)])] w fun ev w'=>ev=.returned (.bool true)∧∃ V,yD w V∧w'=V.setCell t (zI n):=by
 have h50:=@run_callFunc_extern zG 214 _ ReflectliteType.typeOf func214 zK zK zK zK
 have h93:=@run_callFunc_extern zG 193 _ (fun args=>ReflectliteValue.unpack (args.getD 0 (.tuple #[]))) func193 zK zK zK zK
 have h118 := @run_callFunc_extern zG 215 _ (ReflectliteValue.method (ReflectliteValue.valueError "reflectlite.Value.Elem" 0) ReflectliteValue.elem) func215 zK zK zK zK
 have h119:=@run_callFunc_extern zG 216 _ ReflectliteValue.set func216 zK zK zK zK
 have h221 := @run_callFunc_extern zG 281 _ (ReflectliteType.relation "AssignableTo" ReflectliteType.assignableTo) func281 zK zK zK zK
 have mA:=VV
 have mU:=mtUn
 have tO7:=Qa8
 have a74:=Vt
 have n74:=Hw
 have i74:=Pg
 have b1:=Qb w (.cells #[.pointer (some 4¢222),.pointer (some a),.int .u64 150] 259)
 have c1:(zA w #[.pointer (some 4¢222),.pointer (some a),.int .u64 150] 259).cell? F¢2=some _:=Qa ((b1.block _ (zJ hF).1).trans hF) 2
 have tO:=Qa9
 have a48:=Vu
 have v48:=Qc1
 have s1:=Qe w (.cells #[.pointer (some 4¢222),.pointer (some a),.int .u64 150] 259)
 have b2:=Qb (zA w #[.pointer (some 4¢222),.pointer (some a),.int .u64 150] 259) (.cells #[zI n] 41)
 have n2:=Qc (zA w #[.pointer (some 4¢222),.pointer (some a),.int .u64 150] 259) (.cells #[zI n] 41)
 have HBB:=zH (Qd b1 b2)
 have el:=QaP a t (zA w #[.pointer (some 4¢222),.pointer (some a),.int .u64 150] 259) (by rw [World.cell?_alloc_lt _ _ a (World.block_lt_of_cell? w a ha)];exact ha)
 have st:=Qdt t ⟨w§+1,0,none⟩ n old ((zA w #[.pointer (some 4¢222),.pointer (some a),.int .u64 150] 259).alloc (.cells #[zI n] 41)) (by rw [s1] at n2;exact Qa n2 0)
  (by rw [World.cell?_alloc_lt _ _ t (by rw [s1];exact Nat.lt_succ_of_lt (World.block_lt_of_cell? w t ht0)),World.cell?_alloc_lt _ _ t (World.block_lt_of_cell? w t ht0)];exact ht0)
  (by rw [World.frozen?_alloc_old _ _ t (by rw [s1];have:=World.block_lt_of_cell? w t ht0;omega),World.frozen?_alloc_old _ _ t (Nat.ne_of_lt (World.block_lt_of_cell? w t ht0))];exact hf0)
 clear b1 s1 b2 n2 hF
 go_enter func196,ntmps196
 go_wp2
 refine wp_loop_rounds 2 ?_
 rw [rounds_succ]
 go_wp2
 rw [rounds_succ]
 go_wp2
 go_ret
 exact⟨rfl,_,HBB.out,rfl⟩
theorem asE3 (F:Nat) (call:yB) (at':Int) (G:Nat) (call2:yB) (at2:Int) (n:Int) (t a:Addr) (old:Value) (w:yW) (ha:w.cell? a=some (.pointer (some t))) (ht0:w.cell? t=some old) (hf0:w.frozen? t=false) (hF:w.heap[F]? = (zC #[.string call,zI at',.iface 184 (zP G)] 186)) (hG:w.heap[G]? = (zC #[.string call2,zI at2,.iface 41 (zI n)] 186)) :
  Calls zG 196 #[.iface 184 (zP F),.iface 222 (.pointer (some t)),.agg #[.pointer (some 4¢222),.pointer (some a),.int .u64 150],.iface 283 (.agg #[.pointer (some 4¢41)])] w fun ev w'=>ev=.returned (.bool true)∧∃ V,yD w V∧w'=V.setCell t (zI n):=by
 have h50:=@run_callFunc_extern zG 214 _ ReflectliteType.typeOf func214 zK zK zK zK
 have h93:=@run_callFunc_extern zG 193 _ (fun args=>ReflectliteValue.unpack (args.getD 0 (.tuple #[]))) func193 zK zK zK zK
 have h118 := @run_callFunc_extern zG 215 _ (ReflectliteValue.method (ReflectliteValue.valueError "reflectlite.Value.Elem" 0) ReflectliteValue.elem) func215 zK zK zK zK
 have h119:=@run_callFunc_extern zG 216 _ ReflectliteValue.set func216 zK zK zK zK
 have h221 := @run_callFunc_extern zG 281 _ (ReflectliteType.relation "AssignableTo" ReflectliteType.assignableTo) func281 zK zK zK zK
 have mA:=VV
 have mU:=mtUn
 have tO7:=Qa8
 have a74:=Vt
 have n74:=Hw
 have i74:=Pg
 have b1:=Qb w (.cells #[.pointer (some 4¢222),.pointer (some a),.int .u64 150] 259)
 have c1:(zA w #[.pointer (some 4¢222),.pointer (some a),.int .u64 150] 259).cell? F¢2=some _:=Qa ((b1.block _ (zJ hF).1).trans hF) 2
 have c2:(zA w #[.pointer (some 4¢222),.pointer (some a),.int .u64 150] 259).cell? G¢2=some _:=Qa ((b1.block _ (zJ hG).1).trans hG) 2
 have tO:=Qa9
 have a48:=Vu
 have v48:=Qc1
 have s1:=Qe w (.cells #[.pointer (some 4¢222),.pointer (some a),.int .u64 150] 259)
 have b2:=Qb (zA w #[.pointer (some 4¢222),.pointer (some a),.int .u64 150] 259) (.cells #[zI n] 41)
 have n2:=Qc (zA w #[.pointer (some 4¢222),.pointer (some a),.int .u64 150] 259) (.cells #[zI n] 41)
 have HBB:=zH (Qd b1 b2)
 have el:=QaP a t (zA w #[.pointer (some 4¢222),.pointer (some a),.int .u64 150] 259) (by rw [World.cell?_alloc_lt _ _ a (World.block_lt_of_cell? w a ha)];exact ha)
 have st:=Qdt t ⟨w§+1,0,none⟩ n old ((zA w #[.pointer (some 4¢222),.pointer (some a),.int .u64 150] 259).alloc (.cells #[zI n] 41)) (by rw [s1] at n2;exact Qa n2 0)
  (by rw [World.cell?_alloc_lt _ _ t (by rw [s1];exact Nat.lt_succ_of_lt (World.block_lt_of_cell? w t ht0)),World.cell?_alloc_lt _ _ t (World.block_lt_of_cell? w t ht0)];exact ht0)
  (by rw [World.frozen?_alloc_old _ _ t (by rw [s1];have:=World.block_lt_of_cell? w t ht0;omega),World.frozen?_alloc_old _ _ t (Nat.ne_of_lt (World.block_lt_of_cell? w t ht0))];exact hf0)
 clear b1 s1 b2 n2 hF hG
 go_enter func196,ntmps196
 go_wp2
 refine wp_loop_rounds 3 ?_
 rw [rounds_succ]
 go_wp2
 rw [rounds_succ]
 go_wp2
 rw [rounds_succ]
 go_wp2
 go_ret
 exact⟨rfl,_,HBB.out,rfl⟩
theorem asN1 (F:Nat) (call:yB) (at':Int)  (t a:Addr) (w:yW) (hF:w.heap[F]? = (zC #[.string call,zI at',.nilIface] 186)) :
  Calls zG 196 #[.iface 184 (zP F),.iface 222 (.pointer (some t)),.agg #[.pointer (some 4¢222),.pointer (some a),.int .u64 150],.iface 283 (.agg #[.pointer (some 4¢41)])] w fun ev w'=>ev=.returned (.bool false)∧yD w w':=by
 have h50:=@run_callFunc_extern zG 214 _ ReflectliteType.typeOf func214 zK zK zK zK
 have h93:=@run_callFunc_extern zG 193 _ (fun args=>ReflectliteValue.unpack (args.getD 0 (.tuple #[]))) func193 zK zK zK zK
 have h118 := @run_callFunc_extern zG 215 _ (ReflectliteValue.method (ReflectliteValue.valueError "reflectlite.Value.Elem" 0) ReflectliteValue.elem) func215 zK zK zK zK
 have h119:=@run_callFunc_extern zG 216 _ ReflectliteValue.set func216 zK zK zK zK
 have h221 := @run_callFunc_extern zG 281 _ (ReflectliteType.relation "AssignableTo" ReflectliteType.assignableTo) func281 zK zK zK zK
 have mA:=VV
 have mU:=mtUn
 have tO7:=Qa8
 have a74:=Vt
 have n74:=Hw
 have i74:=Pg
 have b1:=Qb w (.cells #[.pointer (some 4¢222),.pointer (some a),.int .u64 150] 259)
 have c1:(zA w #[.pointer (some 4¢222),.pointer (some a),.int .u64 150] 259).cell? F¢2=some _:=Qa ((b1.block _ (zJ hF).1).trans hF) 2
 have HB1:=zH b1
 clear b1 hF
 go_enter func196,ntmps196
 go_wp2
 refine wp_loop_rounds 1 ?_
 rw [rounds_succ]
 go_wp2
 go_ret
 exact⟨rfl,HB1.out⟩
theorem as49E (T:TypeId) (x:Value) (t:Addr) (w:yW) (hg:w.cell? 1¢0=some (.iface 283 (.agg #[.pointer (some 4¢85)]))) (Q:Bool→yW→Prop)
  (cS:Calls zG 196 #[.iface T x,.iface 222 (.pointer (some t)),.agg #[.pointer (some 4¢222),zP w§,.int .u64 150],.iface 283 (.agg #[.pointer (some 4¢41)])] ((zA w #[.pointer (some t)] 222).alloc (.cells #[.pointer (some 4¢222),zP w§,.int .u64 150] 259)) fun ev w'=>∃ b,ev=.returned (.bool b)∧Q b w') :
  Calls zG 163 #[.iface T x,.iface 222 (.pointer (some t))] w fun ev w'=>∃ b,ev=.returned (.bool b)∧Q b w':=by
 have h93:=@run_callFunc_extern zG 193 _ (fun args=>ReflectliteValue.unpack (args.getD 0 (.tuple #[]))) func193 zK zK zK zK
 have h94 := @run_callFunc_extern zG 194 _ (ReflectliteValue.methodAny (ReflectliteValue.valueError "reflectlite.Value.Type" 0) (fun t _ _ _ => ReflectliteType.toType t)) func194 zK zK zK zK
 have h95 := @run_callFunc_extern zG 195 _ (ReflectliteValue.method (ReflectliteValue.valueError "reflectlite.Value.IsNil" 0) ReflectliteValue.isNil) func195 zK zK zK zK
 have h210:=@run_callFunc_extern zG 271 _ (ReflectliteType.abiMethod fun t=>do pure (zU (← Rtype.kind t))) func271 zK zK zK zK
 have h223:=@run_callFunc_extern zG 283 _ (ReflectliteType.method ReflectliteType.elem) func283 zK zK zK zK
 have h224 := @run_callFunc_extern zG 284 _ (ReflectliteType.relation "Implements" ReflectliteType.implements_) func284 zK zK zK zK
 have mK:=Qax
 have mE:=Qaz
 have mI:=Qay
 have v128:=Qhr
 have y128:=ty161
 have k128:=kd161
 have k74:=kd48
 have e128:=elm161
 have i74:=imp48
 have l0:=World.block_lt_of_cell? w 1¢0 hg
 have b1:=Qb w (.cells #[.pointer (some t)] 222)
 have s1:=Qe w (.cells #[.pointer (some t)] 222)
 have n1:=Qc w (.cells #[.pointer (some t)] 222)
 have b2:=Qb (zA w #[.pointer (some t)] 222) (.cells #[.pointer (some 4¢222),zP w§,.int .u64 150] 259)
 have ca:((zA w #[.pointer (some t)] 222).alloc (.cells #[.pointer (some 4¢222),zP w§,.int .u64 150] 259)).cell? w§¢0=some (.pointer (some t)):=Qa ((b2.block _ zY).trans n1) 0
 have hg2:((zA w #[.pointer (some t)] 222).alloc (.cells #[.pointer (some 4¢222),zP w§,.int .u64 150] 259)).cell? 1¢0=some (.iface 283 (.agg #[.pointer (some 4¢85)])):=by
  rw [(Qd b1 b2).cell l0];exact hg
 have n8:=Qh8 w§¢0 t ((zA w #[.pointer (some t)] 222).alloc (.cells #[.pointer (some 4¢222),zP w§,.int .u64 150] 259)) ca
 clear b1 s1 n1 b2 ca
 go_enter func163,ntmps163
 go_wp2_with fail
 refine cS.mono ?_
 rintro ev w' ⟨b,rfl,hq⟩
 have HQ:Hid (Q b w'):=hq
 clear cS hq
 go_wp2
 go_ret
 exact⟨b,rfl,HQ.out⟩
theorem as49F (T:TypeId) (x:Value) (t:Addr) (w:yW) (hg:w.cell? 1¢0=some (.iface 283 (.agg #[.pointer (some 4¢85)]))) (Q:Bool→yW→Prop)
  (cS:Calls zG 196 #[.iface T x,.iface 223 (.pointer (some t)),.agg #[.pointer (some 4¢223),zP w§,.int .u64 150],.iface 283 (.agg #[.pointer (some 4¢184)])] ((zA w #[.pointer (some t)] 223).alloc (.cells #[.pointer (some 4¢223),zP w§,.int .u64 150] 259)) fun ev w'=>∃ b,ev=.returned (.bool b)∧Q b w') :
  Calls zG 163 #[.iface T x,.iface 223 (.pointer (some t))] w fun ev w'=>∃ b,ev=.returned (.bool b)∧Q b w':=by
 have h93:=@run_callFunc_extern zG 193 _ (fun args=>ReflectliteValue.unpack (args.getD 0 (.tuple #[]))) func193 zK zK zK zK
 have h94 := @run_callFunc_extern zG 194 _ (ReflectliteValue.methodAny (ReflectliteValue.valueError "reflectlite.Value.Type" 0) (fun t _ _ _ => ReflectliteType.toType t)) func194 zK zK zK zK
 have h95 := @run_callFunc_extern zG 195 _ (ReflectliteValue.method (ReflectliteValue.valueError "reflectlite.Value.IsNil" 0) ReflectliteValue.isNil) func195 zK zK zK zK
 have h210:=@run_callFunc_extern zG 271 _ (ReflectliteType.abiMethod fun t=>do pure (zU (← Rtype.kind t))) func271 zK zK zK zK
 have h223:=@run_callFunc_extern zG 283 _ (ReflectliteType.method ReflectliteType.elem) func283 zK zK zK zK
 have h224 := @run_callFunc_extern zG 284 _ (ReflectliteType.relation "Implements" ReflectliteType.implements_) func284 zK zK zK zK
 have mK:=Qax
 have mE:=Qaz
 have mI:=Qay
 have v128:=Qc2
 have y128:=Qg0
 have k128:=Qhg
 have k74:=kd74
 have e128:=Qe0
 have i74:=Qhi
 have l0:=World.block_lt_of_cell? w 1¢0 hg
 have b1:=Qb w (.cells #[.pointer (some t)] 223)
 have s1:=Qe w (.cells #[.pointer (some t)] 223)
 have n1:=Qc w (.cells #[.pointer (some t)] 223)
 have b2:=Qb (zA w #[.pointer (some t)] 223) (.cells #[.pointer (some 4¢223),zP w§,.int .u64 150] 259)
 have ca:((zA w #[.pointer (some t)] 223).alloc (.cells #[.pointer (some 4¢223),zP w§,.int .u64 150] 259)).cell? w§¢0=some (.pointer (some t)):=Qa ((b2.block _ zY).trans n1) 0
 have hg2:((zA w #[.pointer (some t)] 223).alloc (.cells #[.pointer (some 4¢223),zP w§,.int .u64 150] 259)).cell? 1¢0=some (.iface 283 (.agg #[.pointer (some 4¢85)])):=by
  rw [(Qd b1 b2).cell l0];exact hg
 have n8:=Qeg w§¢0 t ((zA w #[.pointer (some t)] 223).alloc (.cells #[.pointer (some 4¢223),zP w§,.int .u64 150] 259)) ca
 clear b1 s1 n1 b2 ca
 go_enter func163,ntmps163
 go_wp2_with fail
 refine cS.mono ?_
 rintro ev w' ⟨b,rfl,hq⟩
 have HQ:Hid (Q b w'):=hq
 clear cS hq
 go_wp2
 go_ret
 exact⟨b,rfl,HQ.out⟩
theorem asN0 (n:Int) (t a:Addr) (w:yW) :
  Calls zG 196 #[.iface 41 (zI n),.iface 223 (.pointer (some t)),.agg #[.pointer (some 4¢223),.pointer (some a),.int .u64 150],.iface 283 (.agg #[.pointer (some 4¢184)])] w fun ev w'=>ev=.returned (.bool false)∧yD w w':=by
 have h50:=@run_callFunc_extern zG 214 _ ReflectliteType.typeOf func214 zK zK zK zK
 have h221 := @run_callFunc_extern zG 281 _ (ReflectliteType.relation "AssignableTo" ReflectliteType.assignableTo) func281 zK zK zK zK
 have mA:=VV
 have tO:=Qa9
 have a48:=Qfi
 have q1:=Qf8
 have q2:=Qf7
 have q3:=Qee
 have HB1:Hid (yD w (zA w #[.pointer (some 4¢223),.pointer (some a),.int .u64 150] 259)):=Qb w _
 go_enter func196,ntmps196
 go_wp2
 refine wp_loop_rounds 1 ?_
 rw [rounds_succ]
 go_wp2
 go_ret
 exact⟨rfl,HB1.out⟩
def Er (w:yW) (v:Value) (n p:Int):Prop :=
 (v=.iface 41 (zI n)∧p=0) ∨
 (∃ F c,v=.iface 184 (zP F)∧w.heap[F]? = (zC #[.string c,zI p,.iface 41 (zI n)] 186)) ∨
 (∃ F c G c2 p2,v=.iface 184 (zP F)∧w.heap[F]? = (zC #[.string c,zI p,.iface 184 (zP G)] 186)∧w.heap[G]? = (zC #[.string c2,zI p2,.iface 41 (zI n)] 186)) ∨
 (∃ F c,v=.iface 184 (zP F)∧w.heap[F]? = (zC #[.string c,zI p,.nilIface] 186)∧n = -1)
theorem Er.on {w w':yW}{v:Value}{n p:Int}(h:Er w v n p) (hb:yD w w'):Er w' v n p:=by
 have k:∀ {F:Nat}{o},w.heap[F]? = some o→w'.heap[F]? = some o:=fun hF=>(hb.block _ (zJ hF).1).trans hF
 rcases h with h | ⟨F,c,h1,h2⟩ | ⟨F,c,G,c2,p2,h1,h2,h3⟩ | ⟨F,c,h1,h2,h3⟩
 ·exact .inl h
 ·exact .inr (.inl ⟨F,c,h1,k h2⟩)
 ·exact .inr (.inr (.inl ⟨F,c,G,c2,p2,h1,k h2,k h3⟩))
 ·exact .inr (.inr (.inr ⟨F,c,h1,k h2,h3⟩))
theorem QgW {w:yW}{v:Value}{n p:Int}(h:Er w v n p) (t a:Addr) (old:Value) (ha:w.cell? a=some (.pointer (some t))) (ht0:w.cell? t=some old) (hf0:w.frozen? t=false) :
  Calls zG 196 #[v,.iface 222 (.pointer (some t)),.agg #[.pointer (some 4¢222),.pointer (some a),.int .u64 150],.iface 283 (.agg #[.pointer (some 4¢41)])] w fun ev w'=>∃ b,ev=.returned (.bool b)∧((b=true∧∃ V,yD w V∧w'=V.setCell t (zI n))∨(b=false∧n = -1∧yD w w')):=by
 rcases h with ⟨rfl,_⟩ | ⟨F,c,rfl,h2⟩ | ⟨F,c,G,c2,p2,rfl,h2,h3⟩ | ⟨F,c,rfl,h2,h3⟩
 ·exact (asE1 n t a old w ha ht0 hf0).mono fun e w' h=>⟨true,h.1,.inl ⟨rfl,h.2⟩⟩
 ·exact (asE2 F c p n t a old w ha ht0 hf0 h2).mono fun e w' h=>⟨true,h.1,.inl ⟨rfl,h.2⟩⟩
 ·exact (asE3 F c p G c2 p2 n t a old w ha ht0 hf0 h2 h3).mono fun e w' h=>⟨true,h.1,.inl ⟨rfl,h.2⟩⟩
 ·exact (asN1 F c p t a w h2).mono fun e w' h=>⟨false,h.1,.inr ⟨rfl,h3,h.2⟩⟩
def Ety (w:yW):Prop:=w.cell? 1¢0=some (.iface 283 (.agg #[.pointer (some 4¢85)]))
theorem Ety.on {w w':yW}(h:Ety w) (hb:yD w w'):Ety w':=by
 have l0:=World.block_lt_of_cell? w 1¢0 h
 unfold Ety;rw [hb.cell l0];exact h
theorem Er.face {w:yW}{v:Value}{n p:Int}(h:Er w v n p):∃ T x,v=.iface T x:=by
 rcases h with ⟨rfl,_⟩ | ⟨F,c,rfl,h2⟩ | ⟨F,c,G,c2,p2,rfl,h2,h3⟩ | ⟨F,c,rfl,h2,h3⟩ <;> exact⟨_,_,rfl⟩
theorem QcQ {w:yW}{v:Value}{n p:Int}(h:Er w v n p) (hg:Ety w) (t:Addr) (old:Value) (ht0:w.cell? t=some old) (hf0:w.frozen? t=false) :
  Calls zG 163 #[v,.iface 222 (.pointer (some t))] w fun ev w'=>∃ b,ev=.returned (.bool b)∧((b=true∧∃ V,yD w V∧w'=V.setCell t (zI n))∨(b=false∧n = -1∧yD w w')):=by
 obtain⟨T,x,rfl⟩:=h.face
 have b1:=Qb w (.cells #[.pointer (some t)] 222)
 have s1:=Qe w (.cells #[.pointer (some t)] 222)
 have n1:=Qc w (.cells #[.pointer (some t)] 222)
 have b2:=Qb (zA w #[.pointer (some t)] 222) (.cells #[.pointer (some 4¢222),zP w§,.int .u64 150] 259)
 have bb:=Qd b1 b2
 have lt:=World.block_lt_of_cell? w t ht0
 refine as49E T x t w hg _ ((QgW (h.on bb) t w§¢0 old (Qa ((b2.block _ zY).trans n1) 0) (by rw [bb.cell lt];exact ht0) (by rw [World.frozen?_alloc_old _ _ t (by rw [s1];omega),World.frozen?_alloc_old _ _ t zY];exact hf0)).mono ?_)
 rintro e w' ⟨b,rfl,hh⟩
 refine⟨b,rfl,?_⟩
 rcases hh with ⟨rfl,V,hV,rfl⟩ | ⟨rfl,hn,hV⟩
 ·exact .inl ⟨rfl,V,Qd bb hV,rfl⟩
 ·exact .inr ⟨rfl,hn,Qd bb hV⟩
theorem Qfj {w:yW}{v:Value}{n p:Int}(h:Er w v n p) (hg:Ety w) (t:Addr) (old:Value) (ht0:w.cell? t=some old) (hf0:w.frozen? t=false) :
  Calls zG 163 #[v,.iface 223 (.pointer (some t))] w fun ev w'=>∃ b,ev=.returned (.bool b)∧((b=true∧∃ F c e,w.heap[F]? = (zC #[.string c,zI p,e] 186)∧∃ V,yD w V∧w'=V.setCell t (zP F))∨(b=false∧p=0∧yD w w')):=by
 rcases h with ⟨rfl,hp⟩ | ⟨F,c,rfl,h2⟩ | ⟨F,c,G,c2,p2,rfl,h2,h3⟩ | ⟨F,c,rfl,h2,h3⟩
 ·refine as49F 41 (zI n) t w hg _ ((asN0 n t _ _).mono ?_)
  rintro e w' ⟨rfl,hb⟩
  exact⟨false,rfl,.inr ⟨rfl,hp,Qd (Qd (Qb _ _) (Qb _ _)) hb⟩⟩
 all_goals exact (QbN F¢0 t old w hg ht0 hf0).mono fun e w' h=>⟨true,h.1,.inl ⟨rfl,F,c,_,h2,h.2⟩⟩
end Go.Proofs.YtfbjofnaghjmeaaGreatDoor
