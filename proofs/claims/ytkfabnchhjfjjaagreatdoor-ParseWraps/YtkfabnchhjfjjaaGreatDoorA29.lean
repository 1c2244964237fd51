import Derived.Test.YtkfabnchhjfjjaaGreatDoorA0
import Derived.Test.YtkfabnchhjfjjaaGreatDoorA28
import Derived.Test.YtkfabnchhjfjjaaGreatDoorA26
namespace Go.Proofs.YtkfabnchhjfjjaaGreatDoor
set_option maxRecDepth 100000
set_option maxHeartbeats 4000000
open Go.RowKit
set_option linter.unusedVariables false
def OutWS (s call:ByteArray) (w:World) (r:St) (e:Ending) (w':World):Prop :=
 match r with
 | .error f=>OutE s call w f e w'
 | .ok _=>(∃ cs:Array Value,e=.returned (.tuple #[.agg cs,.nilIface])∧cs.size=4∧cs.all (·.oneCell')=true)∧Below w§ w w'
theorem four {cs:Array Value}(h:cs.size=4):∃ a b c d,cs=#[a,b,c,d]:=by
 obtain⟨l⟩:=cs
 match l,h with
 | [a,b,c,d],_=>exact⟨a,b,c,d,rfl⟩
theorem gEnd_s (t:Tk) (ts:List Tk):gEnd (t :: ts)=if t.k=0 then .ok () else .error (.tok 130 t.p):=by
 by_cases e:t.k=0
 ·rw [if_pos e]; simp [gEnd,gLook,gNeed,bind,Except.bind,e]
 ·rw [if_neg e]; simp [gEnd,gLook,gNeed,bind,Except.bind,e]
theorem end_nf (ts:List Tk):(∃ f,gEnd ts=.error f∧dEnd (nf ts)=.error f)∨(gEnd ts=.ok ()∧∃ r,dEnd (nf ts)=.ok r):=by
 cases ts with
 | nil=>exact .inl ⟨.lex,rfl,rfl⟩
 | cons t ts =>
  have e:dEnd (nf (t :: ts))=if t.k=0 then .ok (t :: ts) else .error (.tok 130 t.p):=rfl
  rw [gEnd_s,e]
  by_cases c:t.k=0
  ·rw [if_pos c,if_pos c]; exact .inr ⟨rfl,_,rfl⟩
  ·rw [if_neg c,if_neg c]; exact .inl ⟨_,rfl,rfl⟩
theorem wholeS_any (call s:ByteArray) (hs:s.size≤4194304) (w:World) (ht:Tab w) :
  Calls zG 25 #[.string call,.string s,.func (.func 26) #[] #[]] w (OutWS s call w (sWhole s)):=by
 obtain⟨r0,er0⟩:∃ r,sWhole s=r:=⟨_,rfl⟩
 have HR0:Hid (sWhole s=r0):=er0
 rw [er0]
 clear er0
 have hmf:∀ (fn:Fn) (first cap:Array Value) (w:World),(Instr.makeFunc fn first cap).run Tryz.prog w=.ok (.func fn first cap) w:=fun _ _ _ _=>rfl
 obtain⟨W3,eW3⟩:∃ W,(((w.alloc (.cells #[.string call] 9)).alloc (.cells zA9 43)).alloc (.cells #[.nilIface] 45))=W:=⟨_,rfl⟩
 have HW3:=zH eW3
 have b0:=Bn w (.cells #[.string call] 9)
 have b1:=Bn (w.alloc (.cells #[.string call] 9)) (.cells zA9 43)
 have b2:=Bn ((w.alloc (.cells #[.string call] 9)).alloc (.cells zA9 43)) (.cells #[.nilIface] 45)
 have n0:=Hn w (.cells #[.string call] 9)
 have n1:=Hn (w.alloc (.cells #[.string call] 9)) (.cells zA9 43)
 have n2:=Hn ((w.alloc (.cells #[.string call] 9)).alloc (.cells zA9 43)) (.cells #[.nilIface] 45)
 have s0:=Sa w (.cells #[.string call] 9)
 have s1:=Sa (w.alloc (.cells #[.string call] 9)) (.cells zA9 43)
 have s2:=Sa ((w.alloc (.cells #[.string call] 9)).alloc (.cells zA9 43)) (.cells #[.nilIface] 45)
 rw [eW3] at b2 n2 s2
 have HS3:Hid (W3§=w§+3):=by show _=_; omega
 have HB3:=zH (B2 (B2 b0 b1) b2)
 have H0:Hid (W3.heap[w§]? = some (.cells #[.string call] 9 (0,0))):=((b2.block _ (by omega)).trans (b1.block _ (by omega))).trans n0
 have H1:Hid (W3.heap[w§+1]? = some (.cells zA9 43 (0,0))):=by rw [s0] at n1; exact (b2.block _ (by omega)).trans n1
 have H2:Hid (W3.heap[w§+2]? = some (.cells #[.nilIface] 45 (0,0))):=by rw [s1,s0] at n2; exact n2
 have cN:=new_any s hs W3 (ht.on HB3.out)
 clear b0 b1 b2 n0 n1 n2 s0 s1 s2 eW3 ht
 go_enter_defers Tryz.func25,Tryz.ntmps25
 go_wp2_with fail
 try rw [HW3.out]
 refine cN.mono ?_
 rintro e w4 ⟨b,G,a,c,fa,fe,rfl,hR,hG,hb,hF,hFb,hB4⟩
 have HX4:=(show WX w W3 s call fa fe b G (rdT s) w4 from ⟨HB3.out,Mv.ofBelow hB4,hb,hG,⟨a,c,hR⟩,hF,hFb⟩).hid
 have cE:=strat_p ⟨⟨a,c,hR⟩,rdT_rg s⟩
 clear cN hR hG hb hF hFb hB4
 go_wp2_with fail
 refine cE.mono ?_
 rintro e w5 (⟨_,ts5,rfl,⟨cs,rfl,hc2,hc3⟩,hr,hn,hm⟩ | ⟨f,rfl,hf,hm⟩)
 rotate_left
 ·have e1:r0=.error f:=by rw [← HR0.out,sWhole,hf]; rfl
  subst e1
  exact HX4.out.err61 HS3.out H0.out H1.out H2.out f hm _ rfl rfl
 have HX5:=(HX4.out.mv hm hr.1).hid
 have HCS:Hid (cs.size=4∧cs.all (·.oneCell')=true):=⟨hc2,hc3⟩
 have HRE:Hid (r0=dEnd (nf ts5)):=by show _=_; rw [← HR0.out,sWhole,hn]
 have HZ:Hid ((w5.alloc (.cells zA9 43)).heap[w5§]? = some (.cells zA9 43 (0,0))):=Hn _ _
 have HB6:Hid (Below w5§ w5 ((w5.alloc (.cells zA9 43)).setRow w5§ cs)):=below_row (Bn _ _) (Nat.le_refl _) cs
 have HN6:Hid (((w5.alloc (.cells zA9 43)).setRow w5§ cs).heap[w5§]? = some (.cells cs 43 (0,0))):=setRow_heap _ _ _ _ _ _ (Hn _ _)
 clear cE hc2 hc3 hr hn hm HX4 HR0
 go_upto_region 4 with (refine wpList_store_row rfl 43 (.tmp 9) (.tmp 15) rfl w5§ cs rfl rfl 43 zA9 HZ.out (by rw [HCS.out.1]; exact size43) (by rw [HCS.out.1]; rfl) HCS.out.2 ?_)
 generalize hW6:World.setRow _ _ _=W6
 have HB6:Hid (Below w5§ w5 W6):=by rw [← hW6]; exact HB6.out
 have HN6:Hid (W6.heap[w5§]? = some (.cells cs 43 (0,0))):=by rw [← hW6]; exact HN6.out
 clear hW6 HZ
 obtain⟨a5,c5,h5⟩:=HX5.out.R
 have cD:=end_any (h5.on HB6.out)
 rcases end_nf ts5 with ⟨f,g1,g2⟩ | ⟨g1,r,g2⟩
 ·rw [g1] at cD
  have e1:r0=.error f:=by rw [HRE.out,g2]
  subst e1
  clear h5 g1 g2
  go_wp2_with fail
  refine cD.mono ?_
  rintro e w7 ⟨he,hb7⟩
  obtain rfl:=he
  exact HX5.out.err61 HS3.out H0.out H1.out H2.out f (Mv.ofBelow (B2 HB6.out hb7)) _ rfl rfl
 ·rw [g1] at cD
  have e1:r0=.ok r:=by rw [HRE.out,g2]
  subst e1
  clear h5 g1 g2
  go_wp2_with fail
  refine cD.mono ?_
  rintro e w7 ⟨he,hb7⟩
  obtain rfl:=he
  have HB7:=zH (B2 HB6.out hb7)
  have hs6:=(Array.getElem?_eq_some_iff.1 HN6.out).1
  have HA7:Hid (w7.heap[w5§]? = some (.cells cs 43 (0,0))):=(hb7.block _ hs6).trans HN6.out
  have hlow:∀ k,k < w§+3→w7.heap[k]? = W3.heap[k]?:=fun k hk=>(HB7.out.block k (Nat.lt_of_lt_of_le (by have:=HS3.out; omega) HX5.out.M.size)).trans (HX5.out.low (by have:=HS3.out; omega))
  have g1:=(hlow (w§+1) (by omega)).trans H1.out
  have g2:=(hlow (w§+2) (by omega)).trans H2.out
  have HG1:=zH g1
  have hl7:w§+3≤w7§:=by have:=HX5.out.M.size; have:=HB7.out.size; have:=HS3.out; omega
  have m7:Mv w w7 (fun _=>False):=(((Mv.ofBelow HX5.out.B).trans HX5.out.M (fun k e=>.inr (by have:=HX5.out.hb; have:=HS3.out; omega)))).trans (Mv.ofBelow HB7.out) (fun k e=>.inl e)
  have bY:Below w§ w (w7.setRow (w§+1) cs):=below_row m7.toBelow (by omega) cs
  have HY:Hid ((w7.setRow (w§+1) cs).heap[w§+1]? = some (.cells cs 43 (0,0))∧(w7.setRow (w§+1) cs).heap[w§+2]? = some (.cells #[.nilIface] 45 (0,0))∧(w7.setRow (w§+1) cs)§=w7§∧Below w§ w (w7.setRow (w§+1) cs)∧w§+3≤w7§):=⟨setRow_heap _ _ _ _ _ _ g1,(setRow_oth _ _ _ (by omega)).trans g2,by unfold World.setRow; simp,bY,hl7⟩
  have v0:(w7.setRow (w§+1) cs).cell? ⟨w§+1+1,0,none⟩=some .nilIface:=Co HY.out.2.1 0
  have v1:=Fo HY.out.2.1 0
  clear cD hb7 hlow g1 g2 hl7 m7 bY hs6
  go_wp2_with (first | (refine wpList_load_row rfl 43 (.tmp 9) rfl w5§ rfl 43 cs (0,0) _ HA7.out Tryz.underlying43 rfl (by rw [HCS.out.1]; exact size43) ?_) | (refine wpList_store_row rfl 43 (.tmp 6) (.tmp 18) rfl (w§+1) cs rfl rfl 43 zA9 HG1.out (by rw [HCS.out.1]; exact size43) (by rw [HCS.out.1]; rfl) HCS.out.2 ?_))
  obtain⟨Y,eY⟩:∃ Y,w7.setRow (w§+1) cs=Y:=⟨_,rfl⟩
  rw [eY] at HY
  rw [eY]
  clear v0 v1 eY
  refine leaves_cons (f:=61) (args:=#[zP w§,.pointer (some ⟨w§+2,0,none⟩)]) (by simp) (by simp [go_sem]) ?_
  refine (catch61_i ⟨w§,0,none⟩ ⟨w§+2,0,none⟩ _).mono ?_
  rintro e u' Z ⟨rfl,rfl,eZ⟩
  obtain⟨k1,k2',k3,k5,k6⟩:=HY.out
  have b9:=Bn (Y.setCell ⟨w§+2,0,none⟩ .nilIface) (.cells #[zI 0,.nilIface] 143)
  have s9:(Y.setCell ⟨w§+2,0,none⟩ .nilIface)§=Y§:=by simp [World.setCell]
  have oldZ:∀ k,k < Y§→k≠w§+2→Z.heap[k]? = Y.heap[k]?:=fun k hk hn=>by
   rw [eZ]
   exact (b9.block k (by omega)).trans (Below.heap_setCell _ _ _ _ hn)
  have z1:=(oldZ _ (by omega) (by omega)).trans k1
  have z2:Z.heap[w§+2]? = some (.cells #[.nilIface] 45 (0,0)):=by
   rw [eZ]
   exact (b9.block _ (by omega)).trans (Hs0 (j:=0) _ k2')
  have mZ:Mv w Z (fun _=>False):=by
   rw [eZ]
   exact ((Mv.ofBelow (F:=fun _=>False) k5).setCell (a:=⟨w§+2,0,none⟩) (.inr (by show w§≤w§+2; omega)) _).alloc _
  have hcs:=HCS.out
  obtain⟨d0,d1,d2,d3,rfl⟩:=four hcs.1
  obtain⟨c0,c1,c2,c3⟩:=cl4 z1
  have zz:Z.cell? ⟨w§+1+1,0,none⟩=some .nilIface:=Co z2 0
  clear eZ oldZ b9 s9
  refine⟨.tuple #[.agg #[d0,d1,d2,d3],.nilIface],?_,⟨#[d0,d1,d2,d3],rfl,hcs.1,hcs.2⟩,mZ.toBelow⟩
  clear mZ hcs
  simp [results,Tryz.results25,go_sem,zz,c0,c1,c2,c3]
theorem stratS_any (s:ByteArray) (hs:s.size≤4194304) (w:World) (ht:Tab w):Calls zG 10 #[.string s] w (OutWS s Z04 w (sWhole s)):=by
 have b0:=Bn w (.cells zA9 43)
 have n0:=Hn w (.cells zA9 43)
 have s0:=Sa w (.cells zA9 43)
 have cW:=wholeS_any Z04 s hs _ (ht.on b0)
 have H0:Hid (Below w§ w (w.alloc (.cells zA9 43))∧(w.alloc (.cells zA9 43)).heap[w§]? = some (.cells zA9 43 (0,0))∧(w.alloc (.cells zA9 43))§=w§+1):=⟨b0,n0,s0⟩
 obtain⟨r0,er0⟩:∃ r,sWhole s=r:=⟨_,rfl⟩
 rw [er0] at cW ⊢
 clear b0 n0 s0 ht er0
 cases r0 with
 | error f =>
  go_enter Tryz.func10,Tryz.ntmps10
  go_wp2_with fail
  refine cW.mono ?_
  rintro e w1 ⟨⟨F,rfl,hE,hF⟩,hb⟩
  obtain⟨g1,g2,g3⟩:=H0.out
  have hZ:=(hb.block _ (by omega)).trans g2
  obtain⟨Y,eY,hY1,hY2,hY3,hY4⟩:=fin4_43 hZ (.string ⟨#[]⟩) (.slice none 0 0) (.slice none 0 0) (.slice none 0 0)
  have HY:Hid (Y.heap[w§]? = some (.cells zA9 43 (0,0))∧ErrAt Y s Z04 f F∧w§≤F∧Below w§ w Y):=⟨hY1,hE.mv43 hZ hY3,by omega,(hY4 w (fun _=>False) (Mv.ofBelow (B2 g1 hb)) (Nat.le_refl _)).toBelow⟩
  have HEY:Hid (_=Y):=eY
  obtain⟨z0,z1,z2,z3⟩:=cl4 hZ
  obtain⟨q0,q1,q2,q3⟩:=fz4 hZ
  clear cW hE hF hb g1 g2 g3 hZ eY hY1 hY2 hY3 hY4 H0
  go_wp2_with fail
  rw [HEY.out]
  exact bodyPost_ret (Rt2 (p:=2) (u:=3) (ty:=43) rfl _ _ w§ 43 zA9 (0,0) _ rfl HY.out.1 Tryz.underlying43 rfl zK) rfl ⟨⟨F,rfl,HY.out.2.1,HY.out.2.2.1⟩,HY.out.2.2.2⟩
 | ok r =>
  go_enter Tryz.func10,Tryz.ntmps10
  go_wp2_with fail
  refine cW.mono ?_
  rintro e w1 ⟨⟨cs,rfl,hc1,hc2⟩,hb⟩
  obtain⟨g1,g2,g3⟩:=H0.out
  have hZ:=(hb.block _ (by omega)).trans g2
  have HO:=zH hZ
  have HCS:Hid (cs.size=4∧cs.all (·.oneCell')=true):=⟨hc1,hc2⟩
  have HY:Hid ((w1.setRow w§ cs).heap[w§]? = some (.cells cs 43 (0,0))∧Below w§ w (w1.setRow w§ cs)):=⟨setRow_heap _ _ _ _ _ _ hZ,below_row (B2 g1 hb) (Nat.le_refl _) cs⟩
  clear cW hb g1 g2 g3 hZ hc1 hc2 H0
  go_wp2_with (refine wpList_store_row rfl 43 (.tmp 2) (.tmp 6) rfl w§ cs rfl rfl 43 zA9 HO.out (by rw [HCS.out.1]; exact size43) (by rw [HCS.out.1]; rfl) HCS.out.2 ?_)
  exact bodyPost_ret (Rt2 (p:=2) (u:=3) (ty:=43) rfl _ _ w§ 43 cs (0,0) _ rfl HY.out.1 Tryz.underlying43 rfl (by rw [HCS.out.1]; exact size43)) rfl ⟨⟨cs,rfl,HCS.out.1,HCS.out.2⟩,HY.out.2⟩
open Go.Extern.Stop Go.Stop Go.Extern
theorem no74_Is (v:Value) (w:World):(Instr.typeAssert (.iface 74 v) 45 195 true).run Tryz.prog w=.ok (.tuple #[.nilIface,.bool false]) w:=run_typeAssert_lacksB Tryz.underlying195 zK zK v 45 w
theorem eq74_48 (a b:Value) (w:World):(binOp .eql 45 (.iface 74 a) (.iface 48 b)).run Tryz.prog w=.ok (.bool false) w:=by kernel_rfl
theorem eq48_0 (n m:Int) (w:World):(binOp .eql 45 (.iface 48 (zI n)) (.iface 48 (zI m))).run Tryz.prog w=.ok (.bool (n == m)) w:=by kernel_rfl
theorem eq48_48 (n:Int) (w:World):(binOp .eql 45 (.iface 48 (zI n)) (.iface 48 (zI n))).run Tryz.prog w=.ok (.bool true) w:=by rw [eq48_0]; simp
theorem isE2 (F:Nat) (call:ByteArray) (at' n:Int) (w:World) (hF:w.heap[F]? = some (.cells #[.string call,zI at',.iface 48 (zI n)] 76 (0,0))) :
  Calls zG 51 #[.iface 74 (zP F),.iface 48 (zI n),.bool true] w fun e w'=>e=.returned (.bool true)∧w'=w:=by
 have q1:=eq74_48
 have q2:=eq48_48
 have mU:=mtUn
 have n74:=no74_Is
 have i74:=is74_Un
 have cU:=unwrap_any F call at' _ w hF
 clear hF
 go_enter Tryz.func51,Tryz.ntmps51
 go_wp2_with fail
 refine wp_loop_rounds 2 ?_
 rw [rounds_succ]
 go_wp2_with fail
 refine cU.mono ?_
 rintro e w1 ⟨rfl,e1⟩
 obtain rfl:=e1.symm
 clear cU e1
 go_wp2_with fail
 rw [rounds_succ]
 go_wp2_with fail
 go_ret
 exact⟨rfl,rfl⟩
theorem isE3 (F F':Nat) (call call':ByteArray) (at' at2 n:Int) (w:World) (hF:w.heap[F]? = some (.cells #[.string call,zI at',.iface 74 (zP F')] 76 (0,0))) (hF':w.heap[F']? = some (.cells #[.string call',zI at2,.iface 48 (zI n)] 76 (0,0))) :
  Calls zG 51 #[.iface 74 (zP F),.iface 48 (zI n),.bool true] w fun e w'=>e=.returned (.bool true)∧w'=w:=by
 have q1:=eq74_48
 have q2:=eq48_48
 have mU:=mtUn
 have n74:=no74_Is
 have i74:=is74_Un
 have cU:=unwrap_any F call at' _ w hF
 have cU':=unwrap_any F' call' at2 _ w hF'
 clear hF hF'
 go_enter Tryz.func51,Tryz.ntmps51
 go_wp2_with fail
 refine wp_loop_rounds 3 ?_
 rw [rounds_succ]
 go_wp2_with fail
 refine cU.mono ?_
 rintro e w1 ⟨rfl,e1⟩
 obtain rfl:=e1.symm
 clear cU e1
 go_wp2_with fail
 rw [rounds_succ]
 go_wp2_with fail
 refine cU'.mono ?_
 rintro e w1 ⟨rfl,e1⟩
 obtain rfl:=e1.symm
 clear cU' e1
 go_wp2_with fail
 rw [rounds_succ]
 go_wp2_with fail
 go_ret
 exact⟨rfl,rfl⟩
theorem mtCmp (h : Value) (w : World) : (Go.method 392 193 (.agg #[h]) "Comparable").run Tryz.prog w = .ok (222, .agg #[h]) w := by kernel_rfl
theorem cmp48 (w : World) : ((ReflectliteType.method fun t => do Rtype.noPackHeld "Comparable" t; pure (.bool (← typeInfo t).comparable)) #[.agg #[.pointer (some ⟨3, 48, none⟩)]]).run Tryz.prog w = .ok (.bool true) w := by kernel_rfl
theorem cmp48' (w : World) : ((ReflectliteType.method (fun t => do
    Rtype.noPackHeld "Comparable" t
    (fun a => Value.bool a.comparable) <$> typeInfo t)) #[.agg #[.pointer (some ⟨3, 48, none⟩)]]).run Tryz.prog w = .ok (.bool true) w := by kernel_rfl
theorem eqn_48 (b : Value) (w : World) : (binOp .eql 45 .nilIface (.iface 48 b)).run Tryz.prog w = .ok (.bool false) w := by kernel_rfl
theorem eq74_n (b : Value) (w : World) : (binOp .eql 45 (.iface 74 b) .nilIface).run Tryz.prog w = .ok (.bool false) w := by kernel_rfl
theorem eq48_n (b : Value) (w : World) : (binOp .eql 45 (.iface 48 b) .nilIface).run Tryz.prog w = .ok (.bool false) w := by kernel_rfl
set_option maxRecDepth 100000 in
set_option maxHeartbeats 2000000 in
theorem Is_of (F : Nat) (n : Int) (w : World) (cR : Calls zG 51 #[.iface 74 (.pointer (some ⟨F, 0, none⟩)), .iface 48 (zI n), .bool true] w fun e w' => e = .returned (.bool true) ∧ w' = w) :
    Calls zG 21 #[.iface 74 (.pointer (some ⟨F, 0, none⟩)), .iface 48 (zI n)] w fun e w' => e = .returned (.bool true) ∧ w' = w := by
  have h50 := @run_callFunc_extern Tryz.prog 50 _ ReflectliteType.typeOf Tryz.func50 zK zK zK zK
  have h222 := @run_callFunc_extern Tryz.prog 222 _ (ReflectliteType.method fun t => do Rtype.noPackHeld "Comparable" t; pure (.bool (← typeInfo t).comparable)) Tryz.func222 zK zK zK zK
  have tO := tOf48
  have mC := mtCmp
  have c48 := cmp48'
  have q1 := eq74_n
  have q2 := eq48_n
  go_enter Tryz.func21, Tryz.ntmps21
  go_wp2_with fail
  refine cR.mono ?_
  rintro e w1 ⟨rfl, e1⟩
  obtain rfl := e1.symm
  clear cR e1
  go_wp2_with fail
  go_ret
  exact ⟨rfl, rfl⟩
set_option maxRecDepth 100000 in
theorem Is_nil (n : Int) (w : World) : Calls zG 21 #[.nilIface, .iface 48 (zI n)] w fun e w' => e = .returned (.bool false) ∧ w' = w := by
  have q1 := eqn_48
  go_enter Tryz.func21, Tryz.ntmps21
  go_wp2_with fail
  go_ret
  exact ⟨rfl, rfl⟩
theorem beg_on {s:ByteArray}{f q:Nat}(hf:f≤s.size) (h:oneE s f=0) (hk:(oneT s f).k≠0) (hq:oneQ s f=q):begO s f=(oneT s f :: (begO s q).1,(begO s q).2):=by
 rw [(beg_more hf h hk).2.2.2,hq]
theorem tk_ext {t u:Tk}(h1:t.k=u.k) (h2:t.x.data.toList=u.x.data.toList) (h3:t.ty=u.ty) (h4:t.n=u.n) (h5:t.p=u.p):t=u:=by
 cases t; cases u
 have h2':=str_eq h2
 simp only at h1 h2' h3 h4 h5
 rw [h1,h3,h4,h5,h2']
def exA:ByteArray:=⟨#[49,32,45,32,50,32,45,32,51]⟩
theorem exA_t0:oneT exA 0=⟨3,⟨#[49]⟩,1,1,0⟩:=tk_ext (by decide +kernel) (by decide +kernel) (by decide +kernel) (by decide +kernel) (by decide +kernel)
theorem exA_e0:oneE exA 0=0∧oneQ exA 0=1:=by decide +kernel
theorem exA_t1:oneT exA 1=⟨4,Zc,0,0,2⟩:=tk_ext (by decide +kernel) (by decide +kernel) (by decide +kernel) (by decide +kernel) (by decide +kernel)
theorem exA_e1:oneE exA 1=0∧oneQ exA 1=3:=by decide +kernel
theorem exA_t2:oneT exA 3=⟨3,⟨#[50]⟩,1,2,4⟩:=tk_ext (by decide +kernel) (by decide +kernel) (by decide +kernel) (by decide +kernel) (by decide +kernel)
theorem exA_e2:oneE exA 3=0∧oneQ exA 3=5:=by decide +kernel
theorem exA_t3:oneT exA 5=⟨4,Zc,0,0,6⟩:=tk_ext (by decide +kernel) (by decide +kernel) (by decide +kernel) (by decide +kernel) (by decide +kernel)
theorem exA_e3:oneE exA 5=0∧oneQ exA 5=7:=by decide +kernel
theorem exA_t4:oneT exA 7=⟨3,⟨#[51]⟩,1,3,8⟩:=tk_ext (by decide +kernel) (by decide +kernel) (by decide +kernel) (by decide +kernel) (by decide +kernel)
theorem exA_e4:oneE exA 7=0∧oneQ exA 7=9:=by decide +kernel
theorem exA_t5:oneT exA 9=⟨0,⟨#[]⟩,0,0,9⟩:=tk_ext (by decide +kernel) (by decide +kernel) (by decide +kernel) (by decide +kernel) (by decide +kernel)
theorem exA_e5:oneE exA 9=0:=by decide +kernel
theorem exA_beg:begO exA 0=([⟨3,⟨#[49]⟩,1,1,0⟩,⟨4,Zc,0,0,2⟩,⟨3,⟨#[50]⟩,1,2,4⟩,⟨4,Zc,0,0,6⟩,⟨3,⟨#[51]⟩,1,3,8⟩,⟨0,⟨#[]⟩,0,0,9⟩],0,0):=by
 rw [beg_on (by decide) exA_e0.1 (by rw [exA_t0]; decide) exA_e0.2,beg_on (by decide) exA_e1.1 (by rw [exA_t1]; decide) exA_e1.2,beg_on (by decide) exA_e2.1 (by rw [exA_t2]; decide) exA_e2.2,beg_on (by decide) exA_e3.1 (by rw [exA_t3]; decide) exA_e3.2,beg_on (by decide) exA_e4.1 (by rw [exA_t4]; decide) exA_e4.2,beg_end exA_e5 (by rw [exA_t5]),exA_t0,exA_t1,exA_t2,exA_t3,exA_t4,exA_t5]
theorem exA_tks:tksE exA=0∧rdT exA = [⟨3,⟨#[49]⟩,1,1,0⟩,⟨4,Zc,0,0,2⟩,⟨3,⟨#[50]⟩,1,2,4⟩,⟨4,Zc,0,0,6⟩,⟨3,⟨#[51]⟩,1,3,8⟩,⟨0,⟨#[]⟩,0,0,9⟩]:=by
 obtain⟨a,b,_⟩:=tks_short (s:=exA) (by decide) exA_beg
 obtain⟨b1,b2⟩:=b rfl
 refine⟨a,?_⟩
 unfold rdT
 rw [if_pos a,b2]
def exB:ByteArray:=⟨#[40,49,32,43,32,38]⟩
theorem exB_t0:oneT exB 0=⟨4,Zj,0,0,0⟩:=tk_ext (by decide +kernel) (by decide +kernel) (by decide +kernel) (by decide +kernel) (by decide +kernel)
theorem exB_e0:oneE exB 0=0∧oneQ exB 0=1:=by decide +kernel
theorem exB_t1:oneT exB 1=⟨3,⟨#[49]⟩,1,1,1⟩:=tk_ext (by decide +kernel) (by decide +kernel) (by decide +kernel) (by decide +kernel) (by decide +kernel)
theorem exB_e1:oneE exB 1=0∧oneQ exB 1=2:=by decide +kernel
theorem exB_t2:oneT exB 2=⟨4,Zy,0,0,3⟩:=tk_ext (by decide +kernel) (by decide +kernel) (by decide +kernel) (by decide +kernel) (by decide +kernel)
theorem exB_e2:oneE exB 2=0∧oneQ exB 2=4:=by decide +kernel
theorem exB_bad:oneE exB 4=111∧oneB exB 4=5:=by decide +kernel
theorem exB_beg:begO exB 0=([⟨4,Zj,0,0,0⟩,⟨3,⟨#[49]⟩,1,1,1⟩,⟨4,Zy,0,0,3⟩],111,5):=by
 rw [beg_on (by decide) exB_e0.1 (by rw [exB_t0]; decide) exB_e0.2,beg_on (by decide) exB_e1.1 (by rw [exB_t1]; decide) exB_e1.2,beg_on (by decide) exB_e2.1 (by rw [exB_t2]; decide) exB_e2.2,beg_bad (by rw [exB_bad.1]; decide),exB_bad.1,exB_bad.2,exB_t0,exB_t1,exB_t2]
theorem exB_tks:tksE exB=111∧tksB exB=5∧rdT exB = [⟨4,Zj,0,0,0⟩,⟨3,⟨#[49]⟩,1,1,1⟩,⟨4,Zy,0,0,3⟩]:=by
 obtain⟨a,_,b⟩:=tks_short (s:=exB) (by decide) exB_beg
 obtain⟨b1,_⟩:=b (by decide)
 refine⟨a,b1,?_⟩
 unfold rdT
 rw [if_neg (by rw [a]; decide)]
 unfold allL
 rw [if_neg (by decide)]
 unfold allF
 rw [exB_beg]
 rfl
def exC:ByteArray:=Z08
theorem exC_t0:oneT exC 0=⟨1,ZQ,0,0,0⟩:=tk_ext (by decide +kernel) (by decide +kernel) (by decide +kernel) (by decide +kernel) (by decide +kernel)
theorem exC_e0:oneE exC 0=0∧oneQ exC 0=8:=by decide +kernel
theorem exC_t1:oneT exC 8=⟨2,ZX,0,0,9⟩:=tk_ext (by decide +kernel) (by decide +kernel) (by decide +kernel) (by decide +kernel) (by decide +kernel)
theorem exC_e1:oneE exC 8=0∧oneQ exC 8=10:=by decide +kernel
theorem exC_t2:oneT exC 10=⟨4,Zs,0,0,10⟩:=tk_ext (by decide +kernel) (by decide +kernel) (by decide +kernel) (by decide +kernel) (by decide +kernel)
theorem exC_e2:oneE exC 10=0∧oneQ exC 10=11:=by decide +kernel
theorem exC_t3:oneT exC 11=⟨1,Zd,0,0,11⟩:=tk_ext (by decide +kernel) (by decide +kernel) (by decide +kernel) (by decide +kernel) (by decide +kernel)
theorem exC_e3:oneE exC 11=0∧oneQ exC 11=16:=by decide +kernel
theorem exC_t4:oneT exC 16=⟨2,⟨#[97]⟩,0,0,17⟩:=tk_ext (by decide +kernel) (by decide +kernel) (by decide +kernel) (by decide +kernel) (by decide +kernel)
theorem exC_e4:oneE exC 16=0∧oneQ exC 16=18:=by decide +kernel
theorem exC_t5:oneT exC 18=⟨4,Zs,0,0,18⟩:=tk_ext (by decide +kernel) (by decide +kernel) (by decide +kernel) (by decide +kernel) (by decide +kernel)
theorem exC_e5:oneE exC 18=0∧oneQ exC 18=19:=by decide +kernel
theorem exC_t6:oneT exC 19=⟨4,Z8,0,0,19⟩:=tk_ext (by decide +kernel) (by decide +kernel) (by decide +kernel) (by decide +kernel) (by decide +kernel)
theorem exC_e6:oneE exC 19=0∧oneQ exC 19=20:=by decide +kernel
theorem exC_t7:oneT exC 20=⟨4,Z8,0,0,20⟩:=tk_ext (by decide +kernel) (by decide +kernel) (by decide +kernel) (by decide +kernel) (by decide +kernel)
theorem exC_e7:oneE exC 20=0∧oneQ exC 20=21:=by decide +kernel
theorem exC_t8:oneT exC 21=⟨0,⟨#[]⟩,0,0,21⟩:=tk_ext (by decide +kernel) (by decide +kernel) (by decide +kernel) (by decide +kernel) (by decide +kernel)
theorem exC_e8:oneE exC 21=0:=by decide +kernel
theorem exC_beg:begO exC 0=([⟨1,ZQ,0,0,0⟩,⟨2,ZX,0,0,9⟩,⟨4,Zs,0,0,10⟩,⟨1,Zd,0,0,11⟩,⟨2,⟨#[97]⟩,0,0,17⟩,⟨4,Zs,0,0,18⟩,⟨4,Z8,0,0,19⟩,⟨4,Z8,0,0,20⟩,⟨0,⟨#[]⟩,0,0,21⟩],0,0):=by
 rw [beg_on (by decide) exC_e0.1 (by rw [exC_t0]; decide) exC_e0.2,beg_on (by decide) exC_e1.1 (by rw [exC_t1]; decide) exC_e1.2,beg_on (by decide) exC_e2.1 (by rw [exC_t2]; decide) exC_e2.2,beg_on (by decide) exC_e3.1 (by rw [exC_t3]; decide) exC_e3.2,beg_on (by decide) exC_e4.1 (by rw [exC_t4]; decide) exC_e4.2,beg_on (by decide) exC_e5.1 (by rw [exC_t5]; decide) exC_e5.2,beg_on (by decide) exC_e6.1 (by rw [exC_t6]; decide) exC_e6.2,beg_on (by decide) exC_e7.1 (by rw [exC_t7]; decide) exC_e7.2,beg_end exC_e8 (by rw [exC_t8]),exC_t0,exC_t1,exC_t2,exC_t3,exC_t4,exC_t5,exC_t6,exC_t7,exC_t8]
theorem exC_tks:tksE exC=0∧rdT exC = [⟨1,ZQ,0,0,0⟩,⟨2,ZX,0,0,9⟩,⟨4,Zs,0,0,10⟩,⟨1,Zd,0,0,11⟩,⟨2,⟨#[97]⟩,0,0,17⟩,⟨4,Zs,0,0,18⟩,⟨4,Z8,0,0,19⟩,⟨4,Z8,0,0,20⟩,⟨0,⟨#[]⟩,0,0,21⟩]:=by
 obtain⟨a,b,_⟩:=tks_short (s:=exC) (by decide) exC_beg
 obtain⟨b1,b2⟩:=b rfl
 refine⟨a,?_⟩
 unfold rdT
 rw [if_pos a,b2]
def exD:ByteArray:=Z09
theorem exD_t0:oneT exD 0=⟨1,ZQ,0,0,0⟩:=tk_ext (by decide +kernel) (by decide +kernel) (by decide +kernel) (by decide +kernel) (by decide +kernel)
theorem exD_e0:oneE exD 0=0∧oneQ exD 0=8:=by decide +kernel
theorem exD_t1:oneT exD 8=⟨2,ZX,0,0,9⟩:=tk_ext (by decide +kernel) (by decide +kernel) (by decide +kernel) (by decide +kernel) (by decide +kernel)
theorem exD_e1:oneE exD 8=0∧oneQ exD 8=10:=by decide +kernel
theorem exD_t2:oneT exD 10=⟨4,Zs,0,0,10⟩:=tk_ext (by decide +kernel) (by decide +kernel) (by decide +kernel) (by decide +kernel) (by decide +kernel)
theorem exD_e2:oneE exD 10=0∧oneQ exD 10=11:=by decide +kernel
theorem exD_t3:oneT exD 11=⟨4,Z8,0,0,11⟩:=tk_ext (by decide +kernel) (by decide +kernel) (by decide +kernel) (by decide +kernel) (by decide +kernel)
theorem exD_e3:oneE exD 11=0∧oneQ exD 11=12:=by decide +kernel
theorem exD_t4:oneT exD 12=⟨0,⟨#[]⟩,0,0,12⟩:=tk_ext (by decide +kernel) (by decide +kernel) (by decide +kernel) (by decide +kernel) (by decide +kernel)
theorem exD_e4:oneE exD 12=0:=by decide +kernel
theorem exD_beg:begO exD 0=([⟨1,ZQ,0,0,0⟩,⟨2,ZX,0,0,9⟩,⟨4,Zs,0,0,10⟩,⟨4,Z8,0,0,11⟩,⟨0,⟨#[]⟩,0,0,12⟩],0,0):=by
 rw [beg_on (by decide) exD_e0.1 (by rw [exD_t0]; decide) exD_e0.2,beg_on (by decide) exD_e1.1 (by rw [exD_t1]; decide) exD_e1.2,beg_on (by decide) exD_e2.1 (by rw [exD_t2]; decide) exD_e2.2,beg_on (by decide) exD_e3.1 (by rw [exD_t3]; decide) exD_e3.2,beg_end exD_e4 (by rw [exD_t4]),exD_t0,exD_t1,exD_t2,exD_t3,exD_t4]
theorem exD_tks:tksE exD=0∧rdT exD = [⟨1,ZQ,0,0,0⟩,⟨2,ZX,0,0,9⟩,⟨4,Zs,0,0,10⟩,⟨4,Z8,0,0,11⟩,⟨0,⟨#[]⟩,0,0,12⟩]:=by
 obtain⟨a,b,_⟩:=tks_short (s:=exD) (by decide) exD_beg
 obtain⟨b1,b2⟩:=b rfl
 refine⟨a,?_⟩
 unfold rdT
 rw [if_pos a,b2]
theorem exA_whole:gWhole exA=.ok (.mk ⟨6,7,0,0,0,gE,6⟩ [.mk ⟨6,7,0,0,0,gE,2⟩ [(.mk ⟨1,0,1,1,0,gE,0⟩ []),(.mk ⟨1,0,1,2,0,gE,4⟩ [])],(.mk ⟨1,0,1,3,0,gE,8⟩ [])]):=by
 unfold gWhole
 rw [exA_tks.2]
 kernel_rfl
theorem exB_whole:gWhole exB=.error .lex:=by
 unfold gWhole
 rw [exB_tks.2.2]
 kernel_rfl
theorem exprA (w:World) (ht:Tab w):Calls zG 16 #[.string ⟨#[49,32,45,32,50,32,45,32,51]⟩] w fun e w'=>∃ B o c,e=.returned (.tuple #[.agg #[zU 6,zU 7,zU 0,zI 0,zU 0,.string ⟨#[]⟩,.slice (some ⟨B,o,none⟩) 2 c,zI 6],.nilIface])∧w'.cell? ⟨B,o+1,none⟩=some (zU 7)∧w'.cell? ⟨B,o+7,none⟩=some (zI 2)∧Below w§ w w':=by
 have c:=exprS_any exA (by decide) w ht
 rw [exA_whole] at c
 refine c.mono ?_
 rintro e w' ⟨⟨m,rfl,hm,hl,_⟩,hb⟩
 obtain⟨h,a,c,ks⟩:=m
 simp only [treeOf,Tr.mk.injEq] at hm
 obtain⟨h1,h2⟩:=hm
 match ks,h2,hl with
 | [],h2,_=>simp [treesOf] at h2
 | [_],h2,_=>simp [treesOf] at h2
 | _ :: _ :: _ :: _,h2,_=>simp [treesOf] at h2
 | [k0,k1],h2,hl =>
  simp only [treesOf,List.cons.injEq] at h2
  obtain⟨k0h,k0a,k0c,k0k⟩:=k0
  have hh:=h2.1
  simp only [treeOf,Tr.mk.injEq] at hh
  obtain⟨B,o,ea,hat⟩:=hl.kid 0 (by simp [Nd.ks])
  simp only [Nd.a] at ea
  subst ea
  have q1:=hat.c1
  have q7:=hat.c7
  simp only [Nd.ks,List.getElem_cons_zero,Nd.h,hh.1,Nat.zero_mul,Nat.add_zero] at q1 q7
  refine⟨B,o,c,?_,q1,q7,hb⟩
  simp only [Nd.vals,Nd.h,Nd.a,Nd.c,Nd.ks,hdA,h1,List.length_cons,List.length_nil]
  rfl
theorem ErrAt.er_tok {w:World}{s call:ByteArray}{no p:Int}{F:Nat}(h:ErrAt w s call (.tok no p) F):Er w (.iface 74 (zP F)) no p:=.inr (.inl ⟨F,call,rfl,h⟩)
theorem ErrAt.er_lex {w:World}{s call:ByteArray}{F:Nat}(h:ErrAt w s call .lex F) (hE:tksE s≠0):Er w (.iface 74 (zP F)) (tksE s) (tksB s):=by
 obtain⟨fa,fe,h1,h2⟩:=h
 obtain⟨e1,F',e2,h3⟩:=h2.2 hE
 subst e1 e2
 exact .inr (.inr (.inl ⟨F,call,F',_,_,rfl,h1,h3⟩))
theorem exprB (w:World) (ht:Tab w):Calls zG 16 #[.string ⟨#[40,49,32,43,32,38]⟩] w fun e w'=>∃ F,e=.returned (.tuple #[.agg zA7,.iface 74 (zP F)])∧Er w' (.iface 74 (zP F)) 111 5∧Below w§ w w':=by
 have c:=exprS_any exB (by decide) w ht
 rw [exB_whole] at c
 refine c.mono ?_
 rintro e w' ⟨⟨F,rfl,hE,_⟩,hb⟩
 have:=hE.er_lex (by rw [exB_tks.1]; decide)
 rw [exB_tks.1,exB_tks.2.1] at this
 exact⟨F,rfl,this,hb⟩
theorem stratC (w:World) (ht:Tab w):Calls zG 10 #[.string Z08] w fun e w'=>∃ g cap,e=.returned (.tuple #[.agg #[.string ZX,.slice none 0 0,.slice none 0 0,.slice (some ⟨g,0,none⟩) 1 cap],.nilIface])∧w'.cell? ⟨g,2,none⟩=some (zI 11)∧Below w§ w w':=by
 refine (stratS_ok exC (by decide) w ht ZX ⟨#[97]⟩ 11 [⟨0,⟨#[]⟩,0,0,21⟩] zK (fun V b G fa fe a c h=>?_)).mono ?_
 ·rw [exC_tks.2] at h
  exact strat_one h rfl rfl rfl rfl rfl rfl rfl rfl
 ·rintro e w' ⟨g,cap,rfl,hr,_,hb⟩
  exact⟨g,cap,rfl,hr.cell (j:=2) (by decide),hb⟩
theorem stratD (w:World) (ht:Tab w):Calls zG 10 #[.string Z09] w fun e w'=>∃ F,e=.returned (.tuple #[.agg zA9,.iface 74 (zP F)])∧Er w' (.iface 74 (zP F)) 130 11∧Below w§ w w':=by
 refine (stratS_err exD (by decide) w ht (.tok 130 11) (fun V b G fa fe a c h=>?_)).mono ?_
 ·rw [exD_tks.2] at h
  exact strat_none h rfl rfl rfl (by decide) (by decide) (by decide)
 ·rintro e w' ⟨⟨F,rfl,hE,_⟩,hb⟩
  exact⟨F,rfl,hE.er_tok,hb⟩
theorem keep {w w':World}{a:Addr}{v:Value}(h:w.cell? a=some v) (hb:Below w§ w w'):w'.cell? a=some v:=by
 rw [hb.cell (World.block_lt_of_cell? w a h)]; exact h
structure AW (w:World) (B o c N:Nat):Prop where
 n7:w.cell? ⟨N,7,none⟩=some (zI 6)
 n6:w.cell? ⟨N,6,none⟩=some (.slice (some ⟨B,o,none⟩) 2 c)
 k1:w.cell? ⟨B,o+1,none⟩=some (zU 7)
 k7:w.cell? ⟨B,o+7,none⟩=some (zI 2)
theorem AW.on {w w':World}{B o c N:Nat}(h:AW w B o c N) (hb:Below w§ w w'):AW w' B o c N:=⟨keep h.n7 hb,keep h.n6 hb,keep h.k1 hb,keep h.k7 hb⟩
structure AS (w:World) (g cap M:Nat):Prop where
 s0:w.cell? ⟨M,0,none⟩=some (.string ZX)
 s3:w.cell? ⟨M,3,none⟩=some (.slice (some ⟨g,0,none⟩) 1 cap)
 g2:w.cell? ⟨g,2,none⟩=some (zI 11)
theorem AS.on {w w':World}{g cap M:Nat}(h:AS w g cap M) (hb:Below w§ w w'):AS w' g cap M:=⟨keep h.s0 hb,keep h.s3 hb,keep h.g2 hb⟩
theorem awake_any (w:World) (ht:Tab w) (hg:Ety w):Calls zG 9 #[] w fun e w'=>e=.returned (.bool true)∧Below w§ w w':=by
 have c1:=exprA w ht
 have HT:Hid (Tab w∧Ety w):=⟨ht,hg⟩
 clear ht hg
 go_enter Tryz.func9,Tryz.ntmps9
 go_wp2_with fail
 refine c1.mono ?_
 rintro e w1 ⟨B,o,c,rfl,hk1,hk7,hb1⟩
 have hbn:=Bn w1 (.cells #[zU 6,zU 7,zU 0,zI 0,zU 0,.string ⟨#[]⟩,.slice (some ⟨B,o,none⟩) 2 c,zI 6] 64)
 have hn:=Hn w1 (.cells #[zU 6,zU 7,zU 0,zI 0,zU 0,.string ⟨#[]⟩,.slice (some ⟨B,o,none⟩) 2 c,zI 6] 64)
 obtain⟨V1,eV1⟩:∃ V,w1.alloc (.cells #[zU 6,zU 7,zU 0,zI 0,zU 0,.string ⟨#[]⟩,.slice (some ⟨B,o,none⟩) 2 c,zI 6] 64)=V:=⟨_,rfl⟩
 rw [eV1] at hbn hn
 have HA1:Hid (AW V1 B o c w1§):=⟨Co hn 7,Co hn 6,keep hk1 hbn,keep hk7 hbn⟩
 have HB1:=zH (B2 hb1 hbn)
 have HE1:Hid (_=V1):=eV1
 have c2:=wrong_nil V1
 have c3:=exprB V1 (HT.out.1.on HB1.out)
 clear c1 hk1 hk7 hb1 hbn hn eV1
 go_wp2_with fail
 rw [HE1.out]
 refine c2.mono ?_
 rintro e w2 ⟨rfl,e2⟩
 obtain rfl:=e2.symm
 clear c2
 go_wp2_with fail
 refine c3.mono ?_
 rintro e w3 ⟨F,rfl,hE3,hb3⟩
 have hbn:=Bn w3 (.cells zA7 64)
 obtain⟨V3,eV3⟩:∃ V,w3.alloc (.cells zA7 64)=V:=⟨_,rfl⟩
 rw [eV3] at hbn
 have HB3:=zH (B2 (B2 HB1.out hb3) hbn)
 have HA3:=zH ((HA1.out.on hb3).on hbn)
 have HE3:Hid (_=V3):=eV3
 have c4:=wrong_any (hE3.on hbn) (HT.out.2.on HB3.out)
 clear c3 hE3 hb3 hbn eV3 HE1 HA1 HB1
 go_wp2_with fail
 rw [HE3.out]
 refine c4.mono ?_
 rintro e w4 ⟨rfl,hb4⟩
 have HB4:=zH (B2 HB3.out hb4)
 have HA4:=zH (HA3.out.on hb4)
 have c5:=stratC w4 (HT.out.1.on HB4.out)
 clear c4 hb4 HE3 HA3 HB3
 go_wp2_with fail
 refine c5.mono ?_
 rintro e w5 ⟨g,cap,rfl,hg2,hb5⟩
 have hbn:=Bn w5 (.cells #[.string ZX,.slice none 0 0,.slice none 0 0,.slice (some ⟨g,0,none⟩) 1 cap] 43)
 have hn:=Hn w5 (.cells #[.string ZX,.slice none 0 0,.slice none 0 0,.slice (some ⟨g,0,none⟩) 1 cap] 43)
 obtain⟨V5,eV5⟩:∃ V,w5.alloc (.cells #[.string ZX,.slice none 0 0,.slice none 0 0,.slice (some ⟨g,0,none⟩) 1 cap] 43)=V:=⟨_,rfl⟩
 rw [eV5] at hbn hn
 have HB5:=zH (B2 (B2 HB4.out hb5) hbn)
 have HA5:=zH ((HA4.out.on hb5).on hbn)
 have HS5:Hid (AS V5 g cap w5§):=⟨Co hn 0,Co hn 3,keep hg2 hbn⟩
 have HE5:Hid (_=V5):=eV5
 have c6:=stratD V5 (HT.out.1.on HB5.out)
 clear c5 hg2 hb5 hbn hn eV5 HA4 HB4
 go_wp2_with fail
 rw [HE5.out]
 refine c6.mono ?_
 rintro e w6 ⟨F2,rfl,hE6,hb6⟩
 have hbn:=Bn w6 (.cells zA9 43)
 obtain⟨V6,eV6⟩:∃ V,w6.alloc (.cells zA9 43)=V:=⟨_,rfl⟩
 rw [eV6] at hbn
 have HB6:=zH (B2 (B2 HB5.out hb6) hbn)
 have HA6:=zH ((HA5.out.on hb6).on hbn)
 have HS6:=zH ((HS5.out.on hb6).on hbn)
 have HE6:Hid (_=V6):=eV6
 have c7:=wrong_any (hE6.on hbn) (HT.out.2.on HB6.out)
 clear c6 hE6 hb6 hbn eV6 HE5 HA5 HB5 HS5
 go_wp2_with fail
 rw [HE6.out]
 refine c7.mono ?_
 rintro e w7 ⟨rfl,hb7⟩
 have HB7:=zH (B2 HB6.out hb7)
 obtain⟨n7,n6,k1,k7⟩:=HA6.out.on hb7
 obtain⟨s0,s3,g2⟩:=HS6.out.on hb7
 clear c7 hb7 HE6 HA6 HS6 HB6
 go_wp2_with fail
 go_ret
 exact⟨rfl,HB7.out⟩
theorem eqnn (w : World) : (binOp .eql 45 .nilIface .nilIface).run Tryz.prog w = .ok (.bool true) w := by kernel_rfl
theorem ErrAt.is {w : World} {s call : ByteArray} {f : Ft} {F : Nat} (h : ErrAt w s call f F) (h0 : f = .lex → tksE s ≠ 0) :
    Calls zG 21 #[.iface 74 (.pointer (some ⟨F, 0, none⟩)), .iface 48 (zI (ftT s f).1)] w fun e w' => e = .returned (.bool true) ∧ w' = w := by
  cases f with
  | tok no p => exact Is_of F no w (isE2 F call p no w h)
  | lex =>
    obtain ⟨fa, fe, h1, h2⟩ := h
    obtain ⟨_, F', e1, h3⟩ := h2.2 (h0 rfl)
    subst e1
    exact Is_of F (tksE s) w (isE3 F F' call _ fa _ (tksE s) w h1 h3)
theorem ErrAt.on {w w' : World} {s call : ByteArray} {f : Ft} {F : Nat} (h : ErrAt w s call f F) (k : Below w§ w w') : ErrAt w' s call f F := by
  have kp : ∀ {j : Nat} {o : Obj}, w.heap[j]? = some o → w'.heap[j]? = some o := fun h => (k.block _ (Array.getElem?_eq_some_iff.1 h).1).trans h
  cases f with
  | tok no p => exact kp h
  | lex =>
    obtain ⟨fa, fe, h1, h2⟩ := h
    refine ⟨fa, fe, kp h1, h2.1, fun e => ⟨(h2.2 e).1, ?_⟩⟩
    obtain ⟨F', e1, e2⟩ := (h2.2 e).2
    exact ⟨F', e1, kp e2⟩
set_option maxRecDepth 100000 in
set_option maxHeartbeats 4000000 in
theorem wraps_any (s : ByteArray) (w : World) (ht : Tab w) (hg : Ety w) : Calls zG 6 #[.string s] w fun e w' => e = .returned (.bool true) ∧ Below w§ w w' := by
  have c1 := awake_any w ht hg
  have HT : Hid (Tab w) := ht
  clear ht hg
  by_cases hs : (s.size : Int) > 1048576
  · have hd : decide (1048576 < (s.size : Int)) = true := decide_eq_true hs
    go_enter Tryz.func6, Tryz.ntmps6
    go_wp2_with fail
    refine c1.mono ?_
    rintro e w1 ⟨rfl, hb1⟩
    have HB1 : Hid (Below w§ w w1) := hb1
    clear c1 hb1
    go_wp2_with fail
    go_ret
    exact ⟨rfl, HB1.out⟩
  have hd : decide (1048576 < (s.size : Int)) = false := decide_eq_false hs
  have HSZ : Hid (s.size ≤ 4194304) := by show _ ≤ _; omega
  obtain ⟨r0, er0⟩ : ∃ r, sWhole s = r := ⟨_, rfl⟩
  have HR0 : Hid (sWhole s = r0) := er0
  clear hs er0
  cases r0 with
  | error f =>
    go_enter Tryz.func6, Tryz.ntmps6
    go_wp2_with fail
    refine c1.mono ?_
    rintro e w1 ⟨rfl, hb1⟩
    have HB1 : Hid (Below w§ w w1) := hb1
    have c2 := stratS_any s HSZ.out w1 (HT.out.on hb1)
    rw [HR0.out] at c2
    clear c1 hb1
    go_wp2_with fail
    refine c2.mono ?_
    rintro e w2 ⟨⟨F, rfl, hE, hF⟩, hb2⟩
    have HB2 : Hid (Below w§ w (w2.alloc (.cells #[.string ⟨#[]⟩, .slice none 0 0, .slice none 0 0, .slice none 0 0] 43))) := B2 (B2 HB1.out hb2) (Bn _ _)
    have HE2 : Hid (ErrAt (w2.alloc (.cells #[.string ⟨#[]⟩, .slice none 0 0, .slice none 0 0, .slice none 0 0] 43)) s ⟨#[83, 116, 114, 97, 116, 101, 103, 121]⟩ f F) := hE.on (Bn _ _)
    obtain ⟨W2, eW2⟩ : ∃ W, w2.alloc (.cells #[.string ⟨#[]⟩, .slice none 0 0, .slice none 0 0, .slice none 0 0] 43) = W := ⟨_, rfl⟩
    have HEW : Hid (w2.alloc (.cells #[.string ⟨#[]⟩, .slice none 0 0, .slice none 0 0, .slice none 0 0] 43) = W2) := eW2
    rw [eW2] at HB2 HE2
    have c3 := stratX s W2
    clear c2 hE hF hb2 eW2 HB1
    go_wp2_with fail
    try rw [HEW.out]
    clear HEW
    refine c3.mono ?_
    rintro e w4 ⟨ho, hb4⟩
    rw [HR0.out] at ho
    obtain ⟨hne, rfl⟩ := ho
    obtain ⟨E, eE⟩ : ∃ q, (ftT s f).1 = q := ⟨_, rfl⟩
    have HEE : Hid ((ftT s f).1 = E) := eE
    obtain ⟨P, eP⟩ : ∃ q, (ftT s f).2.1 = q := ⟨_, rfl⟩
    obtain ⟨T, eT⟩ : ∃ q, (ftT s f).2.2 = q := ⟨_, rfl⟩
    rw [eE] at hne
    rw [eE, eP, eT]
    simp only [nul4]
    have b5 := B2 (B2 hb4 (Bn w4 (.cells #[.string ⟨#[]⟩, .slice none 0 0, .slice none 0 0, .slice none 0 0] 43))) (Bn (w4.alloc (.cells #[.string ⟨#[]⟩, .slice none 0 0, .slice none 0 0, .slice none 0 0] 43)) (.cells #[zI E, zI P, .bool T] 50))
    have HB5 : Hid (Below w§ w ((w4.alloc (.cells #[.string ⟨#[]⟩, .slice none 0 0, .slice none 0 0, .slice none 0 0] 43)).alloc (.cells #[zI E, zI P, .bool T] 50))) := B2 HB2.out b5
    have HE5 : Hid (ErrAt ((w4.alloc (.cells #[.string ⟨#[]⟩, .slice none 0 0, .slice none 0 0, .slice none 0 0] 43)).alloc (.cells #[zI E, zI P, .bool T] 50)) s ⟨#[83, 116, 114, 97, 116, 101, 103, 121]⟩ f F) := HE2.out.on b5
    have cI := HE5.out.is (fun e => by subst e; exact fun h => strat_lex h HR0.out)
    rw [eE] at cI
    have hne2 : (E == 0) = false := by simpa using hne
    clear c3 hb4 eE eP eT b5
    go_wp2_with fail
    refine cI.mono ?_
    rintro e w6 ⟨rfl, e6⟩
    obtain rfl := e6.symm
    clear cI e6
    go_wp2_with fail
    go_ret
    exact ⟨rfl, HB5.out⟩
  | ok r =>
    go_enter Tryz.func6, Tryz.ntmps6
    go_wp2_with fail
    refine c1.mono ?_
    rintro e w1 ⟨rfl, hb1⟩
    have HB1 : Hid (Below w§ w w1) := hb1
    have c2 := stratS_any s HSZ.out w1 (HT.out.on hb1)
    rw [HR0.out] at c2
    clear c1 hb1
    go_wp2_with fail
    refine c2.mono ?_
    rintro e w2 ⟨⟨cs, rfl, hc1, hc2⟩, hb2⟩
    have HCS : Hid (cs.size = 4 ∧ cs.all (·.oneCell') = true) := ⟨hc1, hc2⟩
    have hn2 := Bn w2 (.cells #[.string ⟨#[]⟩, .slice none 0 0, .slice none 0 0, .slice none 0 0] 43)
    have HZ : Hid ((w2.alloc (.cells #[.string ⟨#[]⟩, .slice none 0 0, .slice none 0 0, .slice none 0 0] 43)).heap[w2§]? = some (.cells #[.string ⟨#[]⟩, .slice none 0 0, .slice none 0 0, .slice none 0 0] 43 (0, 0))) := Hn _ _
    have HB2 : Hid (Below w§ w ((w2.alloc (.cells #[.string ⟨#[]⟩, .slice none 0 0, .slice none 0 0, .slice none 0 0] 43)).setRow w2§ cs)) := below_row (B2 (B2 HB1.out hb2) hn2) (by have h1 := HB1.out.size; have h2 := hb2.size; omega) cs
    clear c2 hc1 hc2 hb2 hn2 HB1
    go_upto_region 5 with (refine wpList_store_row rfl 43 (.tmp 4) (.tmp 21) rfl w2§ cs rfl rfl 43 #[.string ⟨#[]⟩, .slice none 0 0, .slice none 0 0, .slice none 0 0] HZ.out (by rw [HCS.out.1]; exact size43) (by rw [HCS.out.1]; rfl) HCS.out.2 ?_)
    generalize hW3 : World.setRow _ _ _ = w3
    have HB3 : Hid (Below w§ w w3) := by rw [← hW3]; exact HB2.out
    clear hW3 HB2 HZ
    have c3 := stratX s w3
    go_wp2_with fail
    refine c3.mono ?_
    rintro e w4 ⟨ho, hb4⟩
    rw [HR0.out] at ho
    obtain ⟨ds, hd1, hd2, rfl⟩ := ho
    have HDS : Hid (ds.size = 4 ∧ ds.all (·.oneCell') = true) := ⟨hd1, hd2⟩
    have n1 := Hn w4 (.cells #[.string ⟨#[]⟩, .slice none 0 0, .slice none 0 0, .slice none 0 0] 43)
    have s1 := Sa w4 (.cells #[.string ⟨#[]⟩, .slice none 0 0, .slice none 0 0, .slice none 0 0] 43)
    have b2 := Bn (w4.alloc (.cells #[.string ⟨#[]⟩, .slice none 0 0, .slice none 0 0, .slice none 0 0] 43)) (.cells #[zI 0, zI 0, .bool false] 50)
    have n2 := Hn (w4.alloc (.cells #[.string ⟨#[]⟩, .slice none 0 0, .slice none 0 0, .slice none 0 0] 43)) (.cells #[zI 0, zI 0, .bool false] 50)
    rw [s1] at n2
    have HZ1 : Hid (((w4.alloc (.cells #[.string ⟨#[]⟩, .slice none 0 0, .slice none 0 0, .slice none 0 0] 43)).alloc (.cells #[zI 0, zI 0, .bool false] 50)).heap[w4§]? = some (.cells #[.string ⟨#[]⟩, .slice none 0 0, .slice none 0 0, .slice none 0 0] 43 (0, 0))) := (b2.block _ (by omega)).trans n1
    have HZ2 : Hid ((((w4.alloc (.cells #[.string ⟨#[]⟩, .slice none 0 0, .slice none 0 0, .slice none 0 0] 43)).alloc (.cells #[zI 0, zI 0, .bool false] 50)).setRow w4§ ds).heap[w4§ + 1]? = some (.cells #[zI 0, zI 0, .bool false] 50 (0, 0))) := (setRow_oth _ _ _ (by omega)).trans n2
    have hsz : w§ ≤ w4§ := by have h1 := HB3.out.size; have h2 := hb4.size; omega
    have HB5 : Hid (Below w§ w ((((w4.alloc (.cells #[.string ⟨#[]⟩, .slice none 0 0, .slice none 0 0, .slice none 0 0] 43)).alloc (.cells #[zI 0, zI 0, .bool false] 50)).setRow w4§ ds).setRow (w4§ + 1) #[zI 0, zI 0, .bool false])) := below_row (below_row (B2 (B2 (B2 HB3.out hb4) (Bn _ _)) b2) hsz ds) (by omega) _
    have HN5 : Hid (((((w4.alloc (.cells #[.string ⟨#[]⟩, .slice none 0 0, .slice none 0 0, .slice none 0 0] 43)).alloc (.cells #[zI 0, zI 0, .bool false] 50)).setRow w4§ ds).setRow (w4§ + 1) #[zI 0, zI 0, .bool false]).heap[w4§ + 1]? = some (.cells #[zI 0, zI 0, .bool false] 50 (0, 0))) := setRow_heap _ _ _ _ _ _ HZ2.out
    clear c3 hb4 HB3 hd1 hd2 n1 s1 b2 n2 hsz
    go_upto_region 6 with (first | (refine wpList_store_row rfl 43 (.tmp 6) (.tmp 26) rfl w4§ ds rfl rfl 43 #[.string ⟨#[]⟩, .slice none 0 0, .slice none 0 0, .slice none 0 0] HZ1.out (by rw [HDS.out.1]; exact size43) (by rw [HDS.out.1]; rfl) HDS.out.2 ?_) | (refine wpList_store_row rfl 50 (.tmp 7) (.tmp 27) rfl (w4§ + 1) #[zI 0, zI 0, .bool false] rfl rfl 50 _ HZ2.out size50 rfl (by simp [Value.oneCell']) ?_))
    obtain ⟨X, eX⟩ : ∃ X, ((((w4.alloc (.cells #[.string ⟨#[]⟩, .slice none 0 0, .slice none 0 0, .slice none 0 0] 43)).alloc (.cells #[zI 0, zI 0, .bool false] 50)).setRow w4§ ds).setRow (w4§ + 1) #[zI 0, zI 0, .bool false]) = X := ⟨_, rfl⟩
    rw [eX] at HB5 HN5 ⊢
    clear eX HZ1 HZ2
    have k0 : X.cell? ⟨w4§ + 1, 0, none⟩ = some (zI 0) := Co HN5.out 0
    have cI := Is_nil 0 X
    have qn := eqnn
    go_wp2_with fail
    refine cI.mono ?_
    rintro e w6 ⟨rfl, e6⟩
    obtain rfl := e6.symm
    clear cI e6
    go_wp2_with fail
    go_ret
    exact ⟨rfl, HB5.out⟩
end Go.Proofs.YtkfabnchhjfjjaaGreatDoor
