import Derived.Test.YtfbjofnaghjmeaaGreatDoorA10
import Derived.Test.YtfbjofnaghjmeaaGreatDoorA12
import Derived.Deep.MidRow
import Derived.BigRegion
namespace Go.Proofs.YtfbjofnaghjmeaaGreatDoor
open Go.Proofs.Tryz
set_option maxHeartbeats 4000000
set_option maxRecDepth 100000
open Go.RowKit
theorem QaV (v:Value) (w:yW):(Instr.typeAssert (.iface 41 v) 20 41 true).run zG w=.ok (.tuple #[v,.bool true]) w:=by
 simp [Instr.typeAssert,run_underlying underlying41,go_sem,Result.andThen]
theorem QaU (w:yW):(Instr.typeAssert .nilIface 20 41 true).run zG w=.ok (.tuple #[zI 0,.bool false]) w:=by
 simp [Instr.typeAssert,run_underlying underlying41,go_sem,Result.andThen]
theorem QgM (p:Addr) (y no:Int) (older:List PanicEntry) (w:yW) (hc:w.cell? p=some (zI y)) (hz:w.frozen? p=false) :
  CallsD zG 156 #[.pointer (some p)] (.panicking ({ v:=.iface 41 (zI no),recovered:=false } :: older)) w fun e u' w' =>
   e=.returned (.tuple #[])∧u'=.panicking ({ v:=.iface 41 (zI no),recovered:=true } :: older)∧w'=w.setCell p (zI no):=by
 refine callsD_of_wpS func156 rfl fun c₀ cs hu=>?_
 apply wpS_region
 simp [wpOpsS,go_sem,recoverD,hu,ntmps156,hc,hz,QaV,Result.andThen,bodyPostS,results,results156]
theorem QgN (p:Addr) (y:Int) (w:yW) (hc:w.cell? p=some (zI y)) (hz:w.frozen? p=false) :
  CallsD zG 156 #[.pointer (some p)] .returning w fun e u' w'=>e=.returned (.tuple #[])∧u'=.returning∧w'=w.setCell p (zI 0):=by
 refine callsD_of_wpS func156 rfl fun c₀ cs hu=>?_
 apply wpS_region
 simp [wpOpsS,go_sem,recoverD,hu,ntmps156,hc,hz,QaU,Result.andThen]
 cases c₀
 simp_all [bodyPostS,results,results156]
theorem V1 (F:Nat) (hE:∀ args v,Sem.run zG (callFunc F args) v=.ok (.enter F args) v) (cap:Array Value) (E:Int) (w:yW)
  (cF:∀ v,yD w v→Calls zG F cap v fun e w'=>((E=0∧e=.returned (.tuple #[]))∨(¬ E=0∧e=.panicked [{ v:=.iface 41 (zI E),recovered:=false }]))∧yD v w') :
  Calls zG 98 #[.func (.func F) #[] cap] w fun e w'=>e=.returned (zI E)∧yD w w':=by
 have hmf:∀ (fn:Fn) (first cap:Array Value) (w:yW),(Instr.makeFunc fn first cap).run zG w=.ok (.func fn first cap) w:=fun _ _ _ _=>rfl
 by_cases h:E=0
 ·subst h
  have cG:∀ v,yD w v→Calls zG F cap v fun e w'=>e=.returned (.tuple #[])∧yD v w':=fun v hv=>(cF v hv).mono (by
   rintro e w' ⟨h1 | h1,h2⟩
   ·exact⟨h1.2,h2⟩
   ·exact absurd rfl h1.1)
  clear cF
  go_enter_defers func98,ntmps98
  go_wp2_with fail
  refine (cG _ (Qb _ _)).mono ?_
  rintro e w1 ⟨rfl,hb1⟩
  have hbk:=(hb1.block w§ (by simp)).trans (Qc w _)
  have c0:zQ w1 w§¢0 (zI 0):=Qa hbk 0
  have f0:=Qf hbk 0
  have HB1:Hid (yD w w1):=(Qb _ _).trans (hb1.mono (by simp))
  have HK:=zH hbk
  clear hbk hb1
  go_wp2_with fail
  refine leaves_cons (f:=156) (args:=#[zP w§]) (by simp) (by simp [go_sem]) ?_
  refine (QgN w§¢0 0 _ (Qa (Qp _ HK.out) 0) (Qf (Qp _ HK.out) 0)).mono ?_
  rintro e u' w'' ⟨rfl,rfl,rfl⟩
  have h9:=Qp (j:=0) (zI 0) (Qp (j:=0) (zI 0) HK.out)
  have c9:((w1.setCell w§¢0 (zI 0)).setCell w§¢0 (zI 0)).cell? w§¢0=some (zI 0):=Qa h9 0
  have b9:yD w ((w1.setCell w§¢0 (zI 0)).setCell w§¢0 (zI 0)):=(HB1.out.setCell (p:=w§¢0) (Nat.le_refl _) _).setCell (p:=w§¢0) (Nat.le_refl _) _
  simp [Leaves,settle,results,results98,go_sem,c9,b9]
 ·have cG:∀ v,yD w v→Calls zG F cap v fun e w'=>e=.panicked [{ v:=.iface 41 (zI E),recovered:=false }]∧yD v w':=fun v hv=>(cF v hv).mono (by
   rintro e w' ⟨h1 | h1,h2⟩
   ·exact absurd h1.1 h
   ·exact⟨h1.2,h2⟩)
  clear cF
  go_enter_defers func98,ntmps98
  go_wp2_with fail
  refine (cG _ (Qb _ _)).mono ?_
  rintro e w1 ⟨rfl,hb1⟩
  have hbk:=(hb1.block w§ (by simp)).trans (Qc w _)
  have c0:zQ w1 w§¢0 (zI 0):=Qa hbk 0
  have f0:=Qf hbk 0
  have HB1:Hid (yD w w1):=(Qb _ _).trans (hb1.mono (by simp))
  have HK:=zH hbk
  clear hbk hb1
  go_wp2_with fail
  refine leaves_cons (f:=156) (args:=#[zP w§]) (by simp) (by simp [go_sem]) ?_
  refine (QgM w§¢0 0 E [] _ c0 f0).mono ?_
  rintro e u' w'' ⟨rfl,rfl,rfl⟩
  have h9:=Qp (j:=0) (zI E) HK.out
  have c9:(w1.setCell w§¢0 (zI E)).cell? w§¢0=some (zI E):=Qa h9 0
  have b9:yD w (w1.setCell w§¢0 (zI E)):=HB1.out.setCell (p:=w§¢0) (Nat.le_refl _) _
  simp [Leaves,settle,results,results98,go_sem,c9,b9]
theorem Qgy (args:Array Value) (v:yW):Sem.run zG (callFunc 99 args) v=.ok (.enter 99 args) v:=by kernel_rfl
def QI (F:Nat) (args:Array Value) (w:yW) (E:Int):Prop:=Calls zG F args w fun e w'=>((E=0∧e=.returned (.tuple #[]))∨(¬ E=0∧e=.panicked [{ v:=.iface 41 (zI E),recovered:=false }]))∧yD w w'
def fE (m:Nd):Int:=if Qw m=true then 0 else 120
theorem Vl {m:Nd}{w:yW}(hl:Lies w m) (ht:Tab w):QI 157 #[.agg m.vals] w (fE m):=by
 refine (QeP m w hl ht).mono ?_
 rintro e w' ⟨rfl,hb⟩
 unfold fE endE
 cases Qw m with
 | true=>exact⟨.inl ⟨rfl,rfl⟩,hb⟩
 | false=>exact⟨.inr ⟨by decide,rfl⟩,hb⟩
theorem QI.zero {F:Nat}{args:Array Value}{w:yW}(c:QI F args w 0):Calls zG F args w fun e w'=>e=.returned (.tuple #[])∧yD w w':=c.mono (by
 rintro e w' ⟨h1 | h1,h2⟩
 ·exact⟨h1.2,h2⟩
 ·exact absurd rfl h1.1)
theorem QI.some {F:Nat}{args:Array Value}{w:yW}{E:Int}(h:¬ E=0) (c:QI F args w E):Calls zG F args w fun e w'=>e=.panicked [{ v:=.iface 41 (zI E),recovered:=false }]∧yD w w':=c.mono (by
 rintro e w' ⟨h1 | h1,h2⟩
 ·exact absurd h1.1 h
 ·exact⟨h1.2,h2⟩)
def cE (m:Nd):Int:=if Qw m=true then (if dep m≤24 then 0 else 122) else 120
theorem hbox (w:yW) (m:Nd):NdH (zA w m.vals 38) w§ m:=Qc w _
theorem KU (m:Nd) (w:yW) (hl:Lies w m) (hz:size m≤1000000000000) (ht:Tab w):QI 100 #[.agg m.vals] w (cE m):=by
 have hN:=hbox w m
 have hb0:=Qb w (.cells m.vals 38)
 have c1:=Vl (hl.on hb0) (ht.on hb0)
 have c2:=fun v (hv:yD w v)=>QcE m v (hl.on hv) hz
 unfold QI cE
 unfold fE at c1
 have HN:=hN.hid
 clear hl hz ht hN hb0
 obtain⟨B,eB⟩:∃ B,Qw m=B:=jV
 rw [eB] at c1 ⊢
 obtain⟨d,ed⟩:∃ d,dep m=d:=jV
 simp only [ed] at c2 ⊢
 clear ed eB
 unfold Nd.vals hdA at c1 c2 HN ⊢
 cases B with
 | false =>
  rw [if_neg (by decide)] at c1 ⊢
  have c3:=QI.some (by decide) c1
  clear c1
  go_enter func100,ntmps100
  go_wp2_with fail
  refine c3.mono ?_
  rintro e w1 ⟨rfl,hb⟩
  exact⟨rfl,.inr ⟨by decide,rfl⟩,(Qb _ _).trans (hb.mono (by simp))⟩
 | true =>
  rw [if_pos rfl] at c1
  have c3:=QI.zero c1
  clear c1
  by_cases h:d≤24
  ·have h':(d:Int)≤24:=by omega
   rw [if_pos rfl,if_pos h]
   go_enter func100,ntmps100
   go_wp2_with fail
   refine c3.mono ?_
   rintro e w1 ⟨rfl,hb⟩
   obtain⟨q0,q1,q2,q3,q4,q5,q6,q7⟩:=box8 hb
   have HB1:Hid (yD w w1):=(Qb _ _).trans (hb.mono (by simp))
   clear hb c3
   go_wp2_with (go_at_call 159;refine (c2 _ HB1.out).mono ?_;rintro e w2 ⟨rfl,hb2⟩)
   refine (Hx 122 _).mono ?_
   rintro e w3 ⟨rfl,e4⟩
   obtain rfl:=e4.symm
   go_wp2_with fail
   go_end0
   first | exact⟨.inl ⟨rfl,rfl⟩,HB1.out.trans (hb2.mono HB1.out.size)⟩ | exact⟨.inl ⟨trivial,rfl⟩,HB1.out.trans (hb2.mono HB1.out.size)⟩
  ·have h':¬ (d:Int)≤24:=by omega
   rw [if_pos rfl,if_neg h]
   go_enter func100,ntmps100
   go_wp2_with fail
   refine c3.mono ?_
   rintro e w1 ⟨rfl,hb⟩
   obtain⟨q0,q1,q2,q3,q4,q5,q6,q7⟩:=box8 hb
   have HB1:Hid (yD w w1):=(Qb _ _).trans (hb.mono (by simp))
   clear hb c3
   go_wp2_with (go_at_call 159;refine (c2 _ HB1.out).mono ?_;rintro e w2 ⟨rfl,hb2⟩)
   rw [show decide ((d:Int)≤24)=false from decide_eq_false zY]
   refine (Vf 122 _).mono ?_
   rintro e w3 ⟨rfl,e4⟩
   obtain rfl:=e4.symm
   exact⟨rfl,.inr ⟨by decide,rfl⟩,HB1.out.trans (hb2.mono HB1.out.size)⟩
theorem Qir (m:Nd) (b:Nat) (w:yW) (hn:NdH w b m) (hl:Lies w m) (hz:size m≤1000000000000) (ht:Tab w):QI 99 #[zP b] w (cE m):=by
 obtain⟨y0,y1,y2,y3,y4,y5,y6,y7⟩:=hn.eight
 have c:=KU m w hl hz ht
 obtain⟨E,eE⟩:∃ E,cE m=E:=jV
 rw [eE] at c ⊢
 unfold Nd.vals hdA at c
 clear eE hl ht hn hz
 by_cases h:E=0
 ·have c2:=(h ▸ c:QI 100 _ w 0).zero
  have HE:Hid (E=0):=h
  clear c h
  unfold QI
  go_enter func99,ntmps99
  go_wp2_with fail
  refine c2.mono ?_
  rintro e w1 ⟨rfl,hb⟩
  go_wp2_with fail
  go_end0
  exact⟨.inl ⟨HE.out,rfl⟩,hb⟩
 ·have c2:=c.some h
  have HE:Hid (¬ E=0):=h
  clear c h
  unfold QI
  go_enter func99,ntmps99
  go_wp2_with fail
  refine c2.mono ?_
  rintro e w1 ⟨rfl,hb⟩
  exact⟨rfl,.inr ⟨HE.out,rfl⟩,hb⟩
theorem VH (m:Nd) (w:yW) (hl:Lies w m) (hz:size m≤1000000000000) (ht:Tab w):Calls zG 60 #[.agg m.vals] w fun e w'=>e=.returned (zI (cE m))∧yD w w':=by
 have hmf:∀ (fn:Fn) (first cap:Array Value) (w:yW),(Instr.makeFunc fn first cap).run zG w=.ok (.func fn first cap) w:=fun _ _ _ _=>rfl
 have c:=V1 99 Qgy #[zP w§] (cE m) (zA w m.vals 38) (fun v hv=>Qir m w§ v ((hbox w m).on hv) ((hl.on (Qb w _)).on hv) hz ((ht.on (Qb w _)).on hv))
 clear hl hz ht
 unfold Nd.vals hdA at c ⊢
 go_enter func60,ntmps60
 go_wp2_with fail
 refine c.mono ?_
 rintro e w1 ⟨rfl,hb⟩
 go_wp2
 go_ret
 exact⟨rfl,(Qb _ _).trans (hb.mono (by simp))⟩
theorem Qfr {g h:Hd}(e:Jw g h=true):Kd h=Kd g:=by
 unfold Jw at e
 simp only [Bool.and_eq_true,decide_eq_true_eq] at e
 obtain⟨e0,e1,e2,e3,e4,e5⟩:=e
 unfold Kd
 rw [← e0,← e1,← e2,← e3,← e4,← e5]
theorem Qgz (args:Array Value) (v:yW):Sem.run zG (callFunc 247 args) v=.ok (.enter 247 args) v:=by kernel_rfl
theorem Qgx (js ks:List Nd) (a b:Option Addr) (c d:Nat) (hj:js.length≤c) (hjm:c≤jX)
  (ih:∀ j ∈ js,∀ (k:Nd) (w:yW),Lies w j→Lies w k→Calls zG 247 #[.agg j.vals,.agg k.vals] w fun e w'=>e=.returned (.bool (Kl j k))∧yD w w')
  (g h:Hd) (w:yW) (hl:Lies w (.mk g a c js)) (hk:Lies w (.mk h b d ks)) :
  Calls zG 250 #[.slice a js.length c,.slice b ks.length d,.func (.func 247) #[] #[]] w fun e w'=>e=.returned (.bool (decide (js.length=ks.length) && JF js ks))∧yD w w':=by
 by_cases hn:js.length=ks.length
 ·rw [decide_eq_true hn,Bool.true_and]
  have hn':((js.length:Int) != (ks.length:Int))=false:=by simp;omega
  have hn2:(js.length:Int)=(ks.length:Int):=by omega
  have HN:=zH hn
  have HL:=hl.hid
  have HK:=hk.hid
  have HI:=zH ih
  obtain⟨L,eL⟩:∃ L,ks.length=L:=jV
  rw [eL] at hn hn' hn2 HN ⊢
  have HEL:Hid (ks.length=L):=eL
  have e1:js.length=L:=hn
  rw [e1] at hn' hn2 hj ⊢
  have HJL:Hid (js.length=L):=e1
  clear hl hk ih hn eL e1 HN hn2
  have hn':((L:Int) != (L:Int))=false:=by simp
  go_enter func250,ntmps250
  go_wp2_with fail
  go_loopw [7,8,9,17] (fun _ _ _ t wr=>∃ i:Nat,i≤L∧t=zI i∧yD w wr∧Hid (JF js ks=JF (js.drop i) (ks.drop i))) (fun _ _ _ t _=>L - (intOf t).toNat)
  case atStart=>exact⟨0,by omega,rfl,Below.refl _ _,by show _=_;simp⟩
  case round =>
   obtain⟨i,hi,rfl,hbr,HR⟩:=hrel
   have HBR:=zH hbr
   clear hbr
   by_cases hlt:i < L
   ·have hlt':(i:Int) < (L:Int):=by omega
    have h1:i < js.length:=by rw [HJL.out];exact hlt
    have h2:i < ks.length:=by rw [HEL.out];exact hlt
    obtain⟨b1,o1,e1,hat1⟩:=(HL.out.on HBR.out).kid i h1
    obtain⟨b2,o2,e2,hat2⟩:=(HK.out.on HBR.out).kid i h2
    have e1':a=some b1¢o1:=e1
    have e2':b=some b2¢o2:=e2
    have cI:=HI.out js[i] (Ja h1) ks[i]
    have HLj:Hid (Lies w js[i]):=HL.out.sub js[i] (Ja h1)
    have HLk:Hid (Lies w ks[i]):=HK.out.sub ks[i] (Ja h2)
    have HD:Hid (JF js ks=(Kl js[i] ks[i] && JF (js.drop (i+1)) (ks.drop (i+1)))):=by show _=_;rw [HR.out,Kf h1,Kf h2];rfl
    have hj1:NdAt wr b1 (o1+i * 8) js[i]:=hat1
    have hk1:NdAt wr b2 (o2+i * 8) ks[i]:=hat2
    clear hat1 hat2
    obtain⟨j,ej⟩:∃ j,js[i]=j:=jV
    obtain⟨k,ek⟩:∃ k,ks[i]=k:=jV
    rw [ej] at hj1 HD HLj cI
    rw [ek] at hk1 HD HLk cI
    clear e1 e2
    subst e1' e2'
    obtain⟨y0,y1,y2,y3,y4,y5,y6,y7⟩:=hj1
    have hat2':NdAt (zA wr (zV j) 38) b2 (o2+i * 8) k:=hk1.on (Qb _ _)
    obtain⟨z0,z1,z2,z3,z4,z5,z6,z7⟩:=hat2'
    have hb2:=hk1.lt
    obtain⟨B,eB⟩:∃ B,Kl j k=B:=jV
    rw [eB] at HD cI
    have hmx:(i:Int)+1≤jX:=by omega
    have cI:∀ v,Lies v j→Lies v k→Calls zG 247 #[.agg (zV j),.agg (zV k)] v fun e w'=>e=.returned (.bool B)∧yD v w':=cI
    have hj21:=fun args v=>Qgz args v
    clear eB ej ek HR hk1 h1 h2
    cases B with
    | true =>
     go_wp2_with (with_reducible refine (cI _ (HLj.out.on (Qm HBR.out (Qk _ _ _))) (HLk.out.on (Qm HBR.out (Qk _ _ _)))).mono ?_;rintro e w5 ⟨rfl,hb5⟩)
     have HB5:Hid (yD w w5):=Qm (Qm HBR.out (Qk _ _ _)) hb5
     exact⟨⟨i+1,hlt,rfl,HB5.out,by show _=_;rw [HD.out];rfl⟩,by simp only [intOf];omega⟩
    | false =>
     go_wp2_with (with_reducible refine (cI _ (HLj.out.on (Qm HBR.out (Qk _ _ _))) (HLk.out.on (Qm HBR.out (Qk _ _ _)))).mono ?_;rintro e w5 ⟨rfl,hb5⟩)
     go_ret
     exact⟨by rw [HD.out];rfl,Qm (Qm HBR.out (Qk _ _ _)) hb5⟩
   ·obtain rfl:i=L:=by omega
    have hnot:¬ (i:Int) < (i:Int):=by omega
    have HE:Hid (JF js ks=true):=by show _=_;rw [HR.out,← HJL.out,List.drop_length];rfl
    clear HR
    go_wp2
    go_ret
    exact⟨by rw [HE.out];rfl,HBR.out⟩
 ·rw [decide_eq_false hn,Bool.false_and]
  have hn':((js.length:Int) != (ks.length:Int))=true:=by simp;omega
  clear hl hk ih
  go_enter func250,ntmps250
  go_wp2
  go_ret
  exact⟨rfl,Below.refl _ _⟩
theorem FE (w:yW) (m k:Nd):NdH ((zA w m.vals 38).alloc (.cells k.vals 38)) w§ m∧NdH ((zA w m.vals 38).alloc (.cells k.vals 38)) (w§+1) k:=by
 refine⟨Qz (Qc _ _) (by rw [Qe];omega),?_⟩
 unfold NdH
 rw [← Qe w (.cells m.vals 38)];exact Qc _ _
theorem Qdu:∀ (m k:Nd) (w:yW),Lies w m→Lies w k→Calls zG 247 #[.agg m.vals,.agg k.vals] w fun e w'=>e=.returned (.bool (Kl m k))∧yD w w':=by
 refine Nd.ind fun g a c js ih k w hl hk=>?_
 have cE:∀ v,yD w v→Calls zG 250 #[.slice a js.length c,.slice k.a k.ks.length k.c,.func (.func 247) #[] #[]] v fun e w'=>e=.returned (.bool (decide (js.length=k.ks.length) && JF js k.ks))∧yD v w':=fun v hv=>by
  obtain⟨h,b,d,ks⟩:=k
  exact Qgx js ks a b c d hl.cap hl.max (fun j hj k w h1 h2=>ih j hj k w h1 h2) g h v (hl.on hv) (hk.on hv)
 obtain⟨m,em⟩:∃ m,Nd.mk g a c js=m:=jV
 have HS:Hid (Kl m k=(Jw m.h k.h && (decide (m.ks.length=k.ks.length) && JF m.ks k.ks))):=by show _=_;rw [← em];rfl
 have cE:∀ v,yD w v→Calls zG 250 #[.slice m.a m.ks.length m.c,.slice k.a k.ks.length k.c,.func (.func 247) #[] #[]] v fun e w'=>e=.returned (.bool (decide (m.ks.length=k.ks.length) && JF m.ks k.ks))∧yD v w':=by rw [← em];exact cE
 rw [em]
 clear em ih hl hk
 have cS:∀ v,Calls zG 185 #[.agg (zV m)] v fun e w'=>e=.returned (.agg #[zU m.h.k,zU m.h.o,zU m.h.t,zI m.h.n,zU m.h.f,.string m.h.x])∧yD v w':=fun v=>XP m.h m.a m.ks.length m.c v
 have cT:∀ v,Calls zG 185 #[.agg (zV k)] v fun e w'=>e=.returned (.agg #[zU k.h.k,zU k.h.o,zU k.h.t,zI k.h.n,zU k.h.f,.string k.h.x])∧yD v w':=fun v=>XP k.h k.a k.ks.length k.c v
 obtain⟨B,eB⟩:∃ B,(decide (m.ks.length=k.ks.length) && JF m.ks k.ks)=B:=jV
 simp only [eB] at cE
 rw [eB] at HS
 obtain⟨A,eA⟩:∃ A,Jw m.h k.h=A:=jV
 have HA:Hid (Jw m.h k.h=A):=eA
 rw [eA] at HS
 clear eB eA
 obtain⟨X,eX⟩:∃ X,(zA w m.vals 38).alloc (.cells k.vals 38)=X:=jV
 have HKX:Hid (KK X w§ (w§+1) m k):=by rw [← eX];exact⟨(FE w m k).1,(FE w m k).2⟩
 have HBX:Hid (yD w X):=by rw [← eX];exact Qk _ _ _
 unfold Nd.vals hdA at eX
 show Calls zG 247 #[.agg (zV m),.agg (zV k)] w _
 go_enter func247,ntmps247
 go_wp2_with fail
 clear eX
 cases A with
 | true =>
  have hs:=Qfr HA.out
  unfold Kd at hs
  simp only [hs] at cT
  clear hs
  refine wp_region_held_drew (S:=(fun v=>zQ v w§¢0 (zU m.h.k)∧zQ v w§¢1 (zU m.h.o)∧zQ v w§¢2 (zU m.h.t)∧zQ v w§¢3 (zI m.h.n)∧zQ v w§¢4 (zU m.h.f)∧zQ v w§¢5 (.string m.h.x)∧zQ v w§¢6 (.slice m.a m.ks.length m.c)∧zQ v w§¢7 (zI m.h.p)∧zQ v ⟨(w§+1),0,none⟩ (zU k.h.k)∧zQ v ⟨(w§+1),1,none⟩ (zU k.h.o)∧zQ v ⟨(w§+1),2,none⟩ (zU k.h.t)∧zQ v ⟨(w§+1),3,none⟩ (zI k.h.n)∧zQ v ⟨(w§+1),4,none⟩ (zU k.h.f)∧zQ v ⟨(w§+1),5,none⟩ (.string k.h.x)∧zQ v ⟨(w§+1),6,none⟩ (.slice k.a k.ks.length k.c)∧zQ v ⟨(w§+1),7,none⟩ (zI k.h.p)∧GB X v)) zK (HKX.out.keep (by (repeat (first | with_reducible assumption | with_reducible exact GB.refl _ | with_reducible apply GB.drew | with_reducible apply GB.alloc | with_reducible refine GB.call (by with_reducible assumption) ?_)))) (fun hHeld=>?_)
  refine zTa 0
  rotate_left
  ·(intro w hSw;(try dsimp only at hSw);go_simp;try (with_reducible rfl))
  try simp [Act.put]
  refine zTa 2
  rotate_left
  ·(intro w hSw;(try dsimp only at hSw);go_simp;try (with_reducible rfl))
  try simp [Act.put]
  refine wpAnyH_ready (rs:=[1]) zK (by simp) ?_
  refine AllReadyH.cons rfl (fun K hK=>?_) AllReadyH.nil
  go_simp
  refine (cS _).mono ?_
  rintro e w2 ⟨rfl,hb2⟩
  have hg2:GB X w2:=GB.call hb2 (by (repeat (first | with_reducible assumption | with_reducible exact GB.refl _ | with_reducible apply GB.drew | with_reducible apply GB.alloc | with_reducible refine GB.call (by with_reducible assumption) ?_)))
  have HG2:Hid (GB X w2):=hg2
  go_simp
  refine hK.out _ _ ?_ (fun hHeld=>?_)
  ·exact HKX.out.keep hg2
  clear hK K
  try simp [Act.put]
  refine wpAnyH_ready (rs:=[3]) zK (by simp) ?_
  refine AllReadyH.cons rfl (fun K hK=>?_) AllReadyH.nil
  go_simp
  refine (cT _).mono ?_
  rintro e w3 ⟨rfl,hb3⟩
  have hg3:GB X w3:=GB.call hb3 HG2.out
  have HG3:Hid (GB X w3):=hg3
  go_simp
  refine hK.out _ _ ?_ (fun hHeld=>?_)
  ·exact HKX.out.keep hg3
  clear hK K
  try simp [Act.put]
  refine zTa 4
  rotate_left
  ·(intro w hSw;(try dsimp only at hSw);go_simp;try (with_reducible rfl))
  try simp [Act.put]
  refine zTa 5
  rotate_left
  ·(intro w hSw;(try dsimp only at hSw);go_simp;try (with_reducible rfl))
  try simp [Act.put]
  refine zTa 6
  rotate_left
  ·(intro w hSw;(try dsimp only at hSw);go_simp;try (with_reducible rfl))
  try simp [Act.put]
  refine zTa 7
  rotate_left
  ·(intro w hSw;(try dsimp only at hSw);go_simp;try (with_reducible rfl))
  try simp [Act.put]
  refine zTa 8
  rotate_left
  ·(intro w hSw;(try dsimp only at hSw);go_simp;try (with_reducible rfl))
  try simp [Act.put]
  refine zTa 9
  rotate_left
  ·(intro w hSw;(try dsimp only at hSw);go_simp;try (with_reducible rfl))
  try simp [Act.put]
  refine wpAnyH_ready (rs:=[10]) zK (by simp) ?_
  refine AllReadyH.cons rfl (fun K hK=>?_) AllReadyH.nil
  go_simp
  refine (cE _ (Qm HBX.out HG3.out)).mono ?_
  rintro e w4 ⟨rfl,hb4⟩
  have hg4:GB X w4:=GB.call hb4 HG3.out
  have HG4:Hid (GB X w4):=hg4
  go_simp
  refine hK.out _ _ ?_ (fun hHeld=>?_)
  ·exact HKX.out.keep hg4
  clear hK K
  try simp [Act.put]
  refine zTa 11
  rotate_left
  ·(intro w hSw;(try dsimp only at hSw);go_simp;try (with_reducible rfl))
  try simp [Act.put]
  refine zTa 12
  rotate_left
  ·(intro w hSw;(try dsimp only at hSw);go_simp;try (with_reducible rfl))
  try simp [Act.put]
  refine wpAnyH_done zK ?_ _
  have HV:=zH (Qm HBX.out HG4.out)
  clear hHeld hb2 hb3 hg2 hg3 hb4 hg4
  go_wp2
  go_ret
  exact⟨by rw [HS.out];cases B <;> rfl,HV.out⟩
 | false =>
  refine wp_region_held_drew (S:=(fun v=>zQ v w§¢0 (zU m.h.k)∧zQ v w§¢1 (zU m.h.o)∧zQ v w§¢2 (zU m.h.t)∧zQ v w§¢3 (zI m.h.n)∧zQ v w§¢4 (zU m.h.f)∧zQ v w§¢5 (.string m.h.x)∧zQ v w§¢6 (.slice m.a m.ks.length m.c)∧zQ v w§¢7 (zI m.h.p)∧zQ v ⟨(w§+1),0,none⟩ (zU k.h.k)∧zQ v ⟨(w§+1),1,none⟩ (zU k.h.o)∧zQ v ⟨(w§+1),2,none⟩ (zU k.h.t)∧zQ v ⟨(w§+1),3,none⟩ (zI k.h.n)∧zQ v ⟨(w§+1),4,none⟩ (zU k.h.f)∧zQ v ⟨(w§+1),5,none⟩ (.string k.h.x)∧zQ v ⟨(w§+1),6,none⟩ (.slice k.a k.ks.length k.c)∧zQ v ⟨(w§+1),7,none⟩ (zI k.h.p)∧GB X v)) zK (HKX.out.keep (by (repeat (first | with_reducible assumption | with_reducible exact GB.refl _ | with_reducible apply GB.drew | with_reducible apply GB.alloc | with_reducible refine GB.call (by with_reducible assumption) ?_)))) (fun hHeld=>?_)
  refine zTa 0
  rotate_left
  ·(intro w hSw;(try dsimp only at hSw);go_simp;try (with_reducible rfl))
  try simp [Act.put]
  refine zTa 2
  rotate_left
  ·(intro w hSw;(try dsimp only at hSw);go_simp;try (with_reducible rfl))
  try simp [Act.put]
  refine wpAnyH_ready (rs:=[1]) zK (by simp) ?_
  refine AllReadyH.cons rfl (fun K hK=>?_) AllReadyH.nil
  go_simp
  refine (cS _).mono ?_
  rintro e w2 ⟨rfl,hb2⟩
  have hg2:GB X w2:=GB.call hb2 (by (repeat (first | with_reducible assumption | with_reducible exact GB.refl _ | with_reducible apply GB.drew | with_reducible apply GB.alloc | with_reducible refine GB.call (by with_reducible assumption) ?_)))
  have HG2:Hid (GB X w2):=hg2
  go_simp
  refine hK.out _ _ ?_ (fun hHeld=>?_)
  ·exact HKX.out.keep hg2
  clear hK K
  try simp [Act.put]
  refine wpAnyH_ready (rs:=[3]) zK (by simp) ?_
  refine AllReadyH.cons rfl (fun K hK=>?_) AllReadyH.nil
  go_simp
  refine (cT _).mono ?_
  rintro e w3 ⟨rfl,hb3⟩
  have hg3:GB X w3:=GB.call hb3 HG2.out
  have HG3:Hid (GB X w3):=hg3
  go_simp
  refine hK.out _ _ ?_ (fun hHeld=>?_)
  ·exact HKX.out.keep hg3
  clear hK K
  try simp [Act.put]
  refine wpAnyH_take (i:=4) (v:=.bool false) rfl zK zK zK (fun _ _ _ h=>h) (Or.inl ⟨by rfl,?_⟩) (by assumption) ?_
  ·(intro w hSw;(try dsimp only at hSw);go_simp;exact neq6 HA.out)
  try simp [Act.put]
  refine zTa 5
  rotate_left
  ·(intro w hSw;(try dsimp only at hSw);go_simp;try (with_reducible rfl))
  try simp [Act.put]
  refine zTc 6
  rotate_left
  ·rfl
  try simp [Act.put]
  refine zTc 7
  rotate_left
  ·rfl
  try simp [Act.put]
  refine zTc 8
  rotate_left
  ·rfl
  try simp [Act.put]
  refine zTc 9
  rotate_left
  ·rfl
  try simp [Act.put]
  refine zTc 10
  rotate_left
  ·rfl
  try simp [Act.put]
  refine zTa 11
  rotate_left
  ·(intro w hSw;(try dsimp only at hSw);go_simp;try (with_reducible rfl))
  try simp [Act.put]
  refine zTa 12
  rotate_left
  ·(intro w hSw;(try dsimp only at hSw);go_simp;try (with_reducible rfl))
  try simp [Act.put]
  refine wpAnyH_done zK ?_ _
  have HV:=zH (Qm HBX.out HG3.out)
  clear hHeld hb2 hb3 hg2 hg3
  go_wp2
  go_ret
  exact⟨by rw [HS.out];rfl,HV.out⟩
theorem lies0T (w:yW):Lies w nd0T:=.mk _ _ _ _ ⟨by decide,by decide,by decide,by decide,by decide,by decide,by decide,by decide,by decide,by decide,by decide,by decide,by decide⟩ (Nat.le_refl _) (by decide) (fun i hi=>by simp at hi) (fun k hk=>by cases hk)
theorem Qfd (n l m:Int) (h1:l≤n) (h2:n≤m) (w:yW):Calls zG 178 #[zI n,zI l,zI m] w fun e w'=>e=.returned (.tuple #[])∧w'=w:=by
 have d1:decide (l≤n)=true:=decide_eq_true h1
 have d2:decide (n≤m)=true:=decide_eq_true h2
 go_enter func178,ntmps178
 go_wp2_with (go_at_call 158;refine (Hx _ _).mono ?_;rintro e w3 ⟨rfl,e4⟩;obtain rfl:=e4.symm)
 go_end0
 exact⟨rfl,rfl⟩
set_option linter.unusedVariables false
def fs (a b:Int):Int:=if a=0 then b else a
theorem fs_z {a b:Int}(h:a=0):fs a b=b:=if_pos h
theorem fs_n {a b:Int}(h:¬ a=0):fs a b=a:=if_neg h
def fsL:List Int→Int
 | []=>0
 | a :: l=>fs a (fsL l)
def namE (x:yB):Int:=if Jm x=true then 0 else 120
def cntE (n l m:Int):Int:=if n < l then 120 else if m < n then 121 else 0
def okE (ok:Bool):Int:=if ok=true then 0 else 120
theorem QK (ok:Bool) (w:yW):QI 158 #[.bool ok,zI 120] w (okE ok):=by
 refine (Vg ok 120 w).mono ?_
 rintro e w' ⟨rfl,rfl⟩
 cases ok with
 | true=>exact⟨.inl ⟨rfl,rfl⟩,Below.refl _ _⟩
 | false=>exact⟨.inr ⟨by decide,rfl⟩,Below.refl _ _⟩
theorem Ky {x:yB}(hs:SzX x) {w:yW}(ht:Tab w):QI 177 #[.string x] w (namE x):=by
 have cN:=VS x hs w ht
 obtain⟨B,eB⟩:∃ B,Jm x=B:=jV
 have hE:namE x=okE B:=by unfold namE okE;rw [eB]
 rw [hE]
 rw [eB] at cN
 clear hE eB
 unfold QI
 go_enter func177,ntmps177
 go_wp2_with fail
 refine cN.mono ?_
 rintro e w1 ⟨rfl,hb⟩
 have HB:=zH hb
 have c2:=QK B w1
 unfold QI at c2
 clear cN hb
 go_wp2_with fail
 refine c2.mono ?_
 rintro e w2 ⟨⟨h0,rfl⟩ | ⟨h0,rfl⟩,hb⟩
 ·have HB2:Hid (yD w w2):=Qd HB.out hb
  clear c2 hb
  go_wp2_with fail
  go_end0
  exact⟨.inl ⟨h0,rfl⟩,HB2.out⟩
 ·exact⟨rfl,.inr ⟨h0,rfl⟩,Qd HB.out hb⟩
theorem KJ (n l m:Int) (w:yW):QI 178 #[zI n,zI l,zI m] w (cntE n l m):=by
 unfold QI
 by_cases h1:l≤n
 ·have d1:decide (l≤n)=true:=decide_eq_true h1
  by_cases h2:n≤m
  ·have e0:cntE n l m=0:=by unfold cntE;rw [if_neg zY,if_neg zY]
   rw [e0]
   exact (Qfd n l m h1 h2 w).mono fun e w' h=>⟨.inl ⟨rfl,h.1⟩,by rw [h.2];exact Below.refl _ _⟩
  ·have d2:decide (n≤m)=false:=decide_eq_false h2
   have e0:cntE n l m=121:=by unfold cntE;rw [if_neg zY,if_pos zY]
   rw [e0]
   clear e0 h1 h2
   go_enter func178,ntmps178
   go_wp2_with fail
   refine (Hx 120 _).mono ?_
   rintro e w1 ⟨rfl,e1⟩
   obtain rfl:=e1.symm
   clear e1
   go_wp2_with fail
   refine (Vf 121 _).mono ?_
   rintro e w1 ⟨rfl,rfl⟩
   exact⟨rfl,.inr ⟨by decide,rfl⟩,Below.refl _ _⟩
 ·have d1:decide (l≤n)=false:=decide_eq_false h1
  have e0:cntE n l m=120:=by unfold cntE;rw [if_pos zY]
  rw [e0]
  clear e0 h1
  go_enter func178,ntmps178
  go_wp2_with fail
  refine (Vf 120 _).mono ?_
  rintro e w1 ⟨rfl,rfl⟩
  exact⟨rfl,.inr ⟨by decide,rfl⟩,Below.refl _ _⟩
theorem QhH {w:yW}{g:Nat}{cs:Array Value}{t:TypeId}{fr:Nat × Nat}(h:w.heap[g]? = some (.cells cs t fr)) (o:Nat) (l:List Value) (hl:∀ j,j < l.length→cs[o+j]? = l[j]?):w.rangeAt g o l:=fun j v hv=>by
 have hj:j < l.length:=(List.getElem?_eq_some_iff.1 hv).1
 rw [Qa h,hl j hj,hv]
def kid0 (m:Nd):Nd:=m.ks.getD 0 nd0
def K7 (m:Nd):Int:=fs (fE m) (if m.h.k=5∧m.h.o=1 then fs (okE (numB (kid0 m).h.t)) (okE (decide ((kid0 m).h.k=1))) else okE (decide (m.h.k=1)))
theorem QeN {m:Nd}(h:Qw m=true) (h5:m.h.k=5):m.ks.length=1:=by
 obtain⟨hd,a,c,ks⟩:=m
 have h5:hd.k=5:=h5
 have h1:(oneH hd ks.length && Q1 ks)=true:=h
 rw [Bool.and_eq_true] at h1
 have h2:=h1.1
 unfold oneH at h2
 rw [Bool.and_eq_true] at h2
 have h3:=h2.2
 unfold fitB at h3
 rw [if_neg zY,if_neg zY,if_neg zY,if_neg zY,if_pos h5,Bool.and_eq_true] at h3
 exact of_decide_eq_true h3.1
theorem QI.two {F:Nat}{args:Array Value}{w:yW}{E:Int}(c:QI F args w E):(E=0∧Calls zG F args w fun e w'=>e=.returned (.tuple #[])∧yD w w')∨(¬ E=0∧Calls zG F args w fun e w'=>e=.panicked [{ v:=.iface 41 (zI E),recovered:=false }]∧yD w w'):=by
 by_cases h:E=0
 ·subst h;exact .inl ⟨rfl,c.zero⟩
 ·exact .inr ⟨h,c.some h⟩
theorem QaJ (m:Nd) (w:yW) (hl:Lies w m) (ht:Tab w):QI 207 #[.agg m.vals] w (K7 m):=by
 have hb0:=Qb w (.cells m.vals 38)
 have c0:=Vl (hl.on hb0) (ht.on hb0)
 unfold K7
 have c02:=c0.two
 clear c0
 rcases c02 with ⟨h0,c1⟩ | ⟨h0,c1⟩
 ·rw [fs_z h0]
  have hf:Qw m=true:=by
   unfold fE at h0
   by_cases h:Qw m=true
   ·exact h
   ·rw [if_neg h] at h0;cases h0
  by_cases h5:m.h.k=5∧m.h.o=1
  ·rw [if_pos h5]
   have hk1:=QeN hf h5.1
   obtain⟨⟨k2,o2,ty2,n2,f2,x2,p2⟩,am2,cm2,ks2⟩:=m
   obtain⟨rfl,rfl⟩:k2=5∧o2=1:=h5
   have hk1:ks2.length=1:=hk1
   obtain⟨kd,rfl⟩:∃ k,ks2 = [k]:=List.length_eq_one_iff.1 hk1
   obtain⟨B,O,ea,hat⟩:=hl.kid 0 (by show 0 < 1;omega)
   have ea:am2=some B¢O:=ea
   subst ea
   have hat:NdAt w B (O+0 * 8) kd:=hat
   have HAT:=hat.hid
   have hcap:1≤cm2:=hl.cap
   have HKD : Hid (kid0 (.mk ⟨5, 1, ty2, n2, f2, x2, p2⟩ (some ⟨B, O, none⟩) cm2 [kd]) = kd) := rfl
   rw [HKD.out]
   unfold Nd.vals hdA at c1 hb0
   simp only [Nd.h,Nd.a,Nd.c,Nd.ks,List.length_cons,List.length_nil,Nat.zero_add] at c1 hb0
   unfold QI
   simp only [Nd.vals,hdA,Nd.h,Nd.a,Nd.c,Nd.ks,List.length_cons,List.length_nil,Nat.zero_add]
   obtain⟨⟨k3,o3,ty3,n3,f3,x3,p3⟩,am3,cm3,ks3⟩:=kd
   clear h0 hf hl ht hat hk1 HKD
   go_enter func207,ntmps207
   go_wp2_with fail
   refine c1.mono ?_
   rintro e w1 ⟨rfl,hb⟩
   have hN1:=(hb.block w§ (by rw [Qe];omega)).trans (Qc w _)
   have HB1:Hid (yD w w1):=Qd hb0 hb
   have hk1:=HAT.out.on HB1.out
   simp only [Nat.zero_mul,Nat.add_zero] at hk1
   obtain⟨x0,x1,x2',x3',x4,x5,x6,x7⟩:=hk1
   simp only [Nd.h,Nd.a,Nd.c,Nd.ks] at x0 x1 x2' x3' x4 x5 x6 x7
   obtain⟨q0,q1,q2,q3,q4,q5,q6,q7⟩:=cl8 hN1
   have r0:=Qf hN1 0
   have r1:=Qf hN1 1
   have r2:=Qf hN1 2
   have r3:=Qf hN1 3
   have r4:=Qf hN1 4
   have r5:=Qf hN1 5
   have r6:=Qf hN1 6
   have r7:=Qf hN1 7
   obtain⟨Y,eY,hY1,hY2,hY3,hY4⟩:=fin8 hN1 (zU k3) (zU o3) (zU ty3) (zI n3) (zU f3) (.string x3) (.slice am3 ks3.length cm3) (zI p3)
   have HBY:Hid (yD w Y):=(hY4 w (fun _=>False) (Mv.ofBelow HB1.out) (Nat.le_refl _)).below (Nat.le_refl _) (fun _ e=>e.elim)
   have HY1:Hid (Y.heap[w§]? = (zC (zW k3 o3 ty3 n3 f3 x3 am3 ks3 cm3 p3) 38)):=hY1
   have HEY:Hid (_=Y):=eY
   clear hb hN1 c1 HB1 HAT hb0 eY hY1 hY2 hY3 hY4
   go_upto_region 4 with fail
   rw [HEY.out]
   clear q0 q1 q2 q3 q4 q5 q6 q7 r0 r1 r2 r3 r4 r5 r6 r7 x0 x1 x2' x3' x4 x5 x6 x7 HEY
   have y0:zQ Y w§¢0 (zU k3):=Qa HY1.out 0
   have y2:zQ Y w§¢2 (zU ty3):=Qa HY1.out 2
   have c2:=KW ty3 Y
   go_wp2_with fail
   refine c2.mono ?_
   rintro e w2 ⟨rfl,e2⟩
   obtain rfl:=e2.symm
   clear c2 e2
   have c3:=QK (numB ty3) Y
   rcases c3.two with ⟨h1,c3⟩ | ⟨h1,c3⟩
   ·go_wp2_with fail
    refine c3.mono ?_
    rintro e w3 ⟨rfl,hb3⟩
    have HB3:Hid (yD w w3):=Qd HBY.out hb3
    have z0:zQ w3 w§¢0 (zU k3):=Qa ((hb3.block _ (zJ HY1.out).1).trans HY1.out) 0
    have c4:=QK (decide (k3=1)) w3
    clear c3 hb3 y0 y2 HY1
    rcases c4.two with ⟨h2,c4⟩ | ⟨h2,c4⟩
    ·go_wp2_with fail
     try simp only [beq_eq_decide] at *
     refine c4.mono ?_
     rintro e w4 ⟨rfl,hb4⟩
     have HB4:Hid (yD w w4):=Qd HB3.out hb4
     clear c4 hb4
     go_wp2_with fail
     go_end0
     exact⟨.inl ⟨by rw [fs_z h1];exact h2,rfl⟩,HB4.out⟩
    ·go_wp2_with fail
     try simp only [beq_eq_decide] at *
     refine c4.mono ?_
     rintro e w4 ⟨rfl,hb4⟩
     exact⟨rfl,.inr ⟨by rw [fs_z h1];exact h2,by simp only [fs_z h1];rfl⟩,Qd HB3.out hb4⟩
   ·go_wp2_with fail
    refine c3.mono ?_
    rintro e w3 ⟨rfl,hb3⟩
    exact⟨rfl,.inr ⟨by rw [fs_n h1];exact h1,by rw [fs_n h1]⟩,Qd HBY.out hb3⟩
  ·rw [if_neg h5]
   obtain⟨⟨k2,o2,ty2,n2,f2,x2,p2⟩,am2,cm2,ks2⟩:=m
   have h5:¬ (k2=5∧o2=1):=h5
   unfold Nd.vals hdA at c1 hb0
   simp only [Nd.h,Nd.a,Nd.c,Nd.ks] at c1 hb0
   unfold QI
   simp only [Nd.vals,hdA,Nd.h,Nd.a,Nd.c,Nd.ks]
   clear h0 hf hl ht
   have body:∀ w1:yW,yD w w1→True:=fun _ _=>trivial
   by_cases hk:k2=5
   ·have ho:¬ o2=1:=fun e=>h5 ⟨hk,e⟩
    subst hk
    have ho2:(o2 == 1)=false:=by simpa using ho
    clear h5 ho
    go_enter func207,ntmps207
    go_wp2_with fail
    refine c1.mono ?_
    rintro e w1 ⟨rfl,hb⟩
    have hN1:=(hb.block w§ (by rw [Qe];omega)).trans (Qc w _)
    have HB1:Hid (yD w w1):=Qd hb0 hb
    have q0:zQ w1 w§¢0 (zU 5):=Qa hN1 0
    have q1:zQ w1 w§¢1 (zU o2):=Qa hN1 1
    have c4:=(QK false w1).some (by decide)
    clear hb hN1 c1 hb0 body
    go_wp2_with fail
    refine c4.mono ?_
    rintro e w4 ⟨rfl,hb4⟩
    exact⟨rfl,.inr ⟨by simp [okE],by simp [okE]⟩,Qd HB1.out hb4⟩
   ·have hk2:(k2 == 5)=false:=by simpa using hk
    clear h5 hk
    go_enter func207,ntmps207
    go_wp2_with fail
    refine c1.mono ?_
    rintro e w1 ⟨rfl,hb⟩
    have hN1:=(hb.block w§ (by rw [Qe];omega)).trans (Qc w _)
    have HB1:Hid (yD w w1):=Qd hb0 hb
    have q0:zQ w1 w§¢0 (zU k2):=Qa hN1 0
    have q1:zQ w1 w§¢1 (zU o2):=Qa hN1 1
    have c4:=QK (decide (k2=1)) w1
    clear hb hN1 c1 hb0 body
    rcases c4.two with ⟨h2,c4⟩ | ⟨h2,c4⟩
    ·go_wp2_with fail
     try simp only [beq_eq_decide] at *
     refine c4.mono ?_
     rintro e w4 ⟨rfl,hb4⟩
     have HB4:Hid (yD w w4):=Qd HB1.out hb4
     clear c4 hb4
     go_wp2_with fail
     go_end0
     exact⟨.inl ⟨h2,rfl⟩,HB4.out⟩
    ·go_wp2_with fail
     try simp only [beq_eq_decide] at *
     refine c4.mono ?_
     rintro e w4 ⟨rfl,hb4⟩
     exact⟨rfl,.inr ⟨h2,rfl⟩,Qd HB1.out hb4⟩
 ·rw [fs_n h0]
  unfold QI
  unfold Nd.vals hdA at c1 ⊢
  clear hl ht hb0
  go_enter func207,ntmps207
  go_wp2_with fail
  refine c1.mono ?_
  rintro e w1 ⟨rfl,hb⟩
  exact⟨rfl,.inr ⟨h0,rfl⟩,Qd (Qb _ _) hb⟩
def regE (r:RegM):Int:=fs (namE r.x) (fs (okE (decide (1≤r.t∧r.t≤6))) (K7 r.m))
theorem V0 {a b c:Int}(h1:a=0) (h2:b=0):fs a (fs b c)=c:=by rw [fs_z h1,fs_z h2]
theorem QeL {a b c:Int}(h1:a=0) (h2:¬ b=0):fs a (fs b c)=b:=by rw [fs_z h1,fs_n h2]
theorem QE {w:yW}{g:Nat}{cs:Array Value}{t:TypeId}{fr:Nat × Nat}(h:w.heap[g]? = some (.cells cs t fr)) (o:Nat) (m:Nd) (hl:∀ j,j < 8→cs[o+j]? = m.vals.toList[j]?):w.rangeAt g o m.vals.toList:=QhH h o _ hl
theorem QD (m:Nd):(Tryz.prog.info? 38).map (·.size)=some m.vals.toList.length:=by show _=some 8;kernel_rfl
theorem Qbf (r:RegM):∀ j,j < 8→r.vals[2+j]? = r.m.vals.toList[j]?:=fun j hj=>by
 match j,hj with
 | 0,_=>rfl
 | 1,_=>rfl
 | 2,_=>rfl
 | 3,_=>rfl
 | 4,_=>rfl
 | 5,_=>rfl
 | 6,_=>rfl
 | 7,_=>rfl
theorem QQ (m:Nd):m.vals.toList.toArray=m.vals:=by simp
theorem Qb6 (r:RegM) (w:yW) (hl:RegL w r) (ht:Tab w):QI 179 #[.agg r.vals] w (regE r):=by
 have hb0:=Qb w (.cells r.vals 102)
 have hn0:=Qc w (.cells r.vals 102)
 have HH:Hid (RegL w r∧Tab w):=⟨hl,ht⟩
 have q0:(zA w r.vals 102).cell? w§¢0=some (.string r.x):=Qa hn0 0
 have HN0:Hid ((zA w r.vals 102).heap[w§]? = (zC r.vals 102)):=hn0
 have HB0:Hid (yD w (zA w r.vals 102)):=hb0
 have c1:=(Ky (x:=r.x) hl.2.2.2 (ht.on hb0)).two
 obtain⟨E,eE⟩:∃ E,regE r=E:=jV
 have HE:Hid (fs (namE r.x) (fs (okE (decide (1≤r.t∧r.t≤6))) (K7 r.m))=E):=eE
 rw [eE]
 clear hl ht eE hb0 hn0
 unfold QI
 rcases c1 with ⟨h1,c1⟩ | ⟨h1,c1⟩
 ·go_enter func179,ntmps179
  go_wp2_with fail
  refine c1.mono ?_
  rintro e w1 ⟨rfl,hb⟩
  have HB1:Hid (yD w w1):=Qd HB0.out hb
  have hn1:=(hb.block _ (zJ HN0.out).1).trans HN0.out
  have HN1:Hid (w1.heap[w§]? = (zC r.vals 102)):=hn1
  have q1:zQ w1 w§¢1 (zU r.t):=Qa hn1 1
  have c2:=JQ 206 r.t 1 6 w1 (by simp)
  obtain⟨B,eB⟩:∃ B,decide (1≤r.t∧r.t≤6)=B:=jV
  rw [eB] at c2 HE
  clear eB
  clear c1 hb hn1 q0 HN0 HB0
  go_wp2_with fail
  refine c2.mono ?_
  rintro e w2 ⟨rfl,e2⟩
  obtain rfl:=e2.symm
  have c3:=(QK B w1).two
  clear c2 e2
  rcases c3 with ⟨h2,c3⟩ | ⟨h2,c3⟩
  ·go_wp2_with fail
   refine c3.mono ?_
   rintro e w3 ⟨rfl,hb⟩
   have HB3:Hid (yD w w3):=Qd HB1.out hb
   have hn3:=(hb.block _ (zJ HN1.out).1).trans HN1.out
   have HN3:Hid (w3.heap[w§]? = (zC r.vals 102)):=hn3
   have c4:=(QaJ r.m w3 (HH.out.1.1.on HB3.out) (HH.out.2.on HB3.out)).two
   clear c3 hb hn3 q1 HN1 HB1
   rcases c4 with ⟨h3,c4⟩ | ⟨h3,c4⟩
   ·go_wp2_with (refine wpList_load_mid rfl 38 (.tmp 9) rfl w§ 2 rfl r.m.vals.toList _ (QE HN3.out 2 r.m (Qbf r)) underlying38 rfl (QD r.m) ?_;rw [QQ])
    refine c4.mono ?_
    rintro e w4 ⟨rfl,hb⟩
    have HB4:Hid (yD w w4):=Qd HB3.out hb
    clear c4 hb
    go_wp2_with fail
    go_end0
    exact⟨.inl ⟨by rw [← HE.out,V0 h1 h2];exact h3,rfl⟩,HB4.out⟩
   ·go_wp2_with (refine wpList_load_mid rfl 38 (.tmp 9) rfl w§ 2 rfl r.m.vals.toList _ (QE HN3.out 2 r.m (Qbf r)) underlying38 rfl (QD r.m) ?_;rw [QQ])
    refine c4.mono ?_
    rintro e w4 ⟨rfl,hb⟩
    have hE:E=K7 r.m:=by rw [← HE.out,V0 h1 h2]
    exact⟨rfl,.inr ⟨by rw [hE];exact h3,by rw [hE]⟩,Qd HB3.out hb⟩
  ·go_wp2_with fail
   refine c3.mono ?_
   rintro e w3 ⟨rfl,hb⟩
   have hE:E=okE B:=by rw [← HE.out,QeL h1 h2]
   exact⟨rfl,.inr ⟨by rw [hE];exact h2,by rw [hE]⟩,Qd HB1.out hb⟩
 ·go_enter func179,ntmps179
  go_wp2_with fail
  refine c1.mono ?_
  rintro e w1 ⟨rfl,hb⟩
  have hE : E = namE r.x := by rw [← HE.out, fs_n h1]
  exact⟨rfl,.inr ⟨by rw [hE];exact h1,by rw [hE]⟩,Qd HB0.out hb⟩
namespace Sx
structure Sn where
 bid:Int
 ask:Int
 last:Int
 vol:Int
 now:Int
 opn:Int
def snA (s:Sn):Array Value:=#[zI s.bid,zI s.ask,zI s.last,zI s.vol,zI s.now,zI s.opn]
def sn0:Sn:=⟨0,0,0,0,0,0⟩
structure May (s:Sn):Prop where
 b0:0≤s.bid
 b1:s.bid≤1000000000
 a0:0≤s.ask
 a1:s.ask≤1000000000
 l0:0≤s.last
 l1:s.last≤1000000000
 v0:0≤s.vol
 v1:s.vol≤1000000000000000
 n0:0≤s.now
 n1:s.now≤1000000000000000
 o0:0≤s.opn
 o1:s.opn≤256000000000
def inB (n m:Int):Bool:=decide (0≤n) && decide (n≤m)
theorem Qgo {n m:Int}:inB n m=true ↔ 0≤n∧n≤m:=by unfold inB;simp
def mayB (s:Sn):Bool:=inB s.bid 1000000000 && inB s.ask 1000000000 && inB s.last 1000000000 && inB s.vol 1000000000000000 && inB s.now 1000000000000000 && inB s.opn 256000000000
theorem Fc {s:Sn}:mayB s=true ↔ May s:=by
 unfold mayB
 simp only [Bool.and_eq_true,Qgo]
 constructor
 ·rintro ⟨⟨⟨⟨⟨⟨a,b⟩,c,d⟩,e,f⟩,g,h⟩,i,j⟩,k,l⟩
  exact⟨a,b,c,d,e,f,g,h,i,j,k,l⟩
 ·rintro ⟨a,b,c,d,e,f,g,h,i,j,k,l⟩
  exact⟨⟨⟨⟨⟨⟨a,b⟩,c,d⟩,e,f⟩,g,h⟩,i,j⟩,k,l⟩
theorem Qim {s:Sn}(h:¬ May s):mayB s=false:=by
 cases e:mayB s
 ·rfl
 ·exact absurd (Fc.1 e) h
def chkN (s:Sn):Int:=if mayB s=true then 0 else 100
theorem chk_f {s:Sn}(h:mayB s=false):chkN s=100:=by unfold chkN;rw [h];rfl
theorem chk_t {s:Sn}(h:mayB s=true):chkN s=0:=by unfold chkN;rw [h];rfl
theorem XU {s:Sn}(h:¬ May s):chkN s=100:=chk_f (Qim h)
theorem chk_ok {s:Sn}(h:May s):chkN s=0:=chk_t (Fc.2 h)
def getN (s:Sn) (f:Int):Int:=if f=1 then s.bid else if f=2 then s.ask else if f=3 then s.last else if f=4 then s.vol else if f=5 then s.now else if f=6 then s.opn else 0
structure SnAt (w:yW) (b:Nat) (s:Sn):Prop where
 c0:zQ w b¢0 (zI s.bid)
 c1:zQ w b¢1 (zI s.ask)
 c2:zQ w b¢2 (zI s.last)
 c3:zQ w b¢3 (zI s.vol)
 c4:zQ w b¢4 (zI s.now)
 c5:zQ w b¢5 (zI s.opn)
theorem SnAt.on {w w':yW}{b B:Nat}{r:Sn}(h:SnAt w b r) (k:Below B w w') (hb:b < B):SnAt w' b r :=
 ⟨(k.cell hb).trans h.c0,(k.cell hb).trans h.c1,(k.cell hb).trans h.c2,(k.cell hb).trans h.c3,(k.cell hb).trans h.c4,(k.cell hb).trans h.c5⟩
theorem Jd (w:yW) (a:Array Value) (t:TypeId) (j:Nat):(zA w a t).cell? w§¢j=a[j]?:=by
 unfold World.cell? World.alloc;simp
theorem SnAt.new (w:yW) (r:Sn) (t:TypeId):SnAt (zA w (snA r) t) w§ r :=
 ⟨(Jd ..).trans rfl,(Jd ..).trans rfl,(Jd ..).trans rfl,(Jd ..).trans rfl,(Jd ..).trans rfl,(Jd ..).trans rfl⟩
def nuA (s:Sn):Array Value:=#[zI 0,zI s.bid,zI s.ask,zI s.last,zI s.vol,zI s.now,zI s.opn]
theorem Ji (s:Sn) (w:yW):Calls zG 97 #[.agg (snA s)] w fun e w'=>e=.returned (.agg (nuA s))∧yD w w':=by
 have hR:=SnAt.new w s 31
 have hB:=Qb w (.cells (snA s) 31)
 have hZ:=Qe w (.cells (snA s) 31)
 unfold snA at *
 obtain⟨W,hW⟩:∃ W,w.alloc (.cells #[zI s.bid,zI s.ask,zI s.last,zI s.vol,zI s.now,zI s.opn] 31)=W:=jV
 rw [hW] at hR hB hZ
 obtain⟨c0,c1,c2,c3,c4,c5⟩:=hR
 go_enter func97,ntmps97
 go_wp2
 refine bodyPost_ret (results_cell_row rfl _ _ (w§+1) 180 (nuA s) (0,0) _ rfl (hZ ▸ Qc W _) underlying180 rfl zK) rfl ⟨rfl,hB.alloc zY _⟩
theorem Qk (w:yW) (X Y:Obj):yD w ((w.alloc X).alloc Y):=(Qb w X).alloc (by rw [Qe];omega) Y
theorem ix0 (s:Sn) (w:yW):Sem.run zG (Instr.index 180 (.agg #[zI 0,zI s.bid,zI s.ask,zI s.last,zI s.vol,zI s.now,zI s.opn]) (zI 0)) w=.ok (zI 0) w:=by kernel_rfl
theorem ix1 (s:Sn) (w:yW):Sem.run zG (Instr.index 180 (.agg #[zI 0,zI s.bid,zI s.ask,zI s.last,zI s.vol,zI s.now,zI s.opn]) (zI 1)) w=.ok (zI s.bid) w:=by kernel_rfl
theorem ix2 (s:Sn) (w:yW):Sem.run zG (Instr.index 180 (.agg #[zI 0,zI s.bid,zI s.ask,zI s.last,zI s.vol,zI s.now,zI s.opn]) (zI 2)) w=.ok (zI s.ask) w:=by kernel_rfl
theorem ix3 (s:Sn) (w:yW):Sem.run zG (Instr.index 180 (.agg #[zI 0,zI s.bid,zI s.ask,zI s.last,zI s.vol,zI s.now,zI s.opn]) (zI 3)) w=.ok (zI s.last) w:=by kernel_rfl
theorem ix4 (s:Sn) (w:yW):Sem.run zG (Instr.index 180 (.agg #[zI 0,zI s.bid,zI s.ask,zI s.last,zI s.vol,zI s.now,zI s.opn]) (zI 4)) w=.ok (zI s.vol) w:=by kernel_rfl
theorem ix5 (s:Sn) (w:yW):Sem.run zG (Instr.index 180 (.agg #[zI 0,zI s.bid,zI s.ask,zI s.last,zI s.vol,zI s.now,zI s.opn]) (zI 5)) w=.ok (zI s.now) w:=by kernel_rfl
theorem ix6 (s:Sn) (w:yW):Sem.run zG (Instr.index 180 (.agg #[zI 0,zI s.bid,zI s.ask,zI s.last,zI s.vol,zI s.now,zI s.opn]) (zI 6)) w=.ok (zI s.opn) w:=by kernel_rfl
theorem ux0 (s:Sn) (w:yW):Sem.run zG (Instr.index 180 (.agg #[zI 0,zI s.bid,zI s.ask,zI s.last,zI s.vol,zI s.now,zI s.opn]) (zU 0)) w=.ok (zI 0) w:=by kernel_rfl
theorem ux1 (s:Sn) (w:yW):Sem.run zG (Instr.index 180 (.agg #[zI 0,zI s.bid,zI s.ask,zI s.last,zI s.vol,zI s.now,zI s.opn]) (zU 1)) w=.ok (zI s.bid) w:=by kernel_rfl
theorem ux2 (s:Sn) (w:yW):Sem.run zG (Instr.index 180 (.agg #[zI 0,zI s.bid,zI s.ask,zI s.last,zI s.vol,zI s.now,zI s.opn]) (zU 2)) w=.ok (zI s.ask) w:=by kernel_rfl
theorem ux3 (s:Sn) (w:yW):Sem.run zG (Instr.index 180 (.agg #[zI 0,zI s.bid,zI s.ask,zI s.last,zI s.vol,zI s.now,zI s.opn]) (zU 3)) w=.ok (zI s.last) w:=by kernel_rfl
theorem ux4 (s:Sn) (w:yW):Sem.run zG (Instr.index 180 (.agg #[zI 0,zI s.bid,zI s.ask,zI s.last,zI s.vol,zI s.now,zI s.opn]) (zU 4)) w=.ok (zI s.vol) w:=by kernel_rfl
theorem ux5 (s:Sn) (w:yW):Sem.run zG (Instr.index 180 (.agg #[zI 0,zI s.bid,zI s.ask,zI s.last,zI s.vol,zI s.now,zI s.opn]) (zU 5)) w=.ok (zI s.now) w:=by kernel_rfl
theorem ux6 (s:Sn) (w:yW):Sem.run zG (Instr.index 180 (.agg #[zI 0,zI s.bid,zI s.ask,zI s.last,zI s.vol,zI s.now,zI s.opn]) (zU 6)) w=.ok (zI s.opn) w:=by kernel_rfl
def Okto (s:Sn) (k:Nat):Prop:=(1 < k→0≤s.bid∧s.bid≤1000000000)∧(2 < k→0≤s.ask∧s.ask≤1000000000)∧(3 < k→0≤s.last∧s.last≤1000000000)∧(4 < k→0≤s.vol∧s.vol≤1000000000000000)∧(5 < k→0≤s.now∧s.now≤1000000000000000)∧(6 < k→0≤s.opn∧s.opn≤256000000000)
theorem Okto.may {s:Sn}(h:Okto s 7):May s:=by
 obtain⟨a,b,c,d,e,f⟩:=h
 exact⟨(a zY).1,(a zY).2,(b zY).1,(b zY).2,(c zY).1,(c zY).2,(d zY).1,(d zY).2,(e zY).1,(e zY).2,(f zY).1,(f zY).2⟩
def Vj:Array Value:=#[zI 0,zI 1000000000,zI 1000000000,zI 1000000000,zI 1000000000000000,zI 1000000000000000,zI 256000000000]
theorem check_any (s:Sn) (w:yW):Calls zG 59 #[.agg (snA s)] w fun e w'=>e=.returned (zI (chkN s))∧yD w w':=by
 have hR:=(SnAt.new w s 31).on (Qb (zA w (snA s) 31) (.cells Vj 180)) (by rw [Qe];omega)
 have hB:=Qk w (.cells (snA s) 31) (.cells Vj 180)
 have hZ:((zA w (snA s) 31).alloc (.cells Vj 180))§=w§+2:=by rw [Qe,Qe]
 have hM:∀ j,((zA w (snA s) 31).alloc (.cells Vj 180)).cell? ⟨w§+1,j,none⟩=Vj[j]?:=fun j=>by
  have:=Jd (zA w (snA s) 31) Vj 180 j
  rwa [Qe] at this
 unfold snA Vj at *
 obtain⟨W,hW⟩:∃ W,(zA w #[zI s.bid,zI s.ask,zI s.last,zI s.vol,zI s.now,zI s.opn] 31).alloc (.cells #[zI 0,zI 1000000000,zI 1000000000,zI 1000000000,zI 1000000000000000,zI 1000000000000000,zI 256000000000] 180)=W:=jV
 rw [hW] at hR hB hZ hM
 obtain⟨c0,c1,c2,c3,c4,c5⟩:=hR
 go_enter func59,ntmps59
 go_wp2_with fail
 refine (Ji s _).mono ?_
 rintro _ v ⟨rfl,bb⟩
 have hb:w§+1 < W§:=by omega
 have m0:zQ v ⟨w§+1,0,none⟩ (zI 0):=(bb.cell hb).trans (hM 0)
 have m1:zQ v ⟨w§+1,1,none⟩ (zI 1000000000):=(bb.cell hb).trans (hM 1)
 have m2:zQ v ⟨w§+1,2,none⟩ (zI 1000000000):=(bb.cell hb).trans (hM 2)
 have m3:zQ v ⟨w§+1,3,none⟩ (zI 1000000000):=(bb.cell hb).trans (hM 3)
 have m4:zQ v ⟨w§+1,4,none⟩ (zI 1000000000000000):=(bb.cell hb).trans (hM 4)
 have m5:zQ v ⟨w§+1,5,none⟩ (zI 1000000000000000):=(bb.cell hb).trans (hM 5)
 have m6:zQ v ⟨w§+1,6,none⟩ (zI 256000000000):=(bb.cell hb).trans (hM 6)
 replace hB:yD w v:=hB.trans (bb.mono hB.size)
 have x0:=ix0 s v
 have x1:=ix1 s v
 have x2:=ix2 s v
 have x3:=ix3 s v
 have x4:=ix4 s v
 have x5:=ix5 s v
 have x6:=ix6 s v
 clear hM c0 c1 c2 c3 c4 c5 bb hW
 unfold nuA
 go_wp2_with fail
 go_loop [9] (fun i=>∃ k:Nat,k≤7∧i=zI k∧Okto s k) (fun i=>7 - (intOf i).toNat)
 case atStart=>exact⟨0,by omega,rfl,⟨fun h=>by omega,fun h=>by omega,fun h=>by omega,fun h=>by omega,fun h=>by omega,fun h=>by omega⟩⟩
 case round =>
  obtain⟨k,hk,rfl,ho⟩:=hrel
  have hk':k=0∨k=1∨k=2∨k=3∨k=4∨k=5∨k=6∨k=7:=by omega
  rcases hk' with rfl | rfl | rfl | rfl | rfl | rfl | rfl | rfl
  ·go_wp2
   all_goals first
    | exact⟨⟨1,by omega,rfl,by unfold Okto at *;omega⟩,by simp [intOf]⟩
    | (go_ret;exact⟨retI (XU (fun m=>by have q1:=m.b0;have q2:=m.b1;have q3:=m.a0;have q4:=m.a1;have q5:=m.l0;have q6:=m.l1;have q7:=m.v0;have q8:=m.v1;have q9:=m.n0;have r1:=m.n1;have r2:=m.o0;have r3:=m.o1;omega)).symm,hB⟩)
  ·go_wp2
   all_goals first
    | exact⟨⟨2,by omega,rfl,by unfold Okto at *;omega⟩,by simp [intOf]⟩
    | (go_ret;exact⟨retI (XU (fun m=>by have q1:=m.b0;have q2:=m.b1;have q3:=m.a0;have q4:=m.a1;have q5:=m.l0;have q6:=m.l1;have q7:=m.v0;have q8:=m.v1;have q9:=m.n0;have r1:=m.n1;have r2:=m.o0;have r3:=m.o1;omega)).symm,hB⟩)
  ·go_wp2
   all_goals first
    | exact⟨⟨3,by omega,rfl,by unfold Okto at *;omega⟩,by simp [intOf]⟩
    | (go_ret;exact⟨retI (XU (fun m=>by have q1:=m.b0;have q2:=m.b1;have q3:=m.a0;have q4:=m.a1;have q5:=m.l0;have q6:=m.l1;have q7:=m.v0;have q8:=m.v1;have q9:=m.n0;have r1:=m.n1;have r2:=m.o0;have r3:=m.o1;omega)).symm,hB⟩)
  ·go_wp2
   all_goals first
    | exact⟨⟨4,by omega,rfl,by unfold Okto at *;omega⟩,by simp [intOf]⟩
    | (go_ret;exact⟨retI (XU (fun m=>by have q1:=m.b0;have q2:=m.b1;have q3:=m.a0;have q4:=m.a1;have q5:=m.l0;have q6:=m.l1;have q7:=m.v0;have q8:=m.v1;have q9:=m.n0;have r1:=m.n1;have r2:=m.o0;have r3:=m.o1;omega)).symm,hB⟩)
  ·go_wp2
   all_goals first
    | exact⟨⟨5,by omega,rfl,by unfold Okto at *;omega⟩,by simp [intOf]⟩
    | (go_ret;exact⟨retI (XU (fun m=>by have q1:=m.b0;have q2:=m.b1;have q3:=m.a0;have q4:=m.a1;have q5:=m.l0;have q6:=m.l1;have q7:=m.v0;have q8:=m.v1;have q9:=m.n0;have r1:=m.n1;have r2:=m.o0;have r3:=m.o1;omega)).symm,hB⟩)
  ·go_wp2
   all_goals first
    | exact⟨⟨6,by omega,rfl,by unfold Okto at *;omega⟩,by simp [intOf]⟩
    | (go_ret;exact⟨retI (XU (fun m=>by have q1:=m.b0;have q2:=m.b1;have q3:=m.a0;have q4:=m.a1;have q5:=m.l0;have q6:=m.l1;have q7:=m.v0;have q8:=m.v1;have q9:=m.n0;have r1:=m.n1;have r2:=m.o0;have r3:=m.o1;omega)).symm,hB⟩)
  ·go_wp2
   all_goals first
    | exact⟨⟨7,by omega,rfl,by unfold Okto at *;omega⟩,by simp [intOf]⟩
    | (go_ret;exact⟨retI (XU (fun m=>by have q1:=m.b0;have q2:=m.b1;have q3:=m.a0;have q4:=m.a1;have q5:=m.l0;have q6:=m.l1;have q7:=m.v0;have q8:=m.v1;have q9:=m.n0;have r1:=m.n1;have r2:=m.o0;have r3:=m.o1;omega)).symm,hB⟩)
  ·go_wp2
   go_ret
   exact⟨retI (chk_ok ho.may).symm,hB⟩
theorem Qgq (s:Sn) {f:Int}(h:f < 1∨6 < f):getN s f=0:=by
 unfold getN
 rw [if_neg zY,if_neg zY,if_neg zY,if_neg zY,if_neg zY,if_neg zY]
theorem get_any (s:Sn) (f:Int) (f0:0≤f) (f1:f≤255) (w:yW):Calls zG 70 #[.agg (snA s),zU f] w fun e w'=>e=.returned (zI (getN s f))∧yD w w':=by
 have hR:=SnAt.new w s 31
 have hB:=Qb w (.cells (snA s) 31)
 unfold snA at *
 obtain⟨W,hW⟩:∃ W,w.alloc (.cells #[zI s.bid,zI s.ask,zI s.last,zI s.vol,zI s.now,zI s.opn] 31)=W:=jV
 rw [hW] at hR hB
 obtain⟨c0,c1,c2,c3,c4,c5⟩:=hR
 by_cases h7:7≤f
 ·have hg:=Qgq s (f:=f) zY
  go_enter func70,ntmps70
  go_wp2
  go_ret
  exact⟨retI hg.symm,hB⟩
 ·have hf:f=0∨f=1∨f=2∨f=3∨f=4∨f=5∨f=6:=by omega
  rcases hf with rfl | rfl | rfl | rfl | rfl | rfl | rfl
  ·go_enter func70,ntmps70
   go_wp2_with fail
   refine (Ji s _).mono ?_
   rintro _ v ⟨rfl,bb⟩
   have x:=ux0 s v
   replace hB:yD w v:=hB.trans (bb.mono hB.size)
   unfold nuA
   go_wp2
   go_ret
   exact⟨rfl,hB⟩
  ·go_enter func70,ntmps70
   go_wp2_with fail
   refine (Ji s _).mono ?_
   rintro _ v ⟨rfl,bb⟩
   have x:=ux1 s v
   replace hB:yD w v:=hB.trans (bb.mono hB.size)
   unfold nuA
   go_wp2
   go_ret
   exact⟨rfl,hB⟩
  ·go_enter func70,ntmps70
   go_wp2_with fail
   refine (Ji s _).mono ?_
   rintro _ v ⟨rfl,bb⟩
   have x:=ux2 s v
   replace hB:yD w v:=hB.trans (bb.mono hB.size)
   unfold nuA
   go_wp2
   go_ret
   exact⟨rfl,hB⟩
  ·go_enter func70,ntmps70
   go_wp2_with fail
   refine (Ji s _).mono ?_
   rintro _ v ⟨rfl,bb⟩
   have x:=ux3 s v
   replace hB:yD w v:=hB.trans (bb.mono hB.size)
   unfold nuA
   go_wp2
   go_ret
   exact⟨rfl,hB⟩
  ·go_enter func70,ntmps70
   go_wp2_with fail
   refine (Ji s _).mono ?_
   rintro _ v ⟨rfl,bb⟩
   have x:=ux4 s v
   replace hB:yD w v:=hB.trans (bb.mono hB.size)
   unfold nuA
   go_wp2
   go_ret
   exact⟨rfl,hB⟩
  ·go_enter func70,ntmps70
   go_wp2_with fail
   refine (Ji s _).mono ?_
   rintro _ v ⟨rfl,bb⟩
   have x:=ux5 s v
   replace hB:yD w v:=hB.trans (bb.mono hB.size)
   unfold nuA
   go_wp2
   go_ret
   exact⟨rfl,hB⟩
  ·go_enter func70,ntmps70
   go_wp2_with fail
   refine (Ji s _).mono ?_
   rintro _ v ⟨rfl,bb⟩
   have x:=ux6 s v
   replace hB:yD w v:=hB.trans (bb.mono hB.size)
   unfold nuA
   go_wp2
   go_ret
   exact⟨rfl,hB⟩
end Sx
mutual
/-- How many nodes and bytes of names. -/
def wt:Nd→Nat
 | .mk h _ _ ks=>1+h.x.size+wts ks
def wts:List Nd→Nat
 | []=>0
 | k :: ks=>wt k+wts ks
end
theorem Xx:∀ m,size m≤wt m:=by
 refine Nd.ind fun h a c ks ih=>?_
 have:∀ l:List Nd,(∀ k ∈ l,size k≤wt k)→JG l≤wts l:=by
  intro l
  induction l with
  | nil=>intro _;exact Nat.le_refl _
  | cons k l ihl=>intro hl;simp only [JG,wts];have h1:=hl k (by simp);have h2:=ihl fun x hx=>hl x (by simp [hx]);omega
 simp only [size,wt]
 have:=this ks ih
 omega
mutual
/-- What WeighNode hands back. -/
def wgE:Nd→Int→Int→Int
 | .mk h _ _ ks,n,d=>if d > 60000 then 1048577 else wgL ks (n+1+(h.x.size:Int)) (d+1)
def wgL:List Nd→Int→Int→Int
 | [],n,_=>n
 | k :: ks,n,d=>if n≤1048576 then wgL ks (wgE k n d) d else n
end
theorem FK (h:Hd) (a:Option Addr) (c:Nat) (ks:List Nd) (n d:Int):wgE (.mk h a c ks) n d=if d > 60000 then 1048577 else wgL ks (n+1+(h.x.size:Int)) (d+1):=by rw [wgE]
def WB (m:Nd):Prop:=∀ n d:Int,0≤n→0≤wgE m n d∧(wgE m n d≤n+140737488355329∨wgE m n d≤140737489403906)∧(wgE m n d≤1048576→wgE m n d=n+wt m)
theorem Qhp:∀ (ks:List Nd),(∀ k ∈ ks,WB k)→∀ n d:Int,0≤n→0≤wgL ks n d∧(wgL ks n d≤n∨wgL ks n d≤140737489403906)∧(wgL ks n d≤1048576→wgL ks n d=n+wts ks):=by
 intro ks
 induction ks with
 | nil=>intro _ n d hn;simp only [wgL,wts];exact⟨hn,.inl (Int.le_refl _),fun _=>by omega⟩
 | cons k ks ih =>
  intro hk n d hn
  simp only [wgL,wts]
  split
  ·rename_i h
   obtain⟨a1,a2,a3⟩:=hk k (List.mem_cons_self ..) n d hn
   obtain⟨b1,b2,b3⟩:=ih (fun x hx=>hk x (List.mem_cons_of_mem _ hx)) (wgE k n d) d a1
   refine⟨b1,.inr ?_,fun hh=>?_⟩
   ·rcases b2 with b2 | b2
    ·rcases a2 with a2 | a2 <;> omega
    ·exact b2
   ·have e1:=b3 hh
    have e2:=a3 zY
    omega
  ·rename_i h
   exact⟨hn,.inl (Int.le_refl _),fun hh=>absurd hh h⟩
theorem QcV {w:yW}:∀ m:Nd,Lies w m→WB m:=by
 refine Nd.ind fun h a c ks ih hl n d hn=>?_
 have hx:=hl.rg.x1
 simp only [Nd.h] at hx
 rw [FK]
 split
 ·exact⟨by omega,.inr zY,fun hh=>absurd hh zY⟩
 ·obtain⟨b1,b2,b3⟩:=Qhp ks (fun k hk=>ih k hk (hl.sub k hk)) (n+1+(h.x.size:Int)) (d+1) zY
  refine⟨b1,?_,fun hh=>?_⟩
  ·rcases b2 with b2 | b2
   ·exact .inl zY
   ·exact .inr b2
  ·have:=b3 hh
   simp only [wt];omega
theorem QcU {ks:List Nd}{z d:Int}(h:¬ z≤1048576):wgL ks z d=z:=by
 cases ks with
 | nil=>simp [wgL]
 | cons k ks=>simp only [wgL,if_neg h]
theorem VJ:∀ (m:Nd) (w:yW) (n d:Int),Lies w m→0≤n→n≤4503599627370496→0≤d→d≤60001→Calls zG 28 #[.agg m.vals,zI n,zI d] w fun e w'=>e=.returned (zI (wgE m n d))∧yD w w':=by
 refine Nd.ind fun h a c ks ih w n d hl h1 h2 h3 h4=>?_
 have HI:=zH ih
 have HL:=hl.hid
 have hx:=hl.rg.x1
 simp only [Nd.h] at hx
 show Calls zG 28 #[.agg (zX h a ks c),zI n,zI d] w _
 have HD:Hid (0≤d∧d≤60001∧0≤n∧n≤4503599627370496∧(h.x.size:Int)≤140737488355328):=⟨h3,h4,h1,h2,by omega⟩
 have g1:-9223372036854775808≤n+1:=by omega
 have g2:n+1≤jX:=by omega
 have g3:-9223372036854775808≤n+1+(h.x.size:Int):=by omega
 have g4:n+1+(h.x.size:Int)≤jX:=by omega
 have HN0:Hid (NdH (zA w (zX h a ks c) 38) w§ (.mk h a c ks)):=Qc w _
 have HW:Hid (¬ d > 60000→wgE (.mk h a c ks) n d=wgL ks (n+1+(h.x.size:Int)) (d+1)):=fun hd=>by rw [FK,if_neg hd]
 have HW0:Hid (d > 60000→wgE (.mk h a c ks) n d=1048577):=fun hd=>by rw [FK,if_pos hd]
 clear ih hl hx h1 h2 h3 h4
 by_cases hd:d > 60000
 ·go_enter func28,ntmps28
  go_wp2
  go_ret
  exact⟨(congrArg (fun x:Int=>Ending.returned (Value.int .i64 x)) (HW0.out hd)).symm,Qb _ _⟩
 ·have g5:d+1≤jX:=by have:=HD.out;omega
  have g6:-9223372036854775808≤d+1:=by have:=HD.out;omega
  go_enter func28,ntmps28
  go_wp2_with fail
  go_loopw [1,7] (fun v t wr=>∃ (i:Nat) (z:Int),i≤ks.length∧t=zI i∧v=zI z∧Below (zA w (zX h a ks c) 38)§ (zA w (zX h a ks c) 38) wr∧Hid (0≤z∧z≤4703599627370496∧wgL (ks.drop i) z (d+1)=wgE (.mk h a c ks) n d)) (fun _ t _=>ks.length - (intOf t).toNat)
  case atStart=>exact⟨0,n+1+(h.x.size:Int),by omega,rfl,rfl,Below.refl _ _,by have:=HD.out;omega,by have:=HD.out;omega,by rw [HW.out hd,List.drop_zero]⟩
  case round =>
   obtain⟨i,z,hi,rfl,rfl,hbr,HR⟩:=hrel
   have HBR:Hid (yD w wr):=Qd (Qb _ _) hbr
   have HBr:=zH hbr
   have hN:NdH wr w§ (.mk h a c ks):=HN0.out.on hbr
   have q6:zQ wr w§¢6 (.slice a ks.length c):=Qa hN 6
   clear hbr hN
   by_cases hlt:i < ks.length
   ·have hlt':(i:Int) < (ks.length:Int):=by omega
    by_cases hz:z≤1048576
    ·obtain⟨b,o,e1,hat⟩:=(HL.out.on HBR.out).kid i hlt
     have e2:a=some b¢o:=e1
     clear e1
     have hk1:NdAt wr b (o+i * 8) ks[i]:=hat
     clear hat
     have cI:=HI.out ks[i] (Ja hlt) wr z (d+1) ((HL.out.sub _ (Ja hlt)).on HBR.out) (by have h1:=HR.out;have h2:=HD.out;omega) zY (by have:=HD.out;omega) zY
     have HW2:Hid (wgL (ks.drop i) z (d+1)=wgL (ks.drop (i+1)) (wgE ks[i] z (d+1)) (d+1)):=by show _=_;rw [Kf hlt];simp only [wgL,if_pos hz]
     have HBd:Hid (WB ks[i]):=QcV _ (HL.out.sub _ (Ja hlt))
     have hmx:(i:Int)+1≤jX:=by
      have h1:=HL.out.max
      have h2:=HL.out.cap
      simp only [Nd.ks,Nd.c] at h1 h2
      omega
     obtain⟨k,ek⟩:∃ k,ks[i]=k:=jV
     rw [ek] at hk1 cI HW2 HBd
     subst e2
     obtain⟨y0,y1,y2,y3,y4,y5,y6,y7⟩:=hk1
     have cI:Calls zG 28 #[.agg (zV k),zI z,zI (d+1)] wr fun e w'=>e=.returned (zI (wgE k z (d+1)))∧yD wr w':=cI
     obtain⟨r,er⟩:∃ r,wgE k z (d+1)=r:=jV
     rw [er] at cI HW2
     have HER:Hid (wgE k z (d+1)=r):=er
     clear ek er
     go_wp2_with fail
     refine cI.mono ?_
     rintro e w5 ⟨rfl,hb5⟩
     have HB5:=zH (Qd HBr.out hb5)
     have HX:Hid (0≤r∧r≤4703599627370496∧wgL (ks.drop (i+1)) r (d+1)=wgE (.mk h (some b¢o) c ks) n d):=by
      have h1:=HBd.out z (d+1) HR.out.1
      rw [HER.out] at h1
      exact⟨h1.1,by rcases h1.2.1 with h2 | h2 <;> omega,by rw [← HW2.out];exact HR.out.2.2⟩
     clear hb5 cI y0 y1 y2 y3 y4 y5 y6 y7 q6
     go_wp2_with fail
     exact⟨⟨i+1,r,hlt,rfl,rfl,HB5.out,HX.out⟩,by simp only [intOf];omega⟩
    ·go_wp2
     go_ret
     exact⟨congrArg (fun x:Int=>Ending.returned (Value.int .i64 x)) ((QcU zY).symm.trans HR.out.2.2),HBR.out⟩
   ·obtain rfl:i=ks.length:=by omega
    have hnot:¬ (ks.length:Int) < (ks.length:Int):=by omega
    go_wp2
    go_ret
    exact⟨congrArg (fun x:Int=>Ending.returned (Value.int .i64 x)) (by have h9:=HR.out.2.2;rw [List.drop_length] at h9;simpa [wgL] using h9),HBR.out⟩
def Wgt (m:Nd) (n:Int) (r:Int):Prop:=0≤r∧r≤n+140737489403906∧(r≤1048576→r=n+wt m)
theorem QcT {w:yW}{m:Nd}(hl:Lies w m) {n:Int}(h1:0≤n):Wgt m n (wgE m n 0):=by
 obtain⟨a1,a2,a3⟩:=QcV m hl n 0 h1
 exact⟨a1,by rcases a2 with a2 | a2 <;> omega,a3⟩
theorem JP (m:Nd) (w:yW) (n:Int) (hl:Lies w m) (h1:0≤n) (h2:n≤4503599627370496):Calls zG 28 #[.agg m.vals,zI n,zI 0] w fun e w'=>(∃ r,e=.returned (zI r)∧Wgt m n r)∧yD w w':=by
 refine (VJ m w n 0 hl h1 h2 zY zY).mono ?_
 rintro e w' ⟨rfl,hb⟩
 exact⟨⟨_,rfl,QcT hl h1⟩,hb⟩
end Go.Proofs.YtfbjofnaghjmeaaGreatDoor
