import Derived.Test.YtfbjofnaghjmeaaGreatDoorA0
import Derived.Test.YtfbjofnaghjmeaaGreatDoorA6
import Derived.Defers
import Derived.Recover
import Derived.Laws.Pointers
import Derived.Test.YtfbjofnaghjmeaaGreatDoorA1
import Derived.Deep.QuietTactic
import Derived.BigQuiet
import Derived.Below
import Derived.WalkKit
import Derived.ProofKit
import Derived.OwnWalk
import Derived.WalkSmall
import Derived.Outline
import Derived.Deep.AppendLies
import Derived.Deep.RegionLaw
import Derived.Test.YtfbjofnaghjmeaaGreatDoorA2
import Derived.Deep.RegionHeld3
namespace Go.Proofs.YtfbjofnaghjmeaaGreatDoor
set_option maxHeartbeats 4000000
set_option maxRecDepth 100000
open Go.RowKit
theorem assert_hit (v:Value) (w:yW):(Instr.typeAssert (.iface 41 v) 20 41 true).run Tryz.prog w=.ok (.tuple #[v,.bool true]) w:=by
 simp [Instr.typeAssert,run_underlying Tryz.underlying41,go_sem,Result.andThen]
theorem assert_nil (w:yW):(Instr.typeAssert .nilIface 20 41 true).run Tryz.prog w=.ok (.tuple #[zI 0,.bool false]) w:=by
 simp [Instr.typeAssert,run_underlying Tryz.underlying41,go_sem,Result.andThen]
theorem catch_p (p:Addr) (y no:Int) (older:List PanicEntry) (w:yW) (hc:w.cell? p=some (zI y)) (hz:w.frozen? p=false) :
  CallsD Tryz.prog 156 #[.pointer (some p)] (.panicking ({ v:=.iface 41 (zI no),recovered:=false } :: older)) w fun e u' w' =>
   e=.returned (.tuple #[])∧u'=.panicking ({ v:=.iface 41 (zI no),recovered:=true } :: older)∧w'=w.setCell p (zI no):=by
 refine callsD_of_wpS Tryz.func156 rfl fun c₀ cs hu=>?_
 apply wpS_region
 simp [wpOpsS,go_sem,recoverD,hu,Tryz.ntmps156,hc,hz,assert_hit,Result.andThen,bodyPostS,results,Tryz.results156]
theorem catch_i (p:Addr) (y:Int) (w:yW) (hc:w.cell? p=some (zI y)) (hz:w.frozen? p=false) :
  CallsD Tryz.prog 156 #[.pointer (some p)] .returning w fun e u' w'=>e=.returned (.tuple #[])∧u'=.returning∧w'=w.setCell p (zI 0):=by
 refine callsD_of_wpS Tryz.func156 rfl fun c₀ cs hu=>?_
 apply wpS_region
 simp [wpOpsS,go_sem,recoverD,hu,Tryz.ntmps156,hc,hz,assert_nil,Result.andThen]
 cases c₀
 simp_all [bodyPostS,results,Tryz.results156]
theorem found_any (F:Nat) (hE:∀ args v,Sem.run Tryz.prog (callFunc F args) v=.ok (.enter F args) v) (cap:Array Value) (E:Int) (w:yW)
  (cF:∀ v,yD w v→Calls zG F cap v fun e w'=>((E=0∧e=.returned (.tuple #[]))∨(¬ E=0∧e=.panicked [{ v:=.iface 41 (zI E),recovered:=false }]))∧yD v w') :
  Calls zG 98 #[.func (.func F) #[] cap] w fun e w'=>e=.returned (zI E)∧yD w w':=by
 have hmf:∀ (fn:Fn) (first cap:Array Value) (w:yW),(Instr.makeFunc fn first cap).run Tryz.prog w=.ok (.func fn first cap) w:=fun _ _ _ _=>rfl
 by_cases h:E=0
 ·subst h
  have cG:∀ v,yD w v→Calls zG F cap v fun e w'=>e=.returned (.tuple #[])∧yD v w':=fun v hv=>(cF v hv).mono (by
   rintro e w' ⟨h1 | h1,h2⟩
   ·exact⟨h1.2,h2⟩
   ·exact absurd rfl h1.1)
  clear cF
  go_enter_defers Tryz.func98,Tryz.ntmps98
  go_wp2_with fail
  refine (cG _ (below_new _ _)).mono ?_
  rintro e w1 ⟨rfl,hb1⟩
  have hbk:=(hb1.block w§ (by simp)).trans (heap_new w _)
  have c0:w1.cell? w§¢0=some (zI 0):=cell_of hbk 0
  have f0:w1.frozen? w§¢0=false:=frozen_of hbk 0
  have HB1:Hid (yD w w1):=(below_new _ _).trans (hb1.mono (by simp))
  have HK:Hid (w1.heap[w§]? = (zC #[zI 0] 41)):=hbk
  clear hbk hb1
  go_wp2_with fail
  refine leaves_cons (f:=156) (args:=#[zP w§]) (by simp) (by simp [go_sem]) ?_
  refine (catch_i w§¢0 0 _ (cell_of (heap_set _ HK.out) 0) (frozen_of (heap_set _ HK.out) 0)).mono ?_
  rintro e u' w'' ⟨rfl,rfl,rfl⟩
  have h9:=heap_set (j:=0) (zI 0) (heap_set (j:=0) (zI 0) HK.out)
  have c9:((w1.setCell w§¢0 (zI 0)).setCell w§¢0 (zI 0)).cell? w§¢0=some (zI 0):=cell_of h9 0
  have b9:yD w ((w1.setCell w§¢0 (zI 0)).setCell w§¢0 (zI 0)):=(HB1.out.setCell (p:=w§¢0) (Nat.le_refl _) _).setCell (p:=w§¢0) (Nat.le_refl _) _
  simp [Leaves,settle,results,Tryz.results98,go_sem,c9,b9]
 ·have cG:∀ v,yD w v→Calls zG F cap v fun e w'=>e=.panicked [{ v:=.iface 41 (zI E),recovered:=false }]∧yD v w':=fun v hv=>(cF v hv).mono (by
   rintro e w' ⟨h1 | h1,h2⟩
   ·exact absurd h1.1 h
   ·exact⟨h1.2,h2⟩)
  clear cF
  go_enter_defers Tryz.func98,Tryz.ntmps98
  go_wp2_with fail
  refine (cG _ (below_new _ _)).mono ?_
  rintro e w1 ⟨rfl,hb1⟩
  have hbk:=(hb1.block w§ (by simp)).trans (heap_new w _)
  have c0:w1.cell? w§¢0=some (zI 0):=cell_of hbk 0
  have f0:w1.frozen? w§¢0=false:=frozen_of hbk 0
  have HB1:Hid (yD w w1):=(below_new _ _).trans (hb1.mono (by simp))
  have HK:Hid (w1.heap[w§]? = (zC #[zI 0] 41)):=hbk
  clear hbk hb1
  go_wp2_with fail
  refine leaves_cons (f:=156) (args:=#[zP w§]) (by simp) (by simp [go_sem]) ?_
  refine (catch_p w§¢0 0 E [] _ c0 f0).mono ?_
  rintro e u' w'' ⟨rfl,rfl,rfl⟩
  have h9:=heap_set (j:=0) (zI E) HK.out
  have c9:(w1.setCell w§¢0 (zI E)).cell? w§¢0=some (zI E):=cell_of h9 0
  have b9:yD w (w1.setCell w§¢0 (zI E)):=HB1.out.setCell (p:=w§¢0) (Nat.le_refl _) _
  simp [Leaves,settle,results,Tryz.results98,go_sem,c9,b9]
def Gives (F:Nat) (args:Array Value) (w:yW) (E:Int):Prop:=Calls zG F args w fun e w'=>((E=0∧e=.returned (.tuple #[]))∨(¬ E=0∧e=.panicked [{ v:=.iface 41 (zI E),recovered:=false }]))∧yD w w'
def fE (m:Nd):Int:=if formB m=true then 0 else 120
theorem form_gives {m:Nd}{w:yW}(hl:Lies w m) (ht:Tab w):Gives 157 #[.agg m.vals] w (fE m):=by
 refine (form_any m w hl ht).mono ?_
 rintro e w' ⟨rfl,hb⟩
 unfold fE endE
 cases formB m with
 | true=>exact⟨.inl ⟨rfl,rfl⟩,hb⟩
 | false=>exact⟨.inr ⟨by decide,rfl⟩,hb⟩
theorem Gives.zero {F:Nat}{args:Array Value}{w:yW}(c:Gives F args w 0):Calls zG F args w fun e w'=>e=.returned (.tuple #[])∧yD w w':=c.mono (by
 rintro e w' ⟨h1 | h1,h2⟩
 ·exact⟨h1.2,h2⟩
 ·exact absurd rfl h1.1)
theorem Gives.some {F:Nat}{args:Array Value}{w:yW}{E:Int}(h:¬ E=0) (c:Gives F args w E):Calls zG F args w fun e w'=>e=.panicked [{ v:=.iface 41 (zI E),recovered:=false }]∧yD w w':=c.mono (by
 rintro e w' ⟨h1 | h1,h2⟩
 ·exact absurd h1.1 h
 ·exact⟨h1.2,h2⟩)
def cE (m:Nd):Int:=if formB m=true then (if dep m≤24 then 0 else 122) else 120
theorem hbox (w:yW) (m:Nd):NdH (w.alloc (.cells m.vals 38)) w§ m:=heap_new w _
theorem needExpr_any (m:Nd) (w:yW) (hl:Lies w m) (hz:size m≤1000000000000) (ht:Tab w):Gives 100 #[.agg m.vals] w (cE m):=by
 have hN:=hbox w m
 have hb0:=below_new w (.cells m.vals 38)
 have c1:=form_gives (hl.on hb0) (ht.on hb0)
 have c2:=fun v (hv:yD w v)=>depth_any m v (hl.on hv) hz
 unfold Gives cE
 unfold fE at c1
 have HN:=hN.hid
 clear hl hz ht hN hb0
 obtain⟨B,eB⟩:∃ B,formB m=B:=⟨_,rfl⟩
 rw [eB] at c1 ⊢
 obtain⟨d,ed⟩:∃ d,dep m=d:=⟨_,rfl⟩
 simp only [ed] at c2 ⊢
 clear ed eB
 unfold Nd.vals hdA at c1 c2 HN ⊢
 cases B with
 | false =>
  rw [if_neg (by decide)] at c1 ⊢
  have c3:=Gives.some (by decide) c1
  clear c1
  go_enter Tryz.func100,Tryz.ntmps100
  go_wp2_with fail
  refine c3.mono ?_
  rintro e w1 ⟨rfl,hb⟩
  exact⟨rfl,.inr ⟨by decide,rfl⟩,(below_new _ _).trans (hb.mono (by simp))⟩
 | true =>
  rw [if_pos rfl] at c1
  have c3:=Gives.zero c1
  clear c1
  by_cases h:d≤24
  ·have h':(d:Int)≤24:=by omega
   rw [if_pos rfl,if_pos h]
   go_enter Tryz.func100,Tryz.ntmps100
   go_wp2_with fail
   refine c3.mono ?_
   rintro e w1 ⟨rfl,hb⟩
   obtain⟨q0,q1,q2,q3,q4,q5,q6,q7⟩:=box8 hb
   have HB1:Hid (yD w w1):=(below_new _ _).trans (hb.mono (by simp))
   clear hb c3
   go_wp2_with (go_at_call 159; refine (c2 _ HB1.out).mono ?_; rintro e w2 ⟨rfl,hb2⟩)
   refine (need_t 122 _).mono ?_
   rintro e w3 ⟨rfl,e4⟩
   obtain rfl:=e4.symm
   go_wp2_with fail
   go_end0
   first | exact⟨.inl ⟨rfl,rfl⟩,HB1.out.trans (hb2.mono HB1.out.size)⟩ | exact⟨.inl ⟨trivial,rfl⟩,HB1.out.trans (hb2.mono HB1.out.size)⟩
  ·have h':¬ (d:Int)≤24:=by omega
   rw [if_pos rfl,if_neg h]
   go_enter Tryz.func100,Tryz.ntmps100
   go_wp2_with fail
   refine c3.mono ?_
   rintro e w1 ⟨rfl,hb⟩
   obtain⟨q0,q1,q2,q3,q4,q5,q6,q7⟩:=box8 hb
   have HB1:Hid (yD w w1):=(below_new _ _).trans (hb.mono (by simp))
   clear hb c3
   go_wp2_with (go_at_call 159; refine (c2 _ HB1.out).mono ?_; rintro e w2 ⟨rfl,hb2⟩)
   rw [show decide ((d:Int)≤24)=false from decide_eq_false (by omega)]
   refine (need_f 122 _).mono ?_
   rintro e w3 ⟨rfl,e4⟩
   obtain rfl:=e4.symm
   exact⟨rfl,.inr ⟨by decide,rfl⟩,HB1.out.trans (hb2.mono HB1.out.size)⟩
theorem alike_eq {g h:Hd}(e:alike g h=true):selfA h=selfA g:=by
 unfold alike at e
 simp only [Bool.and_eq_true,decide_eq_true_eq] at e
 obtain⟨e0,e1,e2,e3,e4,e5⟩:=e
 unfold selfA
 rw [← e0,← e1,← e2,← e3,← e4,← e5]
theorem enter21 (args:Array Value) (v:yW):Sem.run Tryz.prog (callFunc 247 args) v=.ok (.enter 247 args) v:=by kernel_rfl
theorem eqf_any (js ks:List Nd) (a b:Option Addr) (c d:Nat) (hj:js.length≤c) (hjm:c≤9223372036854775807)
  (ih:∀ j ∈ js,∀ (k:Nd) (w:yW),Lies w j→Lies w k→Calls zG 247 #[.agg j.vals,.agg k.vals] w fun e w'=>e=.returned (.bool (sameB j k))∧yD w w')
  (g h:Hd) (w:yW) (hl:Lies w (.mk g a c js)) (hk:Lies w (.mk h b d ks)) :
  Calls zG 250 #[.slice a js.length c,.slice b ks.length d,.func (.func 247) #[] #[]] w fun e w'=>e=.returned (.bool (decide (js.length=ks.length) && samesB js ks))∧yD w w':=by
 by_cases hn:js.length=ks.length
 ·rw [decide_eq_true hn,Bool.true_and]
  have hn':((js.length:Int) != (ks.length:Int))=false:=by simp; omega
  have hn2:(js.length:Int)=(ks.length:Int):=by omega
  have HN:Hid (js.length=ks.length):=hn
  have HL:=hl.hid
  have HK:=hk.hid
  have HI:Hid (∀ j ∈ js,∀ (k:Nd) (w:yW),Lies w j→Lies w k→Calls zG 247 #[.agg j.vals,.agg k.vals] w fun e w'=>e=.returned (.bool (sameB j k))∧yD w w'):=ih
  obtain⟨L,eL⟩:∃ L,ks.length=L:=⟨_,rfl⟩
  rw [eL] at hn hn' hn2 HN ⊢
  have HEL:Hid (ks.length=L):=eL
  have e1:js.length=L:=hn
  rw [e1] at hn' hn2 hj ⊢
  have HJL:Hid (js.length=L):=e1
  clear hl hk ih hn eL e1 HN hn2
  have hn':((L:Int) != (L:Int))=false:=by simp
  go_enter Tryz.func250,Tryz.ntmps250
  go_wp2_with fail
  go_loopw [7,8,9,17] (fun _ _ _ t wr=>∃ i:Nat,i≤L∧t=zI i∧yD w wr∧Hid (samesB js ks=samesB (js.drop i) (ks.drop i))) (fun _ _ _ t _=>L - (intOf t).toNat)
  case atStart=>exact⟨0,by omega,rfl,Below.refl _ _,by show _=_; simp⟩
  case round =>
   obtain⟨i,hi,rfl,hbr,HR⟩:=hrel
   have HBR:Hid (yD w wr):=hbr
   clear hbr
   by_cases hlt:i < L
   ·have hlt':(i:Int) < (L:Int):=by omega
    have h1:i < js.length:=by rw [HJL.out]; exact hlt
    have h2:i < ks.length:=by rw [HEL.out]; exact hlt
    obtain⟨b1,o1,e1,hat1⟩:=(HL.out.on HBR.out).kid i h1
    obtain⟨b2,o2,e2,hat2⟩:=(HK.out.on HBR.out).kid i h2
    have e1':a=some b1¢o1:=e1
    have e2':b=some b2¢o2:=e2
    have cI:=HI.out js[i] (nth_mem h1) ks[i]
    have HLj:Hid (Lies w js[i]):=HL.out.sub js[i] (nth_mem h1)
    have HLk:Hid (Lies w ks[i]):=HK.out.sub ks[i] (nth_mem h2)
    have HD:Hid (samesB js ks=(sameB js[i] ks[i] && samesB (js.drop (i+1)) (ks.drop (i+1)))):=by show _=_; rw [HR.out,drop_nth h1,drop_nth h2]; rfl
    have hj1:NdAt wr b1 (o1+i * 8) js[i]:=hat1
    have hk1:NdAt wr b2 (o2+i * 8) ks[i]:=hat2
    clear hat1 hat2
    obtain⟨j,ej⟩:∃ j,js[i]=j:=⟨_,rfl⟩
    obtain⟨k,ek⟩:∃ k,ks[i]=k:=⟨_,rfl⟩
    rw [ej] at hj1 HD HLj cI
    rw [ek] at hk1 HD HLk cI
    clear e1 e2
    subst e1' e2'
    obtain⟨y0,y1,y2,y3,y4,y5,y6,y7⟩:=hj1
    have hat2':NdAt (wr.alloc (.cells (zV j) 38)) b2 (o2+i * 8) k:=hk1.on (below_new _ _)
    obtain⟨z0,z1,z2,z3,z4,z5,z6,z7⟩:=hat2'
    have hb2:=hk1.lt
    obtain⟨B,eB⟩:∃ B,sameB j k=B:=⟨_,rfl⟩
    rw [eB] at HD cI
    have hmx:(i:Int)+1≤9223372036854775807:=by omega
    have cI:∀ v,Lies v j→Lies v k→Calls zG 247 #[.agg (zV j),.agg (zV k)] v fun e w'=>e=.returned (.bool B)∧yD v w':=cI
    have hj21:=fun args v=>enter21 args v
    clear eB ej ek HR hk1 h1 h2
    cases B with
    | true =>
     go_wp2_with (with_reducible refine (cI _ (HLj.out.on (below2T HBR.out (below_two _ _ _))) (HLk.out.on (below2T HBR.out (below_two _ _ _)))).mono ?_; rintro e w5 ⟨rfl,hb5⟩)
     have HB5:Hid (yD w w5):=below2T (below2T HBR.out (below_two _ _ _)) hb5
     exact⟨⟨i+1,hlt,rfl,HB5.out,by show _=_; rw [HD.out]; rfl⟩,by simp only [intOf]; omega⟩
    | false =>
     go_wp2_with (with_reducible refine (cI _ (HLj.out.on (below2T HBR.out (below_two _ _ _))) (HLk.out.on (below2T HBR.out (below_two _ _ _)))).mono ?_; rintro e w5 ⟨rfl,hb5⟩)
     go_ret
     exact⟨by rw [HD.out]; rfl,below2T (below2T HBR.out (below_two _ _ _)) hb5⟩
   ·obtain rfl:i=L:=by omega
    have hnot:¬ (i:Int) < (i:Int):=by omega
    have HE:Hid (samesB js ks=true):=by show _=_; rw [HR.out,← HJL.out,List.drop_length]; rfl
    clear HR
    go_wp2_with fail
    go_ret
    exact⟨by rw [HE.out]; rfl,HBR.out⟩
 ·rw [decide_eq_false hn,Bool.false_and]
  have hn':((js.length:Int) != (ks.length:Int))=true:=by simp; omega
  clear hl hk ih
  go_enter Tryz.func250,Tryz.ntmps250
  go_wp2_with fail
  go_ret
  exact⟨rfl,Below.refl _ _⟩
theorem below2of (w:yW) (m k:Nd):NdH ((w.alloc (.cells m.vals 38)).alloc (.cells k.vals 38)) w§ m∧NdH ((w.alloc (.cells m.vals 38)).alloc (.cells k.vals 38)) (w§+1) k:=by
 refine⟨heap_old (heap_new _ _) (by rw [size_alloc]; omega),?_⟩
 unfold NdH
 rw [← size_alloc w (.cells m.vals 38)]; exact heap_new _ _
theorem same_any:∀ (m k:Nd) (w:yW),Lies w m→Lies w k→Calls zG 247 #[.agg m.vals,.agg k.vals] w fun e w'=>e=.returned (.bool (sameB m k))∧yD w w':=by
 refine Nd.ind fun g a c js ih k w hl hk=>?_
 have cE:∀ v,yD w v→Calls zG 250 #[.slice a js.length c,.slice k.a k.ks.length k.c,.func (.func 247) #[] #[]] v fun e w'=>e=.returned (.bool (decide (js.length=k.ks.length) && samesB js k.ks))∧yD v w':=fun v hv=>by
  obtain⟨h,b,d,ks⟩:=k
  exact eqf_any js ks a b c d hl.cap hl.max (fun j hj k w h1 h2=>ih j hj k w h1 h2) g h v (hl.on hv) (hk.on hv)
 obtain⟨m,em⟩:∃ m,Nd.mk g a c js=m:=⟨_,rfl⟩
 have HS:Hid (sameB m k=(alike m.h k.h && (decide (m.ks.length=k.ks.length) && samesB m.ks k.ks))):=by show _=_; rw [← em]; rfl
 have cE:∀ v,yD w v→Calls zG 250 #[.slice m.a m.ks.length m.c,.slice k.a k.ks.length k.c,.func (.func 247) #[] #[]] v fun e w'=>e=.returned (.bool (decide (m.ks.length=k.ks.length) && samesB m.ks k.ks))∧yD v w':=by rw [← em]; exact cE
 rw [em]
 clear em ih hl hk
 have cS:∀ v,Calls zG 185 #[.agg (zV m)] v fun e w'=>e=.returned (.agg #[zU m.h.k,zU m.h.o,zU m.h.t,zI m.h.n,zU m.h.f,.string m.h.x])∧yD v w':=fun v=>selfOf_any m.h m.a m.ks.length m.c v
 have cT:∀ v,Calls zG 185 #[.agg (zV k)] v fun e w'=>e=.returned (.agg #[zU k.h.k,zU k.h.o,zU k.h.t,zI k.h.n,zU k.h.f,.string k.h.x])∧yD v w':=fun v=>selfOf_any k.h k.a k.ks.length k.c v
 obtain⟨B,eB⟩:∃ B,(decide (m.ks.length=k.ks.length) && samesB m.ks k.ks)=B:=⟨_,rfl⟩
 simp only [eB] at cE
 rw [eB] at HS
 obtain⟨A,eA⟩:∃ A,alike m.h k.h=A:=⟨_,rfl⟩
 have HA:Hid (alike m.h k.h=A):=eA
 rw [eA] at HS
 clear eB eA
 obtain⟨X,eX⟩:∃ X,(w.alloc (.cells m.vals 38)).alloc (.cells k.vals 38)=X:=⟨_,rfl⟩
 have HKX:Hid (KK X w§ (w§+1) m k):=by rw [← eX]; exact⟨(below2of w m k).1,(below2of w m k).2⟩
 have HBX:Hid (yD w X):=by rw [← eX]; exact below_two _ _ _
 unfold Nd.vals hdA at eX
 show Calls zG 247 #[.agg (zV m),.agg (zV k)] w _
 go_enter Tryz.func247,Tryz.ntmps247
 go_wp2_with fail
 clear eX
 cases A with
 | true =>
  have hs:=alike_eq HA.out
  unfold selfA at hs
  simp only [hs] at cT
  clear hs
  refine wp_region_held_drew (S:=(fun v=>v.cell? w§¢0=some (zU m.h.k)∧v.cell? w§¢1=some (zU m.h.o)∧v.cell? w§¢2=some (zU m.h.t)∧v.cell? w§¢3=some (zI m.h.n)∧v.cell? w§¢4=some (zU m.h.f)∧v.cell? w§¢5=some (.string m.h.x)∧v.cell? w§¢6=some (.slice m.a m.ks.length m.c)∧v.cell? w§¢7=some (zI m.h.p)∧v.cell? ⟨(w§+1),0,none⟩=some (zU k.h.k)∧v.cell? ⟨(w§+1),1,none⟩=some (zU k.h.o)∧v.cell? ⟨(w§+1),2,none⟩=some (zU k.h.t)∧v.cell? ⟨(w§+1),3,none⟩=some (zI k.h.n)∧v.cell? ⟨(w§+1),4,none⟩=some (zU k.h.f)∧v.cell? ⟨(w§+1),5,none⟩=some (.string k.h.x)∧v.cell? ⟨(w§+1),6,none⟩=some (.slice k.a k.ks.length k.c)∧v.cell? ⟨(w§+1),7,none⟩=some (zI k.h.p)∧GB X v)) zK (HKX.out.keep (by (repeat (first | with_reducible assumption | with_reducible exact GB.refl _ | with_reducible apply GB.drew | with_reducible apply GB.alloc | with_reducible refine GB.call (by with_reducible assumption) ?_)))) (fun hHeld=>?_)
  refine wpAnyH_take (i:=0) (v:=?_) rfl zK zK zK (fun _ _ _ h=>h) (Or.inl ⟨by rfl,?_⟩) (by assumption) ?_
  rotate_left
  ·(intro w hSw; (try dsimp only at hSw); go_simp; try (with_reducible rfl))
  try simp [Act.put]
  refine wpAnyH_take (i:=2) (v:=?_) rfl zK zK zK (fun _ _ _ h=>h) (Or.inl ⟨by rfl,?_⟩) (by assumption) ?_
  rotate_left
  ·(intro w hSw; (try dsimp only at hSw); go_simp; try (with_reducible rfl))
  try simp [Act.put]
  refine wpAnyH_ready (rs:=[1]) zK (by simp) ?_
  refine AllReadyH.cons rfl (fun K hK=>?_) AllReadyH.nil
  go_simp
  refine (cS _).mono ?_
  rintro e w2 ⟨rfl,hb2⟩
  have hg2:GB X w2:=GB.call hb2 (by (repeat (first | with_reducible assumption | with_reducible exact GB.refl _ | with_reducible apply GB.drew | with_reducible apply GB.alloc | with_reducible refine GB.call (by with_reducible assumption) ?_)))
  have HG2:Hid (GB X w2):=hg2
  go_simp
  refine hK.out _ _ ?_ (fun hHeld=>?_)
  ·exact HKX.out.keep hg2
  clear hK K
  try simp [Act.put]
  refine wpAnyH_ready (rs:=[3]) zK (by simp) ?_
  refine AllReadyH.cons rfl (fun K hK=>?_) AllReadyH.nil
  go_simp
  refine (cT _).mono ?_
  rintro e w3 ⟨rfl,hb3⟩
  have hg3:GB X w3:=GB.call hb3 HG2.out
  have HG3:Hid (GB X w3):=hg3
  go_simp
  refine hK.out _ _ ?_ (fun hHeld=>?_)
  ·exact HKX.out.keep hg3
  clear hK K
  try simp [Act.put]
  refine wpAnyH_take (i:=4) (v:=?_) rfl zK zK zK (fun _ _ _ h=>h) (Or.inl ⟨by rfl,?_⟩) (by assumption) ?_
  rotate_left
  ·(intro w hSw; (try dsimp only at hSw); go_simp; try (with_reducible rfl))
  try simp [Act.put]
  refine wpAnyH_take (i:=5) (v:=?_) rfl zK zK zK (fun _ _ _ h=>h) (Or.inl ⟨by rfl,?_⟩) (by assumption) ?_
  rotate_left
  ·(intro w hSw; (try dsimp only at hSw); go_simp; try (with_reducible rfl))
  try simp [Act.put]
  refine wpAnyH_take (i:=6) (v:=?_) rfl zK zK zK (fun _ _ _ h=>h) (Or.inl ⟨by rfl,?_⟩) (by assumption) ?_
  rotate_left
  ·(intro w hSw; (try dsimp only at hSw); go_simp; try (with_reducible rfl))
  try simp [Act.put]
  refine wpAnyH_take (i:=7) (v:=?_) rfl zK zK zK (fun _ _ _ h=>h) (Or.inl ⟨by rfl,?_⟩) (by assumption) ?_
  rotate_left
  ·(intro w hSw; (try dsimp only at hSw); go_simp; try (with_reducible rfl))
  try simp [Act.put]
  refine wpAnyH_take (i:=8) (v:=?_) rfl zK zK zK (fun _ _ _ h=>h) (Or.inl ⟨by rfl,?_⟩) (by assumption) ?_
  rotate_left
  ·(intro w hSw; (try dsimp only at hSw); go_simp; try (with_reducible rfl))
  try simp [Act.put]
  refine wpAnyH_take (i:=9) (v:=?_) rfl zK zK zK (fun _ _ _ h=>h) (Or.inl ⟨by rfl,?_⟩) (by assumption) ?_
  rotate_left
  ·(intro w hSw; (try dsimp only at hSw); go_simp; try (with_reducible rfl))
  try simp [Act.put]
  refine wpAnyH_ready (rs:=[10]) zK (by simp) ?_
  refine AllReadyH.cons rfl (fun K hK=>?_) AllReadyH.nil
  go_simp
  refine (cE _ (below2T HBX.out HG3.out)).mono ?_
  rintro e w4 ⟨rfl,hb4⟩
  have hg4:GB X w4:=GB.call hb4 HG3.out
  have HG4:Hid (GB X w4):=hg4
  go_simp
  refine hK.out _ _ ?_ (fun hHeld=>?_)
  ·exact HKX.out.keep hg4
  clear hK K
  try simp [Act.put]
  refine wpAnyH_take (i:=11) (v:=?_) rfl zK zK zK (fun _ _ _ h=>h) (Or.inl ⟨by rfl,?_⟩) (by assumption) ?_
  rotate_left
  ·(intro w hSw; (try dsimp only at hSw); go_simp; try (with_reducible rfl))
  try simp [Act.put]
  refine wpAnyH_take (i:=12) (v:=?_) rfl zK zK zK (fun _ _ _ h=>h) (Or.inl ⟨by rfl,?_⟩) (by assumption) ?_
  rotate_left
  ·(intro w hSw; (try dsimp only at hSw); go_simp; try (with_reducible rfl))
  try simp [Act.put]
  refine wpAnyH_done zK ?_ _
  have HV:Hid (yD w w4):=below2T HBX.out HG4.out
  clear hHeld hb2 hb3 hg2 hg3 hb4 hg4
  go_wp2_with fail
  go_ret
  exact⟨by rw [HS.out]; cases B <;> rfl,HV.out⟩
 | false =>
  refine wp_region_held_drew (S:=(fun v=>v.cell? w§¢0=some (zU m.h.k)∧v.cell? w§¢1=some (zU m.h.o)∧v.cell? w§¢2=some (zU m.h.t)∧v.cell? w§¢3=some (zI m.h.n)∧v.cell? w§¢4=some (zU m.h.f)∧v.cell? w§¢5=some (.string m.h.x)∧v.cell? w§¢6=some (.slice m.a m.ks.length m.c)∧v.cell? w§¢7=some (zI m.h.p)∧v.cell? ⟨(w§+1),0,none⟩=some (zU k.h.k)∧v.cell? ⟨(w§+1),1,none⟩=some (zU k.h.o)∧v.cell? ⟨(w§+1),2,none⟩=some (zU k.h.t)∧v.cell? ⟨(w§+1),3,none⟩=some (zI k.h.n)∧v.cell? ⟨(w§+1),4,none⟩=some (zU k.h.f)∧v.cell? ⟨(w§+1),5,none⟩=some (.string k.h.x)∧v.cell? ⟨(w§+1),6,none⟩=some (.slice k.a k.ks.length k.c)∧v.cell? ⟨(w§+1),7,none⟩=some (zI k.h.p)∧GB X v)) zK (HKX.out.keep (by (repeat (first | with_reducible assumption | with_reducible exact GB.refl _ | with_reducible apply GB.drew | with_reducible apply GB.alloc | with_reducible refine GB.call (by with_reducible assumption) ?_)))) (fun hHeld=>?_)
  refine wpAnyH_take (i:=0) (v:=?_) rfl zK zK zK (fun _ _ _ h=>h) (Or.inl ⟨by rfl,?_⟩) (by assumption) ?_
  rotate_left
  ·(intro w hSw; (try dsimp only at hSw); go_simp; try (with_reducible rfl))
  try simp [Act.put]
  refine wpAnyH_take (i:=2) (v:=?_) rfl zK zK zK (fun _ _ _ h=>h) (Or.inl ⟨by rfl,?_⟩) (by assumption) ?_
  rotate_left
  ·(intro w hSw; (try dsimp only at hSw); go_simp; try (with_reducible rfl))
  try simp [Act.put]
  refine wpAnyH_ready (rs:=[1]) zK (by simp) ?_
  refine AllReadyH.cons rfl (fun K hK=>?_) AllReadyH.nil
  go_simp
  refine (cS _).mono ?_
  rintro e w2 ⟨rfl,hb2⟩
  have hg2:GB X w2:=GB.call hb2 (by (repeat (first | with_reducible assumption | with_reducible exact GB.refl _ | with_reducible apply GB.drew | with_reducible apply GB.alloc | with_reducible refine GB.call (by with_reducible assumption) ?_)))
  have HG2:Hid (GB X w2):=hg2
  go_simp
  refine hK.out _ _ ?_ (fun hHeld=>?_)
  ·exact HKX.out.keep hg2
  clear hK K
  try simp [Act.put]
  refine wpAnyH_ready (rs:=[3]) zK (by simp) ?_
  refine AllReadyH.cons rfl (fun K hK=>?_) AllReadyH.nil
  go_simp
  refine (cT _).mono ?_
  rintro e w3 ⟨rfl,hb3⟩
  have hg3:GB X w3:=GB.call hb3 HG2.out
  have HG3:Hid (GB X w3):=hg3
  go_simp
  refine hK.out _ _ ?_ (fun hHeld=>?_)
  ·exact HKX.out.keep hg3
  clear hK K
  try simp [Act.put]
  refine wpAnyH_take (i:=4) (v:=.bool false) rfl zK zK zK (fun _ _ _ h=>h) (Or.inl ⟨by rfl,?_⟩) (by assumption) ?_
  ·(intro w hSw; (try dsimp only at hSw); go_simp; exact neq6 HA.out)
  try simp [Act.put]
  refine wpAnyH_take (i:=5) (v:=?_) rfl zK zK zK (fun _ _ _ h=>h) (Or.inl ⟨by rfl,?_⟩) (by assumption) ?_
  rotate_left
  ·(intro w hSw; (try dsimp only at hSw); go_simp; try (with_reducible rfl))
  try simp [Act.put]
  refine wpAnyH_take (i:=6) (v:=?_) rfl zK zK zK (fun _ _ _ h=>h) (Or.inr ⟨by rfl,?_⟩) (by assumption) ?_
  rotate_left
  ·rfl
  try simp [Act.put]
  refine wpAnyH_take (i:=7) (v:=?_) rfl zK zK zK (fun _ _ _ h=>h) (Or.inr ⟨by rfl,?_⟩) (by assumption) ?_
  rotate_left
  ·rfl
  try simp [Act.put]
  refine wpAnyH_take (i:=8) (v:=?_) rfl zK zK zK (fun _ _ _ h=>h) (Or.inr ⟨by rfl,?_⟩) (by assumption) ?_
  rotate_left
  ·rfl
  try simp [Act.put]
  refine wpAnyH_take (i:=9) (v:=?_) rfl zK zK zK (fun _ _ _ h=>h) (Or.inr ⟨by rfl,?_⟩) (by assumption) ?_
  rotate_left
  ·rfl
  try simp [Act.put]
  refine wpAnyH_take (i:=10) (v:=?_) rfl zK zK zK (fun _ _ _ h=>h) (Or.inr ⟨by rfl,?_⟩) (by assumption) ?_
  rotate_left
  ·rfl
  try simp [Act.put]
  refine wpAnyH_take (i:=11) (v:=?_) rfl zK zK zK (fun _ _ _ h=>h) (Or.inl ⟨by rfl,?_⟩) (by assumption) ?_
  rotate_left
  ·(intro w hSw; (try dsimp only at hSw); go_simp; try (with_reducible rfl))
  try simp [Act.put]
  refine wpAnyH_take (i:=12) (v:=?_) rfl zK zK zK (fun _ _ _ h=>h) (Or.inl ⟨by rfl,?_⟩) (by assumption) ?_
  rotate_left
  ·(intro w hSw; (try dsimp only at hSw); go_simp; try (with_reducible rfl))
  try simp [Act.put]
  refine wpAnyH_done zK ?_ _
  have HV:Hid (yD w w3):=below2T HBX.out HG3.out
  clear hHeld hb2 hb3 hg2 hg3
  go_wp2_with fail
  go_ret
  exact⟨by rw [HS.out]; rfl,HV.out⟩
def nd0T:Nd:=.mk hdN none 0 []
theorem lies0T (w:yW):Lies w nd0T:=.mk _ _ _ _ ⟨by decide,by decide,by decide,by decide,by decide,by decide,by decide,by decide,by decide,by decide,by decide,by decide,by decide⟩ (Nat.le_refl _) (by decide) (fun i hi=>by simp at hi) (fun k hk=>by cases hk)
theorem count_ok (n l m:Int) (h1:l≤n) (h2:n≤m) (w:yW):Calls zG 178 #[zI n,zI l,zI m] w fun e w'=>e=.returned (.tuple #[])∧w'=w:=by
 have d1:decide (l≤n)=true:=decide_eq_true h1
 have d2:decide (n≤m)=true:=decide_eq_true h2
 go_enter Tryz.func178,Tryz.ntmps178
 go_wp2_with (go_at_call 158; refine (need_t _ _).mono ?_; rintro e w3 ⟨rfl,e4⟩; obtain rfl:=e4.symm)
 go_end0
 exact⟨rfl,rfl⟩
structure PK where
 a:Option Addr
 c:Nat
 T:List Tk
 be:Int
 ba:Int
 lg:Bool
structure Pr (w:yW) (b:Nat) (K:PK) (i:Nat) (e p:Int) (t:Bool):Prop where
 h:w.heap[b]? = (zC #[.slice K.a K.T.length K.c,zI K.be,zI K.ba,zI i,zI e,zI p,.bool t] 168)
 l:i≤K.T.length
 m:K.T.length≤1000000
 z:K.lg=true→e=110∧p=0∧t=true
 r:∀ j (hj:j < K.T.length),∃ G o,K.a=some G¢o∧G≠b∧TkC w G (o+j * 5) K.T[j]
theorem Pr.hid {w:yW}{b:Nat}{K:PK}{i:Nat}{e p:Int}{t:Bool}(h:Pr w b K i e p t):Hid (Pr w b K i e p t):=h
theorem Pr.lt {w:yW}{b:Nat}{K:PK}{i:Nat}{e p:Int}{t:Bool}(h:Pr w b K i e p t):b < w§:=(zJ h.h).1
theorem Pr.new {w w':yW}{b:Nat}{K:PK}{i:Nat}{e p:Int}{t:Bool}(h:Pr w b K i e p t) (k:∀ c,c≠b→c < w§→w'.heap[c]? = w.heap[c]?) {i':Nat}{e' p':Int}{t':Bool}(hl:i'≤K.T.length) (hz:K.lg=true→e'=110∧p'=0∧t'=true) (hh:w'.heap[b]? = (zC #[.slice K.a K.T.length K.c,zI K.be,zI K.ba,zI i',zI e',zI p',.bool t'] 168)):Pr w' b K i' e' p' t' :=
 ⟨hh,hl,h.m,hz,fun j hj=>by
  obtain⟨G,o,e,hn,ht⟩:=h.r j hj
  exact⟨G,o,e,hn,ht.blk (k G hn ht.lt)⟩⟩
theorem Pr.on {w w':yW}{b:Nat}{K:PK}{i:Nat}{e p:Int}{t:Bool}(h:Pr w b K i e p t) (k:yD w w'):Pr w' b K i e p t :=
 h.new (fun c _ hc=>k.block c hc) h.l h.z ((k.block b h.lt).trans h.h)
theorem Pr.blk {w w':yW}{b:Nat}{K:PK}{i:Nat}{e p:Int}{t:Bool}(h:Pr w b K i e p t) (k:∀ c,c < w§→w'.heap[c]? = w.heap[c]?):Pr w' b K i e p t :=
 h.new (fun c _ hc=>k c hc) h.l h.z ((k b h.lt).trans h.h)
def Lv (w:yW) (b:Nat) (K:PK) (ts:List Tk):Prop:=∃ i p t,Pr w b K i 0 p t∧ts=K.T.drop i
def Dd (w:yW) (b:Nat) (K:PK):Ft→Prop
 | .tok no p=>∃ i,Pr w b K i no p false∧no≠0
 | .lex=>∃ e p t,Pr w b K K.T.length e p t∧(e=0∨(e=K.be∧p=K.ba∧t=true)∨K.lg=true)
theorem Lv.hid {w:yW}{b:Nat}{K:PK}{ts:List Tk}(h:Lv w b K ts):Hid (Lv w b K ts):=h
theorem Dd.hid {w:yW}{b:Nat}{K:PK}{f:Ft}(h:Dd w b K f):Hid (Dd w b K f):=h
theorem Lv.on {w w':yW}{b:Nat}{K:PK}{ts:List Tk}(h:Lv w b K ts) (k:yD w w'):Lv w' b K ts:=by
 obtain⟨i,p,t,h1,h2⟩:=h
 exact⟨i,p,t,h1.on k,h2⟩
theorem Dd.on {w w':yW}{b:Nat}{K:PK}{f:Ft}(h:Dd w b K f) (k:yD w w'):Dd w' b K f:=by
 cases f with
 | tok no p=>obtain⟨i,h1,h2⟩:=h; exact⟨i,h1.on k,h2⟩
 | lex=>obtain⟨e,p,t,h1,h2⟩:=h; exact⟨e,p,t,h1.on k,h2⟩
theorem Lv.blk {w w':yW}{b:Nat}{K:PK}{ts:List Tk}(h:Lv w b K ts) (k:∀ c,c < w§→w'.heap[c]? = w.heap[c]?):Lv w' b K ts:=by
 obtain⟨i,p,t,h1,h2⟩:=h
 exact⟨i,p,t,h1.blk k,h2⟩
theorem Dd.blk {w w':yW}{b:Nat}{K:PK}{f:Ft}(h:Dd w b K f) (k:∀ c,c < w§→w'.heap[c]? = w.heap[c]?):Dd w' b K f:=by
 cases f with
 | tok no p=>obtain⟨i,h1,h2⟩:=h; exact⟨i,h1.blk k,h2⟩
 | lex=>obtain⟨e,p,t,h1,h2⟩:=h; exact⟨e,p,t,h1.blk k,h2⟩
theorem Lv.lt {w:yW}{b:Nat}{K:PK}{ts:List Tk}(h:Lv w b K ts):b < w§:=by
 obtain⟨i,p,t,h1,h2⟩:=h
 exact h1.lt
theorem Dd.lt {w:yW}{b:Nat}{K:PK}{f:Ft}(h:Dd w b K f):b < w§:=by
 cases f with
 | tok no p=>obtain⟨i,h1,h2⟩:=h; exact h1.lt
 | lex=>obtain⟨e,p,t,h1,h2⟩:=h; exact h1.lt
theorem Lv.end {w:yW}{b:Nat}{K:PK}(h:Lv w b K []):Dd w b K .lex:=by
 obtain⟨i,p,t,h1,h2⟩:=h
 have hl:=h1.l
 have:i=K.T.length:=by
  have:=congrArg List.length h2
  simp at this
  omega
 subst this
 exact⟨0,p,t,h1,.inl rfl⟩
theorem over_no {w:yW}{b:Nat}{K:PK}{i:Nat}{p:Int}{t:Bool}(h:Pr w b K i 0 p t) :
  Calls zG 87 #[zP b] w fun e w'=>e=.returned (.bool false)∧w'=w:=by
 have c4:w.cell? b¢4=some (zI 0):=cell_of h.h 4
 clear h
 go_enter Tryz.func87,Tryz.ntmps87
 go_wp2_with fail
 go_ret
 exact⟨rfl,rfl⟩
theorem now_live {w:yW}{b:Nat}{K:PK}{i:Nat}{p:Int}{t:Bool}{tk:Tk}(h:Pr w b K i 0 p t) (hg:K.T[i]? = some tk) :
  Calls zG 173 #[zP b] w fun e w'=>e=.returned (.agg (tkA tk))∧yD w w':=by
 obtain⟨hi,etk⟩:=List.getElem?_eq_some_iff.1 hg
 clear hg
 obtain⟨G,o,ea,hn,ht⟩:=h.r i hi
 rw [etk] at ht
 have hGw:=ht.lt
 have hbw:=h.lt
 have HTK:Hid (TkC w G (o+i * 5) tk):=ht
 clear ht etk
 have HP:=(h.on (below_new w (.cells (tkA tk0) 233))).hid
 have HB:Hid (yD w (w.alloc (.cells (tkA tk0) 233))):=below_new _ _
 have HN:Hid ((w.alloc (.cells (tkA tk0) 233)).heap[w§]? = (zC (tkA tk0) 233)):=heap_new _ _
 clear h
 unfold tkA tk0 at HP HB HN
 go_enter Tryz.func173,Tryz.ntmps173
 go_upto_region 1 with fail
 obtain⟨W,eW⟩:∃ W,w.alloc (.cells zt 233)=W:=⟨_,rfl⟩
 rw [eW] at HP HB HN ⊢
 clear eW
 have c0:W.cell? b¢0=some (.slice K.a K.T.length K.c):=cell_of HP.out.h 0
 have c3:W.cell? b¢3=some (zI i):=cell_of HP.out.h 3
 have hd:¬ (K.T.length:Int)≤(i:Int):=by omega
 have hd':decide ((K.T.length:Int)≤(i:Int))=false:=decide_eq_false hd
 go_quiet ((go_at_call 87; refine Calls.quiet_of_same (over_no (HP.out.blk (fun _ _=>rfl)))))
 obtain⟨V,eV⟩:∃ V,W.drewN nq=V:=⟨_,rfl⟩
 have hV0:V.heap[w§]? = (zC zt 233):=by rw [← eV]; exact HN.out
 have HBV:Hid (yD w V):=by
  have h1:=HB.out
  rw [← eV]
  exact⟨h1.os,h1.tape,h1.output,h1.size,h1.block⟩
 rw [eV]
 clear c0 c3
 have HPV:=(HP.out.blk (w':=V) (fun _ _=>by rw [← eV]; rfl)).hid
 clear eV HP
 obtain⟨y0,y1,y2,y3,y4⟩:=HTK.out.blk (HBV.out.block G hGw)
 have c0:V.cell? b¢0=some (.slice (some G¢o) K.T.length K.c):=by rw [← ea]; exact cell_of HPV.out.h 0
 have c3:V.cell? b¢3=some (zI i):=cell_of HPV.out.h 3
 have hi':(i:Int) < (K.T.length:Int):=by omega
 clear ea
 go_upto_region 3 with fail
 have HKP:Hid (∀ v,Mv V v (fun k=>k=w§)→v.cell? b¢0=some (.slice (some G¢o) K.T.length K.c)∧v.cell? b¢3=some (zI i)∧v.cell? ⟨G,o+i * 5,none⟩=some (zU tk.k)∧v.cell? ⟨G,o+i * 5+1,none⟩=some (.string tk.x)∧v.cell? ⟨G,o+i * 5+2,none⟩=some (zU tk.ty)∧v.cell? ⟨G,o+i * 5+3,none⟩=some (zI tk.n)∧v.cell? ⟨G,o+i * 5+4,none⟩=some (zI tk.p)):=fun v hv=>by
  have h0:=hv.block b (World.block_lt_of_cell? V _ c0) (by omega)
  have h1:=hv.block G (World.block_lt_of_cell? V _ y0) (by omega)
  exact⟨(World.cell?_of_block h0).trans c0,(World.cell?_of_block h0).trans c3,(World.cell?_of_block h1).trans y0,(World.cell?_of_block h1).trans y1,(World.cell?_of_block h1).trans y2,(World.cell?_of_block h1).trans y3,(World.cell?_of_block h1).trans y4⟩
 clear c0 c3 y0 y1 y2 y3 y4
 have HW:Hid (V.heap[w§]? = (zC zt 233)):=hV0
 clear hV0
 refine wp_region_held_drew (S:=fun v=>Mv V v (fun k=>k=w§)) zK ((Mv.refl _ _).drew) (fun hHeld=>?_)
 refine wpAnyH_take (i:=0) (v:=?_) rfl zK zK zK (fun _ _ _ h=>h) (Or.inl ⟨by rfl,?_⟩) (by assumption) ?_
 rotate_left
 ·(intro v hv; obtain⟨c0,c3,y0,y1,y2,y3,y4⟩:=HKP.out v hv; go_simp; try (with_reducible rfl))
 try simp [Act.put]
 refine wpAnyH_take (i:=1) (v:=?_) rfl zK zK zK (fun _ _ _ h=>h) (Or.inl ⟨by rfl,?_⟩) (by assumption) ?_
 rotate_left
 ·(intro v hv; obtain⟨c0,c3,y0,y1,y2,y3,y4⟩:=HKP.out v hv; go_simp; try (with_reducible rfl))
 try simp [Act.put]
 refine wpAnyH_take (i:=2) (v:=?_) rfl zK zK zK (fun _ _ _ h=>h) (Or.inl ⟨by rfl,?_⟩) (by assumption) ?_
 rotate_left
 ·(intro v hv; obtain⟨c0,c3,y0,y1,y2,y3,y4⟩:=HKP.out v hv; go_simp; try (with_reducible rfl))
 try simp [Act.put]
 refine wpAnyH_take (i:=3) (v:=?_) rfl zK zK zK (fun _ _ _ h=>h) (Or.inl ⟨by rfl,?_⟩) (by assumption) ?_
 rotate_left
 ·(intro v hv; obtain⟨c0,c3,y0,y1,y2,y3,y4⟩:=HKP.out v hv; go_simp; try (with_reducible rfl))
 try simp [Act.put]
 refine wpAnyH_take (i:=4) (v:=?_) rfl zK zK zK (fun _ _ _ h=>h) (Or.inl ⟨by rfl,?_⟩) (by assumption) ?_
 rotate_left
 ·(intro v hv; obtain⟨c0,c3,y0,y1,y2,y3,y4⟩:=HKP.out v hv; go_simp; try (with_reducible rfl))
 try simp [Act.put]
 refine wpAnyH_take (i:=5) (v:=?_) rfl zK zK zK (fun _ _ _ h=>h) (Or.inl ⟨by rfl,?_⟩) (by assumption) ?_
 rotate_left
 ·(intro v hv; obtain⟨c0,c3,y0,y1,y2,y3,y4⟩:=HKP.out v hv; go_simp; try (with_reducible rfl))
 try simp [Act.put]
 refine wpAnyH_take (i:=6) (v:=?_) rfl zK zK zK (fun _ _ _ h=>h) (Or.inl ⟨by rfl,?_⟩) (by assumption) ?_
 rotate_left
 ·(intro v hv; obtain⟨c0,c3,y0,y1,y2,y3,y4⟩:=HKP.out v hv; go_simp; try (with_reducible rfl))
 try simp [Act.put]
 refine wpAnyH_take (i:=7) (v:=?_) rfl zK zK zK (fun _ _ _ h=>h) (Or.inl ⟨by rfl,?_⟩) (by assumption) ?_
 rotate_left
 ·(intro v hv; obtain⟨c0,c3,y0,y1,y2,y3,y4⟩:=HKP.out v hv; go_simp; try (with_reducible rfl))
 try simp [Act.put]
 refine wpAnyH_take (i:=8) (v:=?_) rfl zK zK zK (fun _ _ _ h=>h) (Or.inl ⟨by rfl,?_⟩) (by assumption) ?_
 rotate_left
 ·(intro v hv; obtain⟨c0,c3,y0,y1,y2,y3,y4⟩:=HKP.out v hv; go_simp; try (with_reducible rfl))
 try simp [Act.put]
 refine wpAnyH_take (i:=9) (v:=?_) rfl zK zK zK (fun _ _ _ h=>h) (Or.inl ⟨by rfl,?_⟩) (by assumption) ?_
 rotate_left
 ·(intro v hv; obtain⟨c0,c3,y0,y1,y2,y3,y4⟩:=HKP.out v hv; go_simp; try (with_reducible rfl))
 try simp [Act.put]
 obtain⟨U,eU⟩:∃ U,V.drew=U:=⟨_,rfl⟩
 have hU0:U.heap[w§]? = (zC zt 233):=by rw [← eU]; exact HW.out
 have HMU:Hid (Mv V U (fun k=>k=w§)):=by rw [← eU]; exact (Mv.refl _ _).drew
 have HBU:Hid (yD w U):=by rw [← eU]; exact HBV.out.drew
 rw [eU] at hHeld ⊢
 clear eU
 have z0:U.cell? w§¢0=some (zU 0):=cell_of hU0 0
 have q0:U.frozen? w§¢0=false:=frozen_of hU0 0
 have z1:U.cell? w§¢1=some (yQ):=cell_of hU0 1
 have q1:U.frozen? w§¢1=false:=frozen_of hU0 1
 have z2:U.cell? w§¢2=some (zU 0):=cell_of hU0 2
 have q2:U.frozen? w§¢2=false:=frozen_of hU0 2
 have z3:U.cell? w§¢3=some (zI 0):=cell_of hU0 3
 have q3:U.frozen? w§¢3=false:=frozen_of hU0 3
 have z4:U.cell? w§¢4=some (zI 0):=cell_of hU0 4
 have q4:U.frozen? w§¢4=false:=frozen_of hU0 4
 have HU0:Hid (U.heap[w§]? = (zC zt 233)):=hU0
 clear hU0
 refine wpAnyH_ready (rs:=[10]) zK (by simp) ?_
 refine AllReadyH.cons rfl (fun K hK=>?_) AllReadyH.nil
 go_simp
 refine hK.out _ _ (((((HMU.out.setCell (a:=w§¢0) (.inl rfl) _).setCell (a:=w§¢1) (.inl rfl) _).setCell (a:=w§¢2) (.inl rfl) _).setCell (a:=w§¢3) (.inl rfl) _).setCell (a:=w§¢4) (.inl rfl) _) (fun hHeld7=>?_)
 clear hK K
 refine wpAnyH_done zK ?_ _
 go_wp2_with fail
 exact bodyPost_ret (results_cell_row rfl _ _ w§ 233 (tkA tk) (0,0) _ rfl (put5 HU0.out _ _ _ _ _) Tryz.underlying233 rfl zK) rfl ⟨rfl,(mv5 (F:=fun _=>False) (Mv.ofBelow HBU.out) (Nat.le_refl _) _ _ _ _ _).below (Nat.le_refl _) (fun _ e=>e.elim)⟩
end Go.Proofs.YtfbjofnaghjmeaaGreatDoor
