import Derived.Test.YtfbjofnaghjmeaaGreatDoorA20
import Derived.Maps.OwnSet
namespace Go.Proofs.YtfbjofnaghjmeaaGreatDoor
open Go.Proofs.Tryz
set_option maxRecDepth 100000
open Go.RowKit
set_option linter.unusedVariables false
theorem QeZ (args:Array Value) (v:yW):Sem.run zG (callFunc 144 args) v=.ok (.enter 144 args) v:=by kernel_rfl
theorem Qgg (r:Qg) (b:Nat) (w:yW) (hn:w.heap[b]? = (zC r.vals 26)) (hl:Qr w r) (hz:Q2 r) (ht:Tab w):QI 144 #[zP b] w (QR r):=by
 have HN:=zH hn
 have c:=(PI r w hl hz ht).two
 clear hl ht hn hz
 unfold QI
 rcases c with ⟨h,c⟩ | ⟨h,c⟩
 ·have HE:Hid (QR r=0):=h
  clear h
  go_enter func144,ntmps144
  go_wp2_with (refine wpList_load_row rfl 26 (.tmp 0) rfl b rfl 26 r.vals (0,0) _ HN.out underlying26 rfl J6 ?_)
  refine c.mono ?_
  rintro e w1 ⟨rfl,hb⟩
  go_wp2_with fail
  go_end0
  exact⟨.inl ⟨HE.out,rfl⟩,hb⟩
 ·have HE:Hid (¬ QR r=0):=h
  clear h
  go_enter func144,ntmps144
  go_wp2_with (refine wpList_load_row rfl 26 (.tmp 0) rfl b rfl 26 r.vals (0,0) _ HN.out underlying26 rfl J6 ?_)
  refine c.mono ?_
  rintro e w1 ⟨rfl,hb⟩
  exact⟨rfl,.inr ⟨HE.out,rfl⟩,hb⟩
theorem check_any (r:Qg) (w:yW) (hl:Qr w r) (hz:Q2 r) (ht:Tab w):Calls zG 88 #[.agg r.vals] w fun e w'=>e=.returned (zI (QR r))∧yD w w':=by
 have hmf:∀ (fn:Fn) (first cap:Array Value) (w:yW),(Instr.makeFunc fn first cap).run zG w=.ok (.func fn first cap) w:=fun _ _ _ _=>rfl
 have hb0:=Qb w (.cells r.vals 26)
 have hn0:=Qc w (.cells r.vals 26)
 have c:=V1 144 QeZ #[zP w§] (QR r) (zA w r.vals 26) (fun v hv=>Qgg r w§ v ((hv.block _ (zJ hn0).1).trans hn0) ((hl.on hb0).on hv) hz ((ht.on hb0).on hv))
 clear hl hz ht hb0 hn0
 go_enter func88,ntmps88
 go_wp2_with fail
 refine c.mono ?_
 rintro e w1 ⟨rfl,hb⟩
 go_wp2
 go_ret
 exact⟨rfl,(Qb _ _).trans (hb.mono (by simp))⟩
set_option maxHeartbeats 4000000
set_option linter.unusedSimpArgs false
def numY (a:Int):Bool:=decide (1≤a) && decide (a≤4)
def J4 (a b:Int):Int × Bool:=if a == 1 then (b,numY b) else if b == 1 then (a,numY a) else (1,(a == 3 && b == 2) || (a == 2 && b == 3))
def Ko (a b:Int):Int × Bool:=if b == 1 then (a,numY a) else (1,numY a && a == b)
def JA (o a:Int):Int × Bool:=if o == 2 then (a,a == 5) else (a,numY a)
def QS (o a b:Int):Int × Bool :=
 if o == 8 then J4 a b else if o == 9 then Ko a b else if o == 17 || o == 18 then (5,a == 5 && b == 5)
 else if o == 13 || o == 14 || o == 15 || o == 16 then (if numY a then (5,a == b) else (0,false))
 else if o == 11 || o == 12 then (5,a == b) else (a,numY a && a == b)
def two (p:Int × Bool):Value:=.tuple #[zU p.1,.bool p.2]
theorem JM (t:Int) (w:yW):Calls zG 160 #[zU t] w fun e w'=>e=.returned (.bool (numY t))∧w'=w:=by
 unfold numY
 obtain⟨p,hp⟩:∃ p,decide (1≤t)=p:=jV
 obtain⟨q,hq⟩:∃ q,decide (t≤4)=q:=jV
 rw [hp,hq]
 cases p <;> cases q <;> (go_enter func160,ntmps160;go_wp2_with fail;go_ret;exact⟨rfl,rfl⟩)
theorem QdQ (a b:Int) (w:yW):Calls zG 191 #[zU a,zU b] w fun e w'=>e=.returned (two (J4 a b))∧w'=w:=by
 cases h1:(a == 1) with
 | true =>
  have HE:Hid (J4 a b=(b,numY b)):=by show _=_;simp [J4,h1]
  have cN:=JM b
  obtain⟨B,eB⟩:∃ B,numY b=B:=jV
  simp only [eB] at cN HE
  clear eB
  cases B <;> (go_enter func191,ntmps191;go_wp2_with (go_at_call 160;refine (cN _).mono ?_;rintro e w1 ⟨rfl,e1⟩;obtain rfl:=e1.symm);go_ret2;exact⟨by rw [HE.out];rfl,rfl⟩)
 | false =>
  cases h2:(b == 1) with
  | true =>
   have HE:Hid (J4 a b=(a,numY a)):=by show _=_;simp [J4,h1,h2]
   have cN:=JM a
   obtain⟨B,eB⟩:∃ B,numY a=B:=jV
   simp only [eB] at cN HE
   clear eB
   cases B <;> (go_enter func191,ntmps191;go_wp2_with (go_at_call 160;refine (cN _).mono ?_;rintro e w1 ⟨rfl,e1⟩;obtain rfl:=e1.symm);go_ret2;exact⟨by rw [HE.out];rfl,rfl⟩)
  | false =>
   have HE:Hid (J4 a b=(1,(a == 3 && b == 2) || (a == 2 && b == 3))):=by show _=_;simp [J4,h1,h2]
   obtain⟨p0,hp0⟩:∃ p,(a == 3)=p:=jV
   simp only [hp0] at HE
   obtain⟨p1,hp1⟩:∃ p,(b == 2)=p:=jV
   simp only [hp1] at HE
   obtain⟨p2,hp2⟩:∃ p,(a == 2)=p:=jV
   simp only [hp2] at HE
   obtain⟨p3,hp3⟩:∃ p,(b == 3)=p:=jV
   simp only [hp3] at HE
   cases p0 <;> cases p1 <;> cases p2 <;> cases p3 <;> (go_enter func191,ntmps191;go_wp2_with fail;go_ret2;exact⟨by rw [HE.out];rfl,rfl⟩)
theorem QdK (a b:Int) (w:yW):Calls zG 192 #[zU a,zU b] w fun e w'=>e=.returned (two (Ko a b))∧w'=w:=by
 cases h1:(b == 1) with
 | true =>
  have HE:Hid (Ko a b=(a,numY a)):=by show _=_;simp [Ko,h1]
  have cN:=JM a
  obtain⟨B,eB⟩:∃ B,numY a=B:=jV
  simp only [eB] at cN HE
  clear eB
  cases B <;> (go_enter func192,ntmps192;go_wp2_with (go_at_call 160;refine (cN _).mono ?_;rintro e w1 ⟨rfl,e1⟩;obtain rfl:=e1.symm);go_ret2;exact⟨by rw [HE.out];rfl,rfl⟩)
 | false =>
  have HE:Hid (Ko a b=(1,numY a && a == b)):=by show _=_;simp [Ko,h1]
  obtain⟨p0,hp0⟩:∃ p,(a == b)=p:=jV
  simp only [hp0] at HE
  have cN:=JM a
  obtain⟨B,eB⟩:∃ B,numY a=B:=jV
  simp only [eB] at cN HE
  clear eB
  cases p0 <;> cases B <;> (go_enter func192,ntmps192;go_wp2_with (go_at_call 160;refine (cN _).mono ?_;rintro e w1 ⟨rfl,e1⟩;obtain rfl:=e1.symm);go_ret2;exact⟨by rw [HE.out];rfl,rfl⟩)
theorem QcR (o a:Int) (w:yW):Calls zG 161 #[zU o,zU a] w fun e w'=>e=.returned (two (JA o a))∧w'=w:=by
 cases h1:(o == 2) with
 | true =>
  have HE:Hid (JA o a=(a,a == 5)):=by show _=_;simp [JA,h1]
  obtain⟨p0,hp0⟩:∃ p,(a == 5)=p:=jV
  simp only [hp0] at HE
  cases p0 <;> (go_enter func161,ntmps161;go_wp2_with fail;go_ret2;exact⟨by rw [HE.out];rfl,rfl⟩)
 | false =>
  have HE:Hid (JA o a=(a,numY a)):=by show _=_;simp [JA,h1]
  have cN:=JM a
  obtain⟨B,eB⟩:∃ B,numY a=B:=jV
  simp only [eB] at cN HE
  clear eB
  cases B <;> (go_enter func161,ntmps161;go_wp2_with (go_at_call 160;refine (cN _).mono ?_;rintro e w1 ⟨rfl,e1⟩;obtain rfl:=e1.symm);go_ret2;exact⟨by rw [HE.out];rfl,rfl⟩)
theorem QdU (o a b:Int) (w:yW):Calls zG 162 #[zU o,zU a,zU b] w fun e w'=>e=.returned (two (QS o a b))∧w'=w:=by
 cases h8:(o == 8) with
 | true =>
  have HE:Hid (QS o a b=J4 a b):=by show _=_;simp [QS,h8]
  have cN:=QdQ a b
  obtain⟨⟨u,v⟩,eu⟩:∃ q,J4 a b=q:=jV
  simp only [eu,two] at cN HE
  clear eu
  go_enter func162,ntmps162
  go_wp2_with (go_at_call 191;refine (cN _).mono ?_;rintro e w1 ⟨rfl,e1⟩;obtain rfl:=e1.symm)
  go_ret2
  exact⟨by rw [HE.out];rfl,rfl⟩
 | false =>
  cases h9:(o == 9) with
  | true =>
   have HE:Hid (QS o a b=Ko a b):=by show _=_;simp [QS,h8,h9]
   have cN:=QdK a b
   obtain⟨⟨u,v⟩,eu⟩:∃ q,Ko a b=q:=jV
   simp only [eu,two] at cN HE
   clear eu
   go_enter func162,ntmps162
   go_wp2_with (go_at_call 192;refine (cN _).mono ?_;rintro e w1 ⟨rfl,e1⟩;obtain rfl:=e1.symm)
   go_ret2
   exact⟨by rw [HE.out];rfl,rfl⟩
  | false =>
   cases h17:(o == 17) with
   | true =>
    have HE:Hid (QS o a b=(5,a == 5 && b == 5)):=by show _=_;simp [QS,h8,h9,h17]
    obtain⟨p0,hp0⟩:∃ p,(a == 5)=p:=jV
    simp only [hp0] at HE
    obtain⟨p1,hp1⟩:∃ p,(b == 5)=p:=jV
    simp only [hp1] at HE
    cases p0 <;> cases p1 <;> (go_enter func162,ntmps162;go_wp2_with fail;go_ret2;exact⟨by rw [HE.out];rfl,rfl⟩)
   | false =>
    cases h18:(o == 18) with
    | true =>
     have HE:Hid (QS o a b=(5,a == 5 && b == 5)):=by show _=_;simp [QS,h8,h9,h17,h18]
     obtain⟨p0,hp0⟩:∃ p,(a == 5)=p:=jV
     simp only [hp0] at HE
     obtain⟨p1,hp1⟩:∃ p,(b == 5)=p:=jV
     simp only [hp1] at HE
     cases p0 <;> cases p1 <;> (go_enter func162,ntmps162;go_wp2_with fail;go_ret2;exact⟨by rw [HE.out];rfl,rfl⟩)
    | false =>
     cases h13:(o == 13) with
     | true =>
      have HE:Hid (QS o a b=(if numY a then (5,a == b) else (0,false))):=by show _=_;simp [QS,h8,h9,h17,h18,h13]
      obtain⟨p0,hp0⟩:∃ p,(a == b)=p:=jV
      simp only [hp0] at HE
      have cN:=JM a
      obtain⟨B,eB⟩:∃ B,numY a=B:=jV
      simp only [eB] at cN HE
      clear eB
      cases p0 <;> cases B <;> (go_enter func162,ntmps162;go_wp2_with (go_at_call 160;refine (cN _).mono ?_;rintro e w1 ⟨rfl,e1⟩;obtain rfl:=e1.symm);go_ret2;exact⟨by rw [HE.out];rfl,rfl⟩)
     | false =>
      cases h14:(o == 14) with
      | true =>
       have HE:Hid (QS o a b=(if numY a then (5,a == b) else (0,false))):=by show _=_;simp [QS,h8,h9,h17,h18,h13,h14]
       obtain⟨p0,hp0⟩:∃ p,(a == b)=p:=jV
       simp only [hp0] at HE
       have cN:=JM a
       obtain⟨B,eB⟩:∃ B,numY a=B:=jV
       simp only [eB] at cN HE
       clear eB
       cases p0 <;> cases B <;> (go_enter func162,ntmps162;go_wp2_with (go_at_call 160;refine (cN _).mono ?_;rintro e w1 ⟨rfl,e1⟩;obtain rfl:=e1.symm);go_ret2;exact⟨by rw [HE.out];rfl,rfl⟩)
      | false =>
       cases h15:(o == 15) with
       | true =>
        have HE:Hid (QS o a b=(if numY a then (5,a == b) else (0,false))):=by show _=_;simp [QS,h8,h9,h17,h18,h13,h14,h15]
        obtain⟨p0,hp0⟩:∃ p,(a == b)=p:=jV
        simp only [hp0] at HE
        have cN:=JM a
        obtain⟨B,eB⟩:∃ B,numY a=B:=jV
        simp only [eB] at cN HE
        clear eB
        cases p0 <;> cases B <;> (go_enter func162,ntmps162;go_wp2_with (go_at_call 160;refine (cN _).mono ?_;rintro e w1 ⟨rfl,e1⟩;obtain rfl:=e1.symm);go_ret2;exact⟨by rw [HE.out];rfl,rfl⟩)
       | false =>
        cases h16:(o == 16) with
        | true =>
         have HE:Hid (QS o a b=(if numY a then (5,a == b) else (0,false))):=by show _=_;simp [QS,h8,h9,h17,h18,h13,h14,h15,h16]
         obtain⟨p0,hp0⟩:∃ p,(a == b)=p:=jV
         simp only [hp0] at HE
         have cN:=JM a
         obtain⟨B,eB⟩:∃ B,numY a=B:=jV
         simp only [eB] at cN HE
         clear eB
         cases p0 <;> cases B <;> (go_enter func162,ntmps162;go_wp2_with (go_at_call 160;refine (cN _).mono ?_;rintro e w1 ⟨rfl,e1⟩;obtain rfl:=e1.symm);go_ret2;exact⟨by rw [HE.out];rfl,rfl⟩)
        | false =>
         cases h11:(o == 11) with
         | true =>
          have HE:Hid (QS o a b=(5,a == b)):=by show _=_;simp [QS,h8,h9,h17,h18,h13,h14,h15,h16,h11]
          obtain⟨p0,hp0⟩:∃ p,(a == b)=p:=jV
          simp only [hp0] at HE
          cases p0 <;> (go_enter func162,ntmps162;go_wp2_with fail;go_ret2;exact⟨by rw [HE.out];rfl,rfl⟩)
         | false =>
          cases h12:(o == 12) with
          | true =>
           have HE:Hid (QS o a b=(5,a == b)):=by show _=_;simp [QS,h8,h9,h17,h18,h13,h14,h15,h16,h11,h12]
           obtain⟨p0,hp0⟩:∃ p,(a == b)=p:=jV
           simp only [hp0] at HE
           cases p0 <;> (go_enter func162,ntmps162;go_wp2_with fail;go_ret2;exact⟨by rw [HE.out];rfl,rfl⟩)
          | false =>
           have HE:Hid (QS o a b=(a,numY a && a == b)):=by show _=_;simp [QS,h8,h9,h17,h18,h13,h14,h15,h16,h11,h12]
           obtain⟨p0,hp0⟩:∃ p,(a == b)=p:=jV
           simp only [hp0] at HE
           have cN:=JM a
           obtain⟨B,eB⟩:∃ B,numY a=B:=jV
           simp only [eB] at cN HE
           clear eB
           cases p0 <;> cases B <;> (go_enter func162,ntmps162;go_wp2_with (go_at_call 160;refine (cN _).mono ?_;rintro e w1 ⟨rfl,e1⟩;obtain rfl:=e1.symm);go_ret2;exact⟨by rw [HE.out];rfl,rfl⟩)
def fldL:List Int:=[0,3,3,3,2,4,2]
def fldT (f:Int):Int:=fldL.getD f.toNat 0
def fldV:Array Value:=(fldL.map (fun i=>Value.int .u8 i)).toArray
def FTab (w : yW) : Prop := w.var? zG "tripwire/types.fieldTypes" = some fldV
theorem Vm : Tryz.prog.globalNamed "tripwire/types.fieldTypes" = some 0 := by kernel_rfl
theorem FTab.on {w w':yW}(h:FTab w) (hb:yD w w'):FTab w':=by
 unfold FTab World.var? at *
 rw [Vm] at h ⊢
 simp only [Option.bind_some] at h ⊢
 have hlt:0 < w§:=by
  rcases Nat.lt_or_ge 0 w§ with h' | h'
  ·exact h'
  ·rw [Array.getElem?_eq_none h'] at h;simp at h
 rw [hb.block 0 hlt]
 exact h
theorem FTab.cell {w:yW}(h:FTab w) (i:Nat) (hi:i < 7):w.cell? 0¢i=some (zU (fldT i)):=by
 have:=World.var?_cell Vm h i
 rw [this]
 unfold fldV fldT
 have hl:i < fldL.length:=hi
 simp [List.getElem?_map,List.getElem?_eq_getElem hl,List.getD]
def fitT (h:Hd) (n:Nat) (a b c:Int):Int × Bool :=
 if h.k == 1 then (h.t,true) else if h.k == 3 then (fldT h.f,true) else if h.k == 4 then (5,true) else if h.k == 7 then (b,a == 5 && b == c) else if h.k == 9 then (h.t,numY a)
 else if (n:Int) == 1 then JA h.o a else QS h.o a b
theorem Qgv (k o t n f:Int) (x:yB) (p:Int) (am:Option Addr) (cm:Nat) (ks:List Nd) (a b c:Int) (w:yW) (hf:k=3→0≤f∧f < 7) (ht:FTab w) :
  Calls zG 101 #[.agg (zW k o t n f x am ks cm p),.agg #[zU a,zU b,zU c]] w fun e w'=>e=.returned (two (fitT ⟨k,o,t,n,f,x,p⟩ ks.length a b c))∧yD w w':=by
 obtain⟨l,el⟩:∃ l,ks.length=l:=jV
 rw [el]
 clear el
 have hb1:=Qb w (.cells #[zU k,zU o,zU t,zI n,zU f,.string x,.slice am l cm,zI p] 38)
 have hn1:=Qc w (.cells #[zU k,zU o,zU t,zI n,zU f,.string x,.slice am l cm,zI p] 38)
 have hs1:=Qe w (.cells #[zU k,zU o,zU t,zI n,zU f,.string x,.slice am l cm,zI p] 38)
 obtain⟨W1,e1⟩:∃ W,w.alloc (.cells #[zU k,zU o,zU t,zI n,zU f,.string x,.slice am l cm,zI p] 38)=W:=jV
 have E1:=zH e1
 rw [e1] at hb1 hn1 hs1
 have hb2:=Qb W1 (.cells #[zU a,zU b,zU c] 187)
 have hn2:=Qc W1 (.cells #[zU a,zU b,zU c] 187)
 have hk2:=(hb2.block _ (zJ hn1).1).trans hn1
 have hbw:=Qd hb1 hb2
 rw [hs1] at hn2
 have HF:=zH hf
 have HT:Hid (FTab w):=ht
 have HS1:=zH hs1
 obtain⟨W2,e2⟩:∃ W,W1.alloc (.cells #[zU a,zU b,zU c] 187)=W:=jV
 have E2:=zH e2
 rw [e2] at hn2 hk2 hbw
 have HN2:=zH hn2
 have HN1:=zH hk2
 have HBW:=zH hbw
 clear hb1 hn1 hs1 hb2 hn2 hk2 hbw hf ht e1 e2
 go_enter func101,ntmps101
 go_upto_region 1 with fail
 rw [E1.out,E2.out]
 try rw [HS1.out]
 obtain⟨z0,z1,z2⟩:=cl3 HN2.out
 go_quiet (fail)
 obtain⟨V,eV⟩:∃ V,W2.drewN nq=V:=jV
 have hV1:V.heap[w§]? = (zC #[zU k,zU o,zU t,zI n,zU f,.string x,.slice am l cm,zI p] 38):=by rw [← eV];exact HN1.out
 have HBV:Hid (yD w V):=by
  have h1:=HBW.out
  rw [← eV]
  exact⟨h1.os,h1.tape,h1.output,h1.size,h1.block⟩
 rw [eV]
 clear eV HN1 HN2 HBW z0 z1 z2 E1 E2 HS1
 have y0:zQ V w§¢0 (zU k):=Qa hV1 0
 have y1:zQ V w§¢1 (zU o):=Qa hV1 1
 have y2:zQ V w§¢2 (zU t):=Qa hV1 2
 have y4:zQ V w§¢4 (zU f):=Qa hV1 4
 have y6:zQ V w§¢6 (.slice am l cm):=Qa hV1 6
 clear hV1
 cases h1:(k == 1) with
 | true =>
  have HE:Hid (fitT ⟨k,o,t,n,f,x,p⟩ l a b c=(t,true)):=by show _=_;simp [fitT,h1]
  go_wp2
  go_ret2
  exact⟨by rw [HE.out];rfl,HBV.out⟩
 | false =>
  cases h3:(k == 3) with
  | true =>
   have HE:Hid (fitT ⟨k,o,t,n,f,x,p⟩ l a b c=(fldT f,true)):=by show _=_;simp [fitT,h1,h3]
   have hf:=HF.out (by simpa using h3)
   obtain⟨i,ei⟩:∃ i:Nat,(i:Int)=f:=⟨f.toNat,by omega⟩
   subst ei
   have hi:i < 7:=by omega
   have hi2:(i:Int) < 7:=by omega
   have c0:V.cell? 0¢i=some (zU (fldT i)):=(HT.out.on HBV.out).cell i hi
   go_wp2
   go_ret2
   exact⟨by rw [HE.out];rfl,HBV.out⟩
  | false =>
   cases h4:(k == 4) with
   | true =>
    have HE:Hid (fitT ⟨k,o,t,n,f,x,p⟩ l a b c=(5,true)):=by show _=_;simp [fitT,h1,h3,h4]
    go_wp2
    go_ret2
    exact⟨by rw [HE.out];rfl,HBV.out⟩
   | false =>
    cases h7:(k == 7) with
    | true =>
     have HE:Hid (fitT ⟨k,o,t,n,f,x,p⟩ l a b c=(b,a == 5 && b == c)):=by show _=_;simp [fitT,h1,h3,h4,h7]
     obtain⟨p0,hp0⟩:∃ p,(a == 5)=p:=jV
     obtain⟨p1,hp1⟩:∃ p,(b == c)=p:=jV
     simp only [hp0,hp1] at HE
     cases p0 <;> cases p1 <;> (go_wp2_with fail;go_ret2;exact⟨by rw [HE.out];rfl,HBV.out⟩)
    | false =>
     cases h9:(k == 9) with
     | true =>
      have HE:Hid (fitT ⟨k,o,t,n,f,x,p⟩ l a b c=(t,numY a)):=by show _=_;simp [fitT,h1,h3,h4,h7,h9]
      have cN:=JM a
      obtain⟨B,eB⟩:∃ B,numY a=B:=jV
      simp only [eB] at cN HE
      clear eB
      go_upto_region 12 with fail
      go_quiet ((go_at_call 160;refine Calls.quiet_of_same (cN _)))
      go_wp2
      go_ret2
      exact⟨by rw [HE.out];rfl,by have h1:=HBV.out;exact⟨h1.os,h1.tape,h1.output,h1.size,h1.block⟩⟩
     | false =>
      cases hl:((l:Int) == 1) with
      | true =>
       have HE:Hid (fitT ⟨k,o,t,n,f,x,p⟩ l a b c=JA o a):=by show _=_;simp [fitT,h1,h3,h4,h7,h9,hl]
       have cN:=QcR o a
       obtain⟨⟨u,v⟩,eu⟩:∃ q,JA o a=q:=jV
       simp only [eu,two] at cN HE
       clear eu
       go_wp2_with (go_at_call 161;refine (cN _).mono ?_;rintro e w1 ⟨rfl,e1⟩;obtain rfl:=e1.symm)
       go_ret2
       exact⟨by rw [HE.out];rfl,HBV.out⟩
      | false =>
       have HE:Hid (fitT ⟨k,o,t,n,f,x,p⟩ l a b c=QS o a b):=by show _=_;simp [fitT,h1,h3,h4,h7,h9,hl]
       have cN:=QdU o a b
       obtain⟨⟨u,v⟩,eu⟩:∃ q,QS o a b=q:=jV
       simp only [eu,two] at cN HE
       clear eu
       go_wp2_with (go_at_call 162;refine (cN _).mono ?_;rintro e w1 ⟨rfl,e1⟩;obtain rfl:=e1.symm)
       go_ret2
       exact⟨by rw [HE.out];rfl,HBV.out⟩
open Go.Maps
def FlAt (w:yW) (b:Nat) (c:yB) (p no:Int):Prop:=w.heap[b]? = (zC #[.string c,zI p,.iface 41 (zI no)] 186)
theorem FlAt.on {w w':yW}{b:Nat}{c:yB}{p no:Int}(h:FlAt w b c p no) (k:yD w w'):FlAt w' b c p no:=(k.block b (zJ h).1).trans h
theorem Xb (p no:Int) (w:yW):Calls zG 61 #[zI p,zI no] w fun e w'=>e=.returned (.iface 184 (zP w§))∧FlAt w' w§ Zf p no∧yD w w':=by
 go_enter func61,ntmps61
 go_wp2
 go_ret
 exact⟨rfl,Qc _ _,Qb _ _⟩
theorem JN (p no:Int) (w:yW):Calls zG 89 #[zI p,zI no] w fun e w'=>e=.returned (.iface 184 (zP w§))∧FlAt w' w§ Z6 p no∧yD w w':=by
 go_enter func89,ntmps89
 go_wp2
 go_ret
 exact⟨rfl,Qc _ _,Qb _ _⟩
def RgM (w:yW) (b:Nat) (L:yB→Option Int):Prop :=
 ∃ (n:Nat) (D:DataW Unit),w.ownsMap zG 9 (plainElem zG 34) b n D∧∀ x:yB,x.size≤maxLen →
  Maps.has D (.string x.data.toList)=(L x).isSome∧D.atKey (.string x.data.toList) (.lit (.int .u8 0))=.lit (.int .u8 ((L x).getD 0))
theorem RgM.on {w w':yW}{b:Nat}{L:yB→Option Int}(h:RgM w b L) (k:yD w w'):RgM w' b L:=by
 obtain⟨n,D,ho,hL⟩:=h
 have hlt:=ho.lt
 obtain⟨es,clock,hb,F,hs,hD⟩:=ho
 exact⟨n,D,⟨es,clock,(k.block b hlt).trans hb,F,hs,hD⟩,hL⟩
mutual
/-- The type of an expression, or where what is wrong is. -/
def tyR (L:yB→Option Int):Nd→Except (Int × Int) Int
 | .mk h _ _ ks=>match tysR L ks with
  | .error e=>.error e
  | .ok ts=>if h.k == 2 then (match L h.x with
    | some t=>.ok t
    | none=>.error (h.p,151))
   else if (fitT h ks.length (ts.getD 0 0) (ts.getD 1 0) (ts.getD 2 0)).2 then .ok (fitT h ks.length (ts.getD 0 0) (ts.getD 1 0) (ts.getD 2 0)).1 else .error (h.p,152)
def tysR (L:yB→Option Int):List Nd→Except (Int × Int) (List Int)
 | []=>.ok []
 | k :: ks=>match tyR L k with
  | .error e=>.error e
  | .ok t=>match tysR L ks with
   | .error e=>.error e
   | .ok ts=>.ok (t :: ts)
end
theorem law9:Keyed zG 9:=string_keyed underlying9
theorem K8 (w:yW):(zeroValue 34).run zG w=.ok (zU 0) w:=by kernel_rfl
def OutT (w:yW) (r:Except (Int × Int) Int) (e:Ending) (w':yW):Prop :=
 (∃ t,r=.ok t∧e=.returned (.tuple #[zU t,.nilIface])∧yD w w') ∨
 (∃ p no b,r=.error (p,no)∧e=.returned (.tuple #[zU 0,.iface 184 (zP b)])∧w§≤b∧FlAt w' b Zf p no∧yD w w')
inductive OkT:Nd→Prop
 | mk (h:Hd) (a:Option Addr) (c:Nat) (ks:List Nd) (h3:ks.length≤3) (hf:h.k=3→0≤h.f∧h.f < 7) (hs:∀ k ∈ ks,OkT k):OkT (.mk h a c ks)
def Ke (ts:List Int):Except (Int × Int) (List Int)→Except (Int × Int) (List Int)
 | .ok us=>.ok (ts ++ us)
 | .error e=>.error e
theorem Qez {L:yB→Option Int}{ts:List Int}{k:Nd}{ks:List Nd}{t:Int}(h:tyR L k=.ok t):Ke ts (tysR L (k :: ks))=Ke (ts ++ [t]) (tysR L ks):=by
 simp only [tysR,h]
 cases tysR L ks with
 | ok us=>simp [Ke]
 | error e=>rfl
theorem Qcr {L:yB→Option Int}{ts:List Int}{k:Nd}{ks:List Nd}{q:Int × Int}(h:tyR L k=.error q):Ke ts (tysR L (k :: ks))=.error q:=by
 simp only [tysR,h];rfl
def tyH (L:yB→Option Int) (h:Hd) (n:Nat) (a0 a1 a2:Int):Except (Int × Int) Int :=
 if h.k == 2 then (match L h.x with
  | some t=>.ok t
  | none=>.error (h.p,151)) else if (fitT h n a0 a1 a2).2 then .ok (fitT h n a0 a1 a2).1 else .error (h.p,152)
theorem UX {L:yB→Option Int}{h:Hd}{a:Option Addr}{c:Nat}{ks:List Nd}{ts:List Int}(ht:tysR L ks=.ok ts):tyR L (.mk h a c ks)=tyH L h ks.length (ts.getD 0 0) (ts.getD 1 0) (ts.getD 2 0):=by
 rw [tyR,ht];rfl
theorem Py {L:yB→Option Int}{h:Hd}{n:Nat}{a0 a1 a2 t:Int}(hk:(h.k == 2)=true) (hL:L h.x=some t):tyH L h n a0 a1 a2=.ok t:=by
 unfold tyH;rw [hk,hL];rfl
theorem Pz {L:yB→Option Int}{h:Hd}{n:Nat}{a0 a1 a2:Int}(hk:(h.k == 2)=true) (hL:L h.x=none):tyH L h n a0 a1 a2=.error (h.p,151):=by
 unfold tyH;rw [hk,hL];rfl
theorem Qa5 {L:yB→Option Int}{h:Hd}{n:Nat}{a0 a1 a2 u:Int}(hk:(h.k == 2)=false) (hf:fitT h n a0 a1 a2=(u,true)):tyH L h n a0 a1 a2=.ok u:=by
 unfold tyH;rw [hk,hf];rfl
theorem Qc5 {L:yB→Option Int}{h:Hd}{n:Nat}{a0 a1 a2 u:Int}(hk:(h.k == 2)=false) (hf:fitT h n a0 a1 a2=(u,false)):tyH L h n a0 a1 a2=.error (h.p,152):=by
 unfold tyH;rw [hk,hf];rfl
theorem Hg (B:Nat) (L:yB→Option Int):∀ (m:Nd) (w:yW),RgM w B L→FTab w→Lies w m→OkT m→Calls zG 63 #[.map (some B),.agg m.vals] w (OutT w (tyR L m)):=by
 refine Nd.ind fun h a c ks ih w hm ht hl ho=>?_
 have HI:=zH ih
 have HL:=hl.hid
 have HM:Hid (RgM w B L∧FTab w):=⟨hm,ht⟩
 cases ho with | mk _ _ _ _ h3 hf hs =>
 have HO:Hid ((h.k=3→0≤h.f∧h.f < 7)∧∀ k ∈ ks,OkT k):=⟨hf,hs⟩
 have H3:Hid (ks.length≤3):=h3
 have hb1:=Qb w (.cells (zX h a ks c) 38)
 have hn1:=Qc w (.cells (zX h a ks c) 38)
 have hs1:=Qe w (.cells (zX h a ks c) 38)
 obtain⟨W1,e1⟩:∃ W,w.alloc (.cells (zX h a ks c) 38)=W:=jV
 have E1:=zH e1
 rw [e1] at hb1 hn1 hs1
 have hb2:=Qb W1 (.cells #[zU 0,zU 0,zU 0] 187)
 have hn2:=Qc W1 (.cells #[zU 0,zU 0,zU 0] 187)
 have hs2:=Qe W1 (.cells #[zU 0,zU 0,zU 0] 187)
 have hk2:=(hb2.block _ (zJ hn1).1).trans hn1
 have hbw:=Qd hb1 hb2
 rw [hs1] at hn2 hs2
 have HS1:=zH hs1
 obtain⟨W2,e2⟩:∃ W,W1.alloc (.cells #[zU 0,zU 0,zU 0] 187)=W:=jV
 have E2:=zH e2
 rw [e2] at hn2 hk2 hbw hs2
 have HN2:=zH hn2
 have HN1:=zH hk2
 have HBW:=zH hbw
 clear hb1 hn1 hs1 hb2 hn2 hs2 hk2 hbw hf ht hs ih hl hm h3 e1 e2
 show Calls zG 63 #[.map (some B),.agg (zX h a ks c)] w _
 go_enter func63,ntmps63
 go_upto_region 2 with fail
 rw [E1.out,E2.out]
 try rw [HS1.out]
 have y6:zQ W2 w§¢6 (.slice a ks.length c):=Qa HN1.out 6
 clear E1 E2 HS1
 go_wp2_with fail
 go_loopw [7,8,9,10,18] (fun t7 t8 t9 t10 t wr=>∃ (i:Nat) (ts:List Int),i≤ks.length∧ts.length=i∧t=zI i∧yD w wr∧Hid (wr.heap[w§]? = (zC (zX h a ks c) 38)∧wr.heap[w§+1]? = (zC #[zU (ts.getD 0 0),zU (ts.getD 1 0),zU (ts.getD 2 0)] 187))∧Hid (tysR L ks=Ke ts (tysR L (ks.drop i)))) (fun t7 t8 t9 t10 t _=>ks.length - (intOf t).toNat)
 case atStart=>exact⟨0,[],by omega,rfl,rfl,HBW.out,⟨HN1.out,HN2.out⟩,by show _=_;rw [List.drop_zero];cases tysR L ks <;> rfl⟩
 case round =>
  obtain⟨i,ts,hi,hts,rfl,hbr,HR2,HR⟩:=hrel
  have HBR:=zH hbr
  clear hbr
  by_cases hlt:i < ks.length
  ·have hlt':(i:Int) < (ks.length:Int):=by omega
   have hmx:(i:Int)+1≤jX:=by have:=H3.out;omega
   obtain⟨b,o,e,hat⟩:=(HL.out.on HBR.out).kid i hlt
   have e2:a=some b¢o:=e
   clear e
   subst e2
   have HMEM:Hid (ks[i] ∈ ks):=List.getElem_mem hlt
   have HD:Hid (tysR L ks=Ke ts (tysR L (ks[i] :: ks.drop (i+1)))):=by show _=_;rw [HR.out,List.drop_eq_getElem_cons hlt]
   obtain⟨k,ek⟩:∃ k,ks[i]=k:=jV
   have hat2:NdAt wr b (o+i * 8) k:=by rw [← ek];exact hat
   clear hat HR
   rw [ek] at HD HMEM
   obtain⟨y0,y1,y2,y3,y4,y5,y6,y7⟩:=hat2
   have hbx:yD w (zA wr (zV k) 38):=Qd HBR.out (Qb _ _)
   have cI:Calls zG 63 #[.map (some B),.agg (zV k)] (zA wr (zV k) 38) (OutT (zA wr (zV k) 38) (tyR L k)):=HI.out k HMEM.out _ (HM.out.1.on hbx) (HM.out.2.on hbx) ((HL.out.sub k HMEM.out).on hbx) (HO.out.2 k HMEM.out)
   clear hbx ek
   have HX:Hid (∀ w5,Below (zA wr (zV k) 38)§ (zA wr (zV k) 38) w5→yD wr w5):=fun w5 h5=>Qd (Qb _ _) h5
   cases eT:tyR L k with
   | error q =>
    obtain⟨p,no⟩:=q
    have HER:Hid (tyR L (.mk h (some b¢o) c ks)=.error (p,no)):=by show _=_;rw [tyR,HD.out,Qcr eT]
    have cI2:Calls zG 63 #[.map (some B),.agg (zV k)] (zA wr (zV k) 38) fun e w'=>∃ b5,e=.returned (.tuple #[zU 0,.iface 184 (zP b5)])∧(zA wr (zV k) 38)§≤b5∧FlAt w' b5 Zf p no∧Below (zA wr (zV k) 38)§ (zA wr (zV k) 38) w':=by
     refine cI.mono ?_
     rintro e v (⟨t,h1,_⟩ | ⟨p',no',b5,h1,h2,h3,h4,h5⟩)
     ·rw [eT] at h1;cases h1
     ·rw [eT] at h1;cases h1;exact⟨b5,h2,h3,h4,h5⟩
    clear cI eT HD
    go_wp2_with fail
    refine cI2.mono ?_
    rintro e w5 ⟨b5,rfl,hle,hfl,hb5⟩
    have HB5:Hid (yD wr w5):=HX.out _ hb5
    have HF5:Hid (FlAt w5 b5 Zf p no∧w§≤b5):=⟨hfl,by have h1:=HBR.out.size;have h2:=(Qb wr (.cells (zV k) 38)).size;omega⟩
    clear cI2 hb5 hfl hle y0 y1 y2 y3 y4 y5 y6 y7
    go_wp2
    go_ret2
    exact .inr ⟨p,no,b5,HER.out,rfl,HF5.out.2,HF5.out.1,Qd HBR.out HB5.out⟩
   | ok t =>
    have HD2:Hid (tysR L ks=Ke (ts ++ [t]) (tysR L (ks.drop (i+1)))):=by show _=_;rw [HD.out,Qez eT]
    have cI2:Calls zG 63 #[.map (some B),.agg (zV k)] (zA wr (zV k) 38) fun e w'=>e=.returned (.tuple #[zU t,.nilIface])∧Below (zA wr (zV k) 38)§ (zA wr (zV k) 38) w':=by
     refine cI.mono ?_
     rintro e v (⟨t',h1,h2,h3⟩ | ⟨p',no',b5,h1,_⟩)
     ·rw [eT] at h1;cases h1;exact⟨h2,h3⟩
     ·rw [eT] at h1;cases h1
    clear cI eT HD
    go_wp2_with fail
    refine cI2.mono ?_
    rintro e w5 ⟨rfl,hb5⟩
    have hB5:=HX.out _ hb5
    have HB5:=zH (Qd HBR.out hB5)
    have HN5:Hid (w5.heap[w§]? = (zC (zX h (some b¢o) ks c) 38)):=(hB5.block _ (zJ HR2.out.1).1).trans HR2.out.1
    have HA5:Hid (w5.heap[w§+1]? = (zC #[zU (ts.getD 0 0),zU (ts.getD 1 0),zU (ts.getD 2 0)] 187)):=(hB5.block _ (zJ HR2.out.2).1).trans HR2.out.2
    clear cI2 hb5 hB5 HX y0 y1 y2 y3 y4 y5 y6 y7 HR2
    have hi3:i=0∨i=1∨i=2:=by have:=H3.out;omega
    rcases hi3 with rfl | rfl | rfl
    ·obtain rfl:ts = []:=List.eq_nil_of_length_eq_zero hts
     have ha:w5.heap[w§+1]? = (zC #[zU 0,zU 0,zU 0] 187):=HA5.out
     have za:zQ w5 ⟨w§+1,0,none⟩ (zU 0):=Qa ha 0
     have zf:=Qf ha 0
     have HA6:Hid ((w5.setCell ⟨w§+1,0,none⟩ (zU t)).heap[w§+1]? = (zC #[zU t,zU 0,zU 0] 187)):=Qp _ ha
     have HN6:Hid ((w5.setCell ⟨w§+1,0,none⟩ (zU t)).heap[w§]? = (zC (zX h (some b¢o) ks c) 38)):=(Below.heap_setCell _ _ _ _ (by simp)).trans HN5.out
     have HB6:Hid (yD w (w5.setCell ⟨w§+1,0,none⟩ (zU t))):=HB5.out.setCell (by simp) _
     clear ha HA5
     go_wp2_with fail
     exact⟨⟨0+1,[t],hlt,rfl,rfl,HB6.out,⟨HN6.out,HA6.out⟩,HD2.out⟩,by simp only [intOf];omega⟩
    ·obtain⟨u0,rfl⟩:=List.length_eq_one_iff.1 hts
     have ha:w5.heap[w§+1]? = (zC #[zU u0,zU 0,zU 0] 187):=HA5.out
     have za:zQ w5 ⟨w§+1,1,none⟩ (zU 0):=Qa ha 1
     have zf:=Qf ha 1
     have HA6:Hid ((w5.setCell ⟨w§+1,1,none⟩ (zU t)).heap[w§+1]? = (zC #[zU u0,zU t,zU 0] 187)):=Qp _ ha
     have HN6:Hid ((w5.setCell ⟨w§+1,1,none⟩ (zU t)).heap[w§]? = (zC (zX h (some b¢o) ks c) 38)):=(Below.heap_setCell _ _ _ _ (by simp)).trans HN5.out
     have HB6:Hid (yD w (w5.setCell ⟨w§+1,1,none⟩ (zU t))):=HB5.out.setCell (by simp) _
     clear ha HA5
     go_wp2_with fail
     exact⟨⟨1+1,[u0,t],hlt,rfl,rfl,HB6.out,⟨HN6.out,HA6.out⟩,HD2.out⟩,by simp only [intOf];omega⟩
    ·obtain⟨u0,u1,rfl⟩:∃ u0 u1,ts = [u0,u1]:=by match ts,hts with | [x,y],_=>exact⟨x,y,rfl⟩
     have ha:w5.heap[w§+1]? = (zC #[zU u0,zU u1,zU 0] 187):=HA5.out
     have za:zQ w5 ⟨w§+1,2,none⟩ (zU 0):=Qa ha 2
     have zf:=Qf ha 2
     have HA6:Hid ((w5.setCell ⟨w§+1,2,none⟩ (zU t)).heap[w§+1]? = (zC #[zU u0,zU u1,zU t] 187)):=Qp _ ha
     have HN6:Hid ((w5.setCell ⟨w§+1,2,none⟩ (zU t)).heap[w§]? = (zC (zX h (some b¢o) ks c) 38)):=(Below.heap_setCell _ _ _ _ (by simp)).trans HN5.out
     have HB6:Hid (yD w (w5.setCell ⟨w§+1,2,none⟩ (zU t))):=HB5.out.setCell (by simp) _
     clear ha HA5
     go_wp2_with fail
     exact⟨⟨2+1,[u0,u1,t],hlt,rfl,rfl,HB6.out,⟨HN6.out,HA6.out⟩,HD2.out⟩,by simp only [intOf];omega⟩
  ·obtain rfl:i=ks.length:=by omega
   have hnot:¬ (ks.length:Int) < (ks.length:Int):=by omega
   have HT:Hid (tysR L ks=.ok ts):=by show _=_;rw [HR.out,List.drop_length];simp [tysR,Ke]
   obtain⟨y0,y1,y2,y3,y4,y5,y6,y7⟩:=cl8 HR2.out.1
   obtain⟨a0,e0⟩:∃ x,ts.getD 0 0=x:=jV
   obtain⟨a1,e1⟩:∃ x,ts.getD 1 0=x:=jV
   obtain⟨a2,e2⟩:∃ x,ts.getD 2 0=x:=jV
   have z0:zQ wr ⟨w§+1,0,none⟩ (zU a0):=by rw [← e0];exact Qa HR2.out.2 0
   have z1:zQ wr ⟨w§+1,1,none⟩ (zU a1):=by rw [← e1];exact Qa HR2.out.2 1
   have z2:zQ wr ⟨w§+1,2,none⟩ (zU a2):=by rw [← e2];exact Qa HR2.out.2 2
   have HN:=zH HR2.out.1
   have HTY:Hid (tyR L (.mk h a c ks)=tyH L h ks.length a0 a1 a2):=by show _=_;rw [UX HT.out,e0,e1,e2]
   clear HR HR2 e0 e1 e2 hts
   cases hk:(h.k == 2) with
   | true =>
    obtain⟨n,D,hown,hL⟩:=HM.out.1.on HBR.out
    have hx:h.x.size≤maxLen:=by have:=HL.out.rg.x1;unfold maxLen;simp only [Nd.h] at this;omega
    have hkey:=WideMaps.keyOf_string_mk (P:=zG) underlying9 hx
    obtain⟨hh,hv⟩:=hL h.x hx
    cases eL:L h.x with
    | some t =>
     have HE:Hid (tyR L (.mk h a c ks)=.ok t):=by show _=_;rw [HTY.out];exact Py hk eL
     rw [eL] at hh hv
     simp only [Option.isSome_some,Option.getD_some] at hh hv
     have HV:=zH hv
     clear hL hv eL
     go_wp2_with (at_lookup;refine wpList_lookup_own_ok_int _ rfl _ _ 139 rfl 9 34 .u8 law9 underlying139 underlying34 (K8 _) B n D rfl hown _ _ rfl hkey ?_;intro cc hat hwc)
     go_ret2
     obtain rfl:cc=t:=by have h1:=hat.symm.trans HV.out;cases h1;rfl
     exact .inl ⟨cc,HE.out,rfl,HBR.out⟩
    | none =>
     have HE:Hid (tyR L (.mk h a c ks)=.error (h.p,151)):=by show _=_;rw [HTY.out];exact Pz hk eL
     rw [eL] at hh
     simp only [Option.isSome_none] at hh
     clear hL hv eL
     go_wp2_with (at_lookup;refine wpList_lookup_own_ok_int _ rfl _ _ 139 rfl 9 34 .u8 law9 underlying139 underlying34 (K8 _) B n D rfl hown _ _ rfl hkey ?_;intro cc hat hwc)
     refine (Xb _ _ _).mono ?_
     rintro e w7 ⟨rfl,hf7,hb7⟩
     have HB7:Hid (yD w w7∧FlAt w7 wr§ Zf h.p 151∧w§≤wr§):=⟨Qd HBR.out hb7,hf7,HBR.out.size⟩
     clear hb7 hf7 hown
     go_wp2
     go_ret2
     exact .inr ⟨h.p,151,wr§,HE.out,rfl,HB7.out.2.2,HB7.out.2.1,HB7.out.1⟩
   | false =>
    have cF:=Qgv h.k h.o h.t h.n h.f h.x h.p a c ks a0 a1 a2 wr HO.out.1 (HM.out.2.on HBR.out)
    obtain⟨⟨u,v⟩,eu⟩:∃ q,fitT h ks.length a0 a1 a2=q:=jV
    have cF2:Calls zG 101 #[.agg (zX h a ks c),.agg #[zU a0,zU a1,zU a2]] wr fun e w'=>e=.returned (.tuple #[zU u,.bool v])∧yD wr w':=by
     refine cF.mono ?_
     rintro e w' ⟨rfl,hb⟩
     exact⟨by rw [show fitT ⟨h.k,h.o,h.t,h.n,h.f,h.x,h.p⟩ ks.length a0 a1 a2=(u,v) from eu];rfl,hb⟩
    clear cF
    cases v with
    | true =>
     have HE:Hid (tyR L (.mk h a c ks)=.ok u):=by show _=_;rw [HTY.out];exact Qa5 hk eu
     clear eu
     go_wp2_with fail
     refine cF2.mono ?_
     rintro e w6 ⟨rfl,hb6⟩
     have HB6:=zH (Qd HBR.out hb6)
     clear cF2 hb6 y0 y1 y2 y3 y4 y5 y6 y7 z0 z1 z2
     go_wp2
     go_ret2
     exact .inl ⟨u,HE.out,rfl,HB6.out⟩
    | false =>
     have HE:Hid (tyR L (.mk h a c ks)=.error (h.p,152)):=by show _=_;rw [HTY.out];exact Qc5 hk eu
     clear eu
     go_wp2_with fail
     refine cF2.mono ?_
     rintro e w6 ⟨rfl,hb6⟩
     have HB6:=zH (Qd HBR.out hb6)
     have p7:zQ w6 w§¢7 (zI h.p):=Qa ((hb6.block _ (zJ HN.out).1).trans HN.out) 7
     clear cF2 hb6 y0 y1 y2 y3 y4 y5 y6 y7 z0 z1 z2
     go_wp2_with fail
     refine (Xb _ _ _).mono ?_
     rintro e w7 ⟨rfl,hf7,hb7⟩
     have HB7:Hid (yD w w7∧FlAt w7 w6§ Zf h.p 152∧w§≤w6§):=⟨Qd HB6.out hb7,hf7,HB6.out.size⟩
     clear hb7 hf7 p7
     go_wp2
     go_ret2
     exact .inr ⟨h.p,152,w6§,HE.out,rfl,HB7.out.2.2,HB7.out.2.1,HB7.out.1⟩
end Go.Proofs.YtfbjofnaghjmeaaGreatDoor
