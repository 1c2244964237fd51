import Derived.Test.YtoogodlnnijikaaGreatDoorA0
import Derived.Test.YtoogodlnnijikaaGreatDoorA30
import Derived.Test.YtoogodlnnijikaaGreatDoorRows
import Derived.Test.YtoogodlnnijikaaGreatDoorA3
import Derived.Test.YtoogodlnnijikaaGreatDoorA4
import Derived.LaidMore
import Derived.LaidHandle
import Derived.MakeChecks
import Derived.Stop.LaidErr
import Derived.Lib.LaidTab
import Derived.Maps.OwnSet
namespace Go.Proofs.YtoogodlnnijikaaGreatDoor
set_option maxHeartbeats 4000000
set_option maxRecDepth 100000
open Go.RowKit
set_option linter.unusedVariables false
set_option linter.unusedSimpArgs false
def numY (a:Int):Bool:=decide (1≤a) && decide (a≤4)
def prodT (a b:Int):Int × Bool:=if a == 1 then (b,numY b) else if b == 1 then (a,numY a) else (1,(a == 3 && b == 2) || (a == 2 && b == 3))
def quotT (a b:Int):Int × Bool:=if b == 1 then (a,numY a) else (1,numY a && a == b)
def aloneT (o a:Int):Int × Bool:=if o == 2 then (a,a == 5) else (a,numY a)
def Je (o a b:Int):Int × Bool :=
 if o == 8 then prodT a b else if o == 9 then quotT a b else if o == 17 || o == 18 then (5,a == 5 && b == 5)
 else if o == 13 || o == 14 || o == 15 || o == 16 then (if numY a then (5,a == b) else (0,false))
 else if o == 11 || o == 12 then (5,a == b) else (a,numY a && a == b)
def two (p:Int × Bool):Value:=.tuple #[zU p.1,.bool p.2]
theorem JA (t:Int) (w:yW):Calls zG 117 #[zU t] w fun e w'=>e=.returned (.bool (numY t))∧w'=w:=by
 unfold numY
 obtain⟨p,hp⟩:∃ p,decide (1≤t)=p:=⟨_,rfl⟩
 obtain⟨q,hq⟩:∃ q,decide (t≤4)=q:=⟨_,rfl⟩
 rw [hp,hq]
 cases p <;> cases q <;> (go_enter Tryz.func117,Tryz.ntmps117; go_wp2_with fail; go_ret; exact⟨rfl,rfl⟩)
theorem prod_any (a b:Int) (w:yW):Calls zG 148 #[zU a,zU b] w fun e w'=>e=.returned (two (prodT a b))∧w'=w:=by
 cases h1:(a == 1) with
 | true =>
  have HE:Hid (prodT a b=(b,numY b)):=by show _=_; simp [prodT,h1]
  have cN:=JA b
  obtain⟨B,eB⟩:∃ B,numY b=B:=⟨_,rfl⟩
  simp only [eB] at cN HE
  clear eB
  cases B <;> (go_enter Tryz.func148,Tryz.ntmps148; go_wp2_with (go_at_call 117; refine (cN _).mono ?_; rintro e w1 ⟨rfl,e1⟩; obtain rfl:=e1.symm); go_ret2; exact⟨by rw [HE.out]; rfl,rfl⟩)
 | false =>
  cases h2:(b == 1) with
  | true =>
   have HE:Hid (prodT a b=(a,numY a)):=by show _=_; simp [prodT,h1,h2]
   have cN:=JA a
   obtain⟨B,eB⟩:∃ B,numY a=B:=⟨_,rfl⟩
   simp only [eB] at cN HE
   clear eB
   cases B <;> (go_enter Tryz.func148,Tryz.ntmps148; go_wp2_with (go_at_call 117; refine (cN _).mono ?_; rintro e w1 ⟨rfl,e1⟩; obtain rfl:=e1.symm); go_ret2; exact⟨by rw [HE.out]; rfl,rfl⟩)
  | false =>
   have HE:Hid (prodT a b=(1,(a == 3 && b == 2) || (a == 2 && b == 3))):=by show _=_; simp [prodT,h1,h2]
   obtain⟨p0,hp0⟩:∃ p,(a == 3)=p:=⟨_,rfl⟩
   simp only [hp0] at HE
   obtain⟨p1,hp1⟩:∃ p,(b == 2)=p:=⟨_,rfl⟩
   simp only [hp1] at HE
   obtain⟨p2,hp2⟩:∃ p,(a == 2)=p:=⟨_,rfl⟩
   simp only [hp2] at HE
   obtain⟨p3,hp3⟩:∃ p,(b == 3)=p:=⟨_,rfl⟩
   simp only [hp3] at HE
   cases p0 <;> cases p1 <;> cases p2 <;> cases p3 <;> (go_enter Tryz.func148,Tryz.ntmps148; go_wp2_with fail; go_ret2; exact⟨by rw [HE.out]; rfl,rfl⟩)
theorem quot_any (a b:Int) (w:yW):Calls zG 149 #[zU a,zU b] w fun e w'=>e=.returned (two (quotT a b))∧w'=w:=by
 cases h1:(b == 1) with
 | true =>
  have HE:Hid (quotT a b=(a,numY a)):=by show _=_; simp [quotT,h1]
  have cN:=JA a
  obtain⟨B,eB⟩:∃ B,numY a=B:=⟨_,rfl⟩
  simp only [eB] at cN HE
  clear eB
  cases B <;> (go_enter Tryz.func149,Tryz.ntmps149; go_wp2_with (go_at_call 117; refine (cN _).mono ?_; rintro e w1 ⟨rfl,e1⟩; obtain rfl:=e1.symm); go_ret2; exact⟨by rw [HE.out]; rfl,rfl⟩)
 | false =>
  have HE:Hid (quotT a b=(1,numY a && a == b)):=by show _=_; simp [quotT,h1]
  obtain⟨p0,hp0⟩:∃ p,(a == b)=p:=⟨_,rfl⟩
  simp only [hp0] at HE
  have cN:=JA a
  obtain⟨B,eB⟩:∃ B,numY a=B:=⟨_,rfl⟩
  simp only [eB] at cN HE
  clear eB
  cases p0 <;> cases B <;> (go_enter Tryz.func149,Tryz.ntmps149; go_wp2_with (go_at_call 117; refine (cN _).mono ?_; rintro e w1 ⟨rfl,e1⟩; obtain rfl:=e1.symm); go_ret2; exact⟨by rw [HE.out]; rfl,rfl⟩)
theorem alone_any (o a:Int) (w:yW):Calls zG 118 #[zU o,zU a] w fun e w'=>e=.returned (two (aloneT o a))∧w'=w:=by
 cases h1:(o == 2) with
 | true =>
  have HE:Hid (aloneT o a=(a,a == 5)):=by show _=_; simp [aloneT,h1]
  obtain⟨p0,hp0⟩:∃ p,(a == 5)=p:=⟨_,rfl⟩
  simp only [hp0] at HE
  cases p0 <;> (go_enter Tryz.func118,Tryz.ntmps118; go_wp2_with fail; go_ret2; exact⟨by rw [HE.out]; rfl,rfl⟩)
 | false =>
  have HE:Hid (aloneT o a=(a,numY a)):=by show _=_; simp [aloneT,h1]
  have cN:=JA a
  obtain⟨B,eB⟩:∃ B,numY a=B:=⟨_,rfl⟩
  simp only [eB] at cN HE
  clear eB
  cases B <;> (go_enter Tryz.func118,Tryz.ntmps118; go_wp2_with (go_at_call 117; refine (cN _).mono ?_; rintro e w1 ⟨rfl,e1⟩; obtain rfl:=e1.symm); go_ret2; exact⟨by rw [HE.out]; rfl,rfl⟩)
theorem pair_any (o a b:Int) (w:yW):Calls zG 119 #[zU o,zU a,zU b] w fun e w'=>e=.returned (two (Je o a b))∧w'=w:=by
 cases h8:(o == 8) with
 | true =>
  have HE:Hid (Je o a b=prodT a b):=by show _=_; simp [Je,h8]
  have cN:=prod_any a b
  obtain⟨⟨u,v⟩,eu⟩:∃ q,prodT a b=q:=⟨_,rfl⟩
  simp only [eu,two] at cN HE
  clear eu
  go_enter Tryz.func119,Tryz.ntmps119
  go_wp2_with (go_at_call 148; refine (cN _).mono ?_; rintro e w1 ⟨rfl,e1⟩; obtain rfl:=e1.symm)
  go_ret2
  exact⟨by rw [HE.out]; rfl,rfl⟩
 | false =>
  cases h9:(o == 9) with
  | true =>
   have HE:Hid (Je o a b=quotT a b):=by show _=_; simp [Je,h8,h9]
   have cN:=quot_any a b
   obtain⟨⟨u,v⟩,eu⟩:∃ q,quotT a b=q:=⟨_,rfl⟩
   simp only [eu,two] at cN HE
   clear eu
   go_enter Tryz.func119,Tryz.ntmps119
   go_wp2_with (go_at_call 149; refine (cN _).mono ?_; rintro e w1 ⟨rfl,e1⟩; obtain rfl:=e1.symm)
   go_ret2
   exact⟨by rw [HE.out]; rfl,rfl⟩
  | false =>
   cases h17:(o == 17) with
   | true =>
    have HE:Hid (Je o a b=(5,a == 5 && b == 5)):=by show _=_; simp [Je,h8,h9,h17]
    obtain⟨p0,hp0⟩:∃ p,(a == 5)=p:=⟨_,rfl⟩
    simp only [hp0] at HE
    obtain⟨p1,hp1⟩:∃ p,(b == 5)=p:=⟨_,rfl⟩
    simp only [hp1] at HE
    cases p0 <;> cases p1 <;> (go_enter Tryz.func119,Tryz.ntmps119; go_wp2_with fail; go_ret2; exact⟨by rw [HE.out]; rfl,rfl⟩)
   | false =>
    cases h18:(o == 18) with
    | true =>
     have HE:Hid (Je o a b=(5,a == 5 && b == 5)):=by show _=_; simp [Je,h8,h9,h17,h18]
     obtain⟨p0,hp0⟩:∃ p,(a == 5)=p:=⟨_,rfl⟩
     simp only [hp0] at HE
     obtain⟨p1,hp1⟩:∃ p,(b == 5)=p:=⟨_,rfl⟩
     simp only [hp1] at HE
     cases p0 <;> cases p1 <;> (go_enter Tryz.func119,Tryz.ntmps119; go_wp2_with fail; go_ret2; exact⟨by rw [HE.out]; rfl,rfl⟩)
    | false =>
     cases h13:(o == 13) with
     | true =>
      have HE:Hid (Je o a b=(if numY a then (5,a == b) else (0,false))):=by show _=_; simp [Je,h8,h9,h17,h18,h13]
      obtain⟨p0,hp0⟩:∃ p,(a == b)=p:=⟨_,rfl⟩
      simp only [hp0] at HE
      have cN:=JA a
      obtain⟨B,eB⟩:∃ B,numY a=B:=⟨_,rfl⟩
      simp only [eB] at cN HE
      clear eB
      cases p0 <;> cases B <;> (go_enter Tryz.func119,Tryz.ntmps119; go_wp2_with (go_at_call 117; refine (cN _).mono ?_; rintro e w1 ⟨rfl,e1⟩; obtain rfl:=e1.symm); go_ret2; exact⟨by rw [HE.out]; rfl,rfl⟩)
     | false =>
      cases h14:(o == 14) with
      | true =>
       have HE:Hid (Je o a b=(if numY a then (5,a == b) else (0,false))):=by show _=_; simp [Je,h8,h9,h17,h18,h13,h14]
       obtain⟨p0,hp0⟩:∃ p,(a == b)=p:=⟨_,rfl⟩
       simp only [hp0] at HE
       have cN:=JA a
       obtain⟨B,eB⟩:∃ B,numY a=B:=⟨_,rfl⟩
       simp only [eB] at cN HE
       clear eB
       cases p0 <;> cases B <;> (go_enter Tryz.func119,Tryz.ntmps119; go_wp2_with (go_at_call 117; refine (cN _).mono ?_; rintro e w1 ⟨rfl,e1⟩; obtain rfl:=e1.symm); go_ret2; exact⟨by rw [HE.out]; rfl,rfl⟩)
      | false =>
       cases h15:(o == 15) with
       | true =>
        have HE:Hid (Je o a b=(if numY a then (5,a == b) else (0,false))):=by show _=_; simp [Je,h8,h9,h17,h18,h13,h14,h15]
        obtain⟨p0,hp0⟩:∃ p,(a == b)=p:=⟨_,rfl⟩
        simp only [hp0] at HE
        have cN:=JA a
        obtain⟨B,eB⟩:∃ B,numY a=B:=⟨_,rfl⟩
        simp only [eB] at cN HE
        clear eB
        cases p0 <;> cases B <;> (go_enter Tryz.func119,Tryz.ntmps119; go_wp2_with (go_at_call 117; refine (cN _).mono ?_; rintro e w1 ⟨rfl,e1⟩; obtain rfl:=e1.symm); go_ret2; exact⟨by rw [HE.out]; rfl,rfl⟩)
       | false =>
        cases h16:(o == 16) with
        | true =>
         have HE:Hid (Je o a b=(if numY a then (5,a == b) else (0,false))):=by show _=_; simp [Je,h8,h9,h17,h18,h13,h14,h15,h16]
         obtain⟨p0,hp0⟩:∃ p,(a == b)=p:=⟨_,rfl⟩
         simp only [hp0] at HE
         have cN:=JA a
         obtain⟨B,eB⟩:∃ B,numY a=B:=⟨_,rfl⟩
         simp only [eB] at cN HE
         clear eB
         cases p0 <;> cases B <;> (go_enter Tryz.func119,Tryz.ntmps119; go_wp2_with (go_at_call 117; refine (cN _).mono ?_; rintro e w1 ⟨rfl,e1⟩; obtain rfl:=e1.symm); go_ret2; exact⟨by rw [HE.out]; rfl,rfl⟩)
        | false =>
         cases h11:(o == 11) with
         | true =>
          have HE:Hid (Je o a b=(5,a == b)):=by show _=_; simp [Je,h8,h9,h17,h18,h13,h14,h15,h16,h11]
          obtain⟨p0,hp0⟩:∃ p,(a == b)=p:=⟨_,rfl⟩
          simp only [hp0] at HE
          cases p0 <;> (go_enter Tryz.func119,Tryz.ntmps119; go_wp2_with fail; go_ret2; exact⟨by rw [HE.out]; rfl,rfl⟩)
         | false =>
          cases h12:(o == 12) with
          | true =>
           have HE:Hid (Je o a b=(5,a == b)):=by show _=_; simp [Je,h8,h9,h17,h18,h13,h14,h15,h16,h11,h12]
           obtain⟨p0,hp0⟩:∃ p,(a == b)=p:=⟨_,rfl⟩
           simp only [hp0] at HE
           cases p0 <;> (go_enter Tryz.func119,Tryz.ntmps119; go_wp2_with fail; go_ret2; exact⟨by rw [HE.out]; rfl,rfl⟩)
          | false =>
           have HE:Hid (Je o a b=(a,numY a && a == b)):=by show _=_; simp [Je,h8,h9,h17,h18,h13,h14,h15,h16,h11,h12]
           obtain⟨p0,hp0⟩:∃ p,(a == b)=p:=⟨_,rfl⟩
           simp only [hp0] at HE
           have cN:=JA a
           obtain⟨B,eB⟩:∃ B,numY a=B:=⟨_,rfl⟩
           simp only [eB] at cN HE
           clear eB
           cases p0 <;> cases B <;> (go_enter Tryz.func119,Tryz.ntmps119; go_wp2_with (go_at_call 117; refine (cN _).mono ?_; rintro e w1 ⟨rfl,e1⟩; obtain rfl:=e1.symm); go_ret2; exact⟨by rw [HE.out]; rfl,rfl⟩)
def fldL:List Int:=[0,3,3,3,2,4,2]
def fldT (f:Int):Int:=fldL.getD f.toNat 0
def fldV:Array Value:=(fldL.map (fun i=>Value.int .u8 i)).toArray
def FTab (w : yW) : Prop := w.var? Tryz.prog "tripwire/types.fieldTypes" = some fldV
theorem fld_global : Tryz.prog.globalNamed "tripwire/types.fieldTypes" = some 1 := by kernel_rfl
theorem FTab.on {w w':yW}(h:FTab w) (hb:yD w w'):FTab w':=by
 unfold FTab World.var? at *
 rw [fld_global] at h ⊢
 simp only [Option.bind_some] at h ⊢
 have hlt:1 < w§:=by
  rcases Nat.lt_or_ge 1 w§ with h' | h'
  ·exact h'
  ·rw [Array.getElem?_eq_none h'] at h; simp at h
 rw [hb.block 1 hlt]
 exact h
theorem FTab.cell {w:yW}(h:FTab w) (i:Nat) (hi:i < 7):w.cell? 1¢i=some (zU (fldT i)):=by
 have:=World.var?_cell fld_global h i
 rw [this]
 unfold fldV fldT
 have hl:i < fldL.length:=hi
 simp [List.getElem?_map,List.getElem?_eq_getElem hl,List.getD]
def fitT (h:Hd) (n:Nat) (a b c:Int):Int × Bool :=
 if h.k == 1 then (h.t,true) else if h.k == 3 then (fldT h.f,true) else if h.k == 4 then (5,true) else if h.k == 7 then (b,a == 5 && b == c) else if h.k == 9 then (h.t,numY a)
 else if (n:Int) == 1 then aloneT h.o a else Je h.o a b
theorem fit_any (k o t n f:Int) (x:yB) (p:Int) (am:Option Addr) (cm:Nat) (ks:List Nd) (a b c:Int) (w:yW) (hf:k=3→0≤f∧f < 7) (ht:FTab w) :
  Calls zG 82 #[.agg (zW k o t n f x am ks cm p),.agg #[zU a,zU b,zU c]] w fun e w'=>e=.returned (two (fitT ⟨k,o,t,n,f,x,p⟩ ks.length a b c))∧yD w w':=by
 obtain⟨l,el⟩:∃ l,ks.length=l:=⟨_,rfl⟩
 rw [el]
 clear el
 have hb1:=Qc w (.cells #[zU k,zU o,zU t,zI n,zU f,.string x,.slice am l cm,zI p] 48)
 have hn1:=Qd w (.cells #[zU k,zU o,zU t,zI n,zU f,.string x,.slice am l cm,zI p] 48)
 have hs1:=Qf w (.cells #[zU k,zU o,zU t,zI n,zU f,.string x,.slice am l cm,zI p] 48)
 obtain⟨W1,e1⟩:∃ W,w.alloc (.cells #[zU k,zU o,zU t,zI n,zU f,.string x,.slice am l cm,zI p] 48)=W:=⟨_,rfl⟩
 have E1:Hid (w.alloc (.cells #[zU k,zU o,zU t,zI n,zU f,.string x,.slice am l cm,zI p] 48)=W1):=e1
 rw [e1] at hb1 hn1 hs1
 have hb2:=Qc W1 (.cells #[zU a,zU b,zU c] 138)
 have hn2:=Qd W1 (.cells #[zU a,zU b,zU c] 138)
 have hk2:=(hb2.block _ (zJ hn1).1).trans hn1
 have hbw:=Qe hb1 hb2
 rw [hs1] at hn2
 have HF:Hid (k=3→0≤f∧f < 7):=hf
 have HT:Hid (FTab w):=ht
 have HS1:Hid (W1§=w§+1):=hs1
 obtain⟨W2,e2⟩:∃ W,W1.alloc (.cells #[zU a,zU b,zU c] 138)=W:=⟨_,rfl⟩
 have E2:Hid (W1.alloc (.cells #[zU a,zU b,zU c] 138)=W2):=e2
 rw [e2] at hn2 hk2 hbw
 have HN2:Hid (W2.heap[w§+1]? = (zC #[zU a,zU b,zU c] 138)):=hn2
 have HN1:Hid (W2.heap[w§]? = (zC #[zU k,zU o,zU t,zI n,zU f,.string x,.slice am l cm,zI p] 48)):=hk2
 have HBW:Hid (yD w W2):=hbw
 clear hb1 hn1 hs1 hb2 hn2 hk2 hbw hf ht e1 e2
 go_enter Tryz.func82,Tryz.ntmps82
 go_upto_region 1 with fail
 rw [E1.out,E2.out]
 try rw [HS1.out]
 have z0:W2.cell? ⟨w§+1,0,none⟩=some (zU a):=Qa HN2.out 0
 have z1:W2.cell? ⟨w§+1,1,none⟩=some (zU b):=Qa HN2.out 1
 have z2:W2.cell? ⟨w§+1,2,none⟩=some (zU c):=Qa HN2.out 2
 go_quiet (fail)
 obtain⟨V,eV⟩:∃ V,W2.drewN nq=V:=⟨_,rfl⟩
 have hV1:V.heap[w§]? = (zC #[zU k,zU o,zU t,zI n,zU f,.string x,.slice am l cm,zI p] 48):=by rw [← eV]; exact HN1.out
 have HBV:Hid (yD w V):=by
  have h1:=HBW.out
  rw [← eV]
  exact⟨h1.os,h1.tape,h1.output,h1.size,h1.block⟩
 rw [eV]
 clear eV HN1 HN2 HBW z0 z1 z2 E1 E2 HS1
 have y0:V.cell? w§¢0=some (zU k):=Qa hV1 0
 have y1:V.cell? w§¢1=some (zU o):=Qa hV1 1
 have y2:V.cell? w§¢2=some (zU t):=Qa hV1 2
 have y4:V.cell? w§¢4=some (zU f):=Qa hV1 4
 have y6:V.cell? w§¢6=some (.slice am l cm):=Qa hV1 6
 clear hV1
 cases h1:(k == 1) with
 | true =>
  have HE:Hid (fitT ⟨k,o,t,n,f,x,p⟩ l a b c=(t,true)):=by show _=_; simp [fitT,h1]
  go_wp2_with fail
  go_ret2
  exact⟨by rw [HE.out]; rfl,HBV.out⟩
 | false =>
  cases h3:(k == 3) with
  | true =>
   have HE:Hid (fitT ⟨k,o,t,n,f,x,p⟩ l a b c=(fldT f,true)):=by show _=_; simp [fitT,h1,h3]
   have hf:=HF.out (by simpa using h3)
   obtain⟨i,ei⟩:∃ i:Nat,(i:Int)=f:=⟨f.toNat,by omega⟩
   subst ei
   have hi:i < 7:=by omega
   have hi2:(i:Int) < 7:=by omega
   have c0:V.cell? 1¢i=some (zU (fldT i)):=(HT.out.on HBV.out).cell i hi
   go_wp2_with fail
   go_ret2
   exact⟨by rw [HE.out]; rfl,HBV.out⟩
  | false =>
   cases h4:(k == 4) with
   | true =>
    have HE:Hid (fitT ⟨k,o,t,n,f,x,p⟩ l a b c=(5,true)):=by show _=_; simp [fitT,h1,h3,h4]
    go_wp2_with fail
    go_ret2
    exact⟨by rw [HE.out]; rfl,HBV.out⟩
   | false =>
    cases h7:(k == 7) with
    | true =>
     have HE:Hid (fitT ⟨k,o,t,n,f,x,p⟩ l a b c=(b,a == 5 && b == c)):=by show _=_; simp [fitT,h1,h3,h4,h7]
     obtain⟨p0,hp0⟩:∃ p,(a == 5)=p:=⟨_,rfl⟩
     obtain⟨p1,hp1⟩:∃ p,(b == c)=p:=⟨_,rfl⟩
     simp only [hp0,hp1] at HE
     cases p0 <;> cases p1 <;> (go_wp2_with fail; go_ret2; exact⟨by rw [HE.out]; rfl,HBV.out⟩)
    | false =>
     cases h9:(k == 9) with
     | true =>
      have HE:Hid (fitT ⟨k,o,t,n,f,x,p⟩ l a b c=(t,numY a)):=by show _=_; simp [fitT,h1,h3,h4,h7,h9]
      have cN:=JA a
      obtain⟨B,eB⟩:∃ B,numY a=B:=⟨_,rfl⟩
      simp only [eB] at cN HE
      clear eB
      go_upto_region 12 with fail
      go_quiet ((go_at_call 117; refine Calls.quiet_of_same (cN _)))
      go_wp2_with fail
      go_ret2
      exact⟨by rw [HE.out]; rfl,by have h1:=HBV.out; exact⟨h1.os,h1.tape,h1.output,h1.size,h1.block⟩⟩
     | false =>
      cases hl:((l:Int) == 1) with
      | true =>
       have HE:Hid (fitT ⟨k,o,t,n,f,x,p⟩ l a b c=aloneT o a):=by show _=_; simp [fitT,h1,h3,h4,h7,h9,hl]
       have cN:=alone_any o a
       obtain⟨⟨u,v⟩,eu⟩:∃ q,aloneT o a=q:=⟨_,rfl⟩
       simp only [eu,two] at cN HE
       clear eu
       go_wp2_with (go_at_call 118; refine (cN _).mono ?_; rintro e w1 ⟨rfl,e1⟩; obtain rfl:=e1.symm)
       go_ret2
       exact⟨by rw [HE.out]; rfl,HBV.out⟩
      | false =>
       have HE:Hid (fitT ⟨k,o,t,n,f,x,p⟩ l a b c=Je o a b):=by show _=_; simp [fitT,h1,h3,h4,h7,h9,hl]
       have cN:=pair_any o a b
       obtain⟨⟨u,v⟩,eu⟩:∃ q,Je o a b=q:=⟨_,rfl⟩
       simp only [eu,two] at cN HE
       clear eu
       go_wp2_with (go_at_call 119; refine (cN _).mono ?_; rintro e w1 ⟨rfl,e1⟩; obtain rfl:=e1.symm)
       go_ret2
       exact⟨by rw [HE.out]; rfl,HBV.out⟩
def txtData {H:Type}(zs:List yB):DataW H:=.agg (zs.map fun z=>.lit (.string z.data.toList))
theorem tab_data:(Rows.laid_tripwire_lex_words:DataW Unit)=txtData Ki:=by rfl
theorem cells_of_txt {H:Type}{enc:TypeId × Value→H}{P:Program}{w:yW}{base:Nat}{sp:Nat→Bool}{held:Bool}{fuel:Nat}{t e:TypeId}{n:Nat}{cs:List Value}{zs:List yB}{p:List MemPlace}
  (ht:P.underlying t=some (.array n e)) (he:P.underlying e=some .string) (hce:P.cellsOf e=1) (hct:P.cellsOf t=n)
  (h:DataW.trod enc P w base sp held fuel t cs=some (txtData zs,p)):cs=zs.map Value.string:=by
 cases fuel with
 | zero=>simp [DataW.trod] at h
 | succ fuel =>
  simp only [DataW.trod,ht,hce,hct,Nat.mul_one] at h
  split at h
  ·rename_i hl
   obtain⟨xs,hm,hx⟩:=Option.map_eq_some_iff.1 h
   have hxs:xs.map (·.1)=zs.map fun z=>(DataW.lit (.string z.data.toList):DataW H):=by
    have:=congrArg Prod.fst hx
    simpa [txtData] using this
   have hxl:xs.length=n:=by simpa using Lib.mapM_length hm
   have hzl:zs.length=n:=by
    have:=congrArg List.length hxs
    simp at this
    omega
   apply List.ext_getElem?
   intro i
   by_cases hi:i < n
   ·obtain⟨b,hb,hf⟩:=Lib.mapM_at hm i i (by simp [hi])
    obtain⟨z,hc,rfl,_⟩:=DataW.trod_string he hf
    have h1:cs[i]? = some (.string z):=by
     have:=congrArg (·[0]?) hc
     simpa [List.getElem?_take,List.getElem?_drop] using this
    have h2:(xs.map (·.1))[i]? = some (DataW.lit (.string z.data.toList):DataW H):=by simp [hb]
    rw [hxs] at h2
    simp only [List.getElem?_map,Option.map_eq_some_iff,DataW.lit.injEq,Lit.string.injEq] at h2
    obtain⟨z',hz',e2⟩:=h2
    simp [h1,hz',str_eq e2]
   ·rw [List.getElem?_eq_none (by omega),List.getElem?_eq_none (by simp; omega)]
  ·cases h
theorem txt_of_head {P:Program}{W:yW}{name:String}{zs:List yB}{rest:List (String × DataW Unit)}{g:Nat}{t e:TypeId}{n:Nat}
  (hg:P.globalNamed name=some g) (hty:(P.globals[g]?).map (·.type)=some t) (ht:P.underlying t=some (.array n e)) (he:P.underlying e=some .string) (hce:P.cellsOf e=1) (hct:P.cellsOf t=n)
  (h:laidMet P ((name,txtData zs) :: rest) W):W.var? P name=some (zs.map Value.string).toArray:=by
 obtain⟨ps,⟨g',t',cs,fuel,p,q,hg',ht',hvar,hd,_,_⟩,_⟩:=h
 obtain rfl:=Option.some.inj (hg.symm.trans hg')
 obtain rfl:=Option.some.inj (hty.symm.trans ht')
 rw [hvar,← cells_of_txt ht he hce hct hd]
theorem ety_of_var {W : yW} (h : W.var? Tryz.prog "errors.errorType" = some #[.iface 196 (.agg #[.pointer (some ⟨4, 36, none⟩)])]) : Ety W := by
 have hg : Tryz.prog.globalNamed "errors.errorType" = some 0 := by kernel_rfl
 have:=World.var?_cell hg h 0
 exact this
theorem err_row (ty:TypeId) (h1:ty < Tryz.prog.types.size) (h2:Tryz.prog.rowNamed ty [101,114,114,111,114]=true):ty=36:=by
 have h:((List.range Tryz.prog.types.size).all fun t=>!(Tryz.prog.rowNamed t [101,114,114,111,114]) || t == 36)=true:=by kernel_rfl
 have:=List.all_eq_true.1 h ty (List.mem_range.2 h1)
 simp [h2] at this
 exact this
theorem ftab_data:(Rows.laid_tripwire_types_fieldTypes:DataW Unit)=Lib.tabData .u8 fldL:=by rfl
theorem tab_of_laid {W:yW}(h:laidMetH Tryz.prog Rows.typesNamesRow.laid W):Tab W∧FTab W∧Ety W:=by
 have h2 : laidMet Tryz.prog [("tripwire/lex.words", (Rows.laid_tripwire_lex_words : DataW Unit)), ("tripwire/types.fieldTypes", (Rows.laid_tripwire_types_fieldTypes : DataW Unit))] W ∧ handlesMet Tryz.prog [("errors.errorType", (Rows.laid_errors_errorType : DataW Unit))] W := h
 refine⟨?_,?_,?_⟩
 ·have h3:=h2.1
  rw [tab_data] at h3
  exact txt_of_head (g:=2) (t:=245) (n:=41) (e:=9) zK zK zK zK zK zK h3
 ·have h3:=laidMet.tail h2.1
  rw [ftab_data] at h3
  exact Lib.tabIs_of_head (g:=1) (t:=184) (n:=7) (e:=44) zK zK zK zK zK zK h3
 ·obtain ⟨name, u, ty, e1, e2, e3, e4, e5⟩ : ∃ name u ty, (Rows.laid_errors_errorType : DataW Unit).handleName? = some name ∧ Option.map (fun x => x.snd) (Array.find? (fun x => x.fst == "internal/reflectlite.rtype") Tryz.prog.cutTypes) = some u ∧ ty < Tryz.prog.types.size ∧ Tryz.prog.rowNamed ty name = true ∧ World.var? Tryz.prog W "errors.errorType" = some #[Value.iface u (Value.agg #[typeHandle Tryz.prog ty])] := h2.2 _ (List.mem_singleton.2 rfl)
  have f1:(Rows.laid_errors_errorType:DataW Unit).handleName? = some [101,114,114,111,114]:=by kernel_rfl
  have f2 : Option.map (fun x => x.snd) (Array.find? (fun x => x.fst == "internal/reflectlite.rtype") Tryz.prog.cutTypes) = some 196 := by kernel_rfl
  obtain rfl:=Option.some.inj (f1.symm.trans e1)
  obtain rfl:=Option.some.inj (f2.symm.trans e2)
  obtain rfl:=err_row ty e3 e4
  exact ety_of_var e5
theorem door_met (os:Os) (args:Array Value):laidMetH Tryz.prog Rows.typesNamesRow.laid ((World.doorLaid Tryz.prog 400 os).forCall (fun _ _=>0) ⟨#[],args,[]⟩).memory :=
 laidMetH_of_parts3 (fuel:=8) (laidMet_of_run' 8 zK zK) zK zK
open Go.Maps
def FlAt (w:yW) (b:Nat) (c:yB) (p no:Int):Prop:=w.heap[b]? = (zC #[.string c,zI p,.iface 28 (zI no)] 121)
theorem FlAt.on {w w':yW}{b:Nat}{c:yB}{p no:Int}(h:FlAt w b c p no) (k:yD w w'):FlAt w' b c p no:=(k.block b (zJ h).1).trans h
theorem untyped_any (p no:Int) (w:yW):Calls zG 41 #[zI p,zI no] w fun e w'=>e=.returned (.iface 118 (zP w§))∧FlAt w' w§ ZY p no∧yD w w':=by
 go_enter Tryz.func41,Tryz.ntmps41
 go_wp2_with fail
 go_ret
 exact⟨rfl,Qd _ _,Qc _ _⟩
theorem JI (p no:Int) (w:yW):Calls zG 31 #[zI p,zI no] w fun e w'=>e=.returned (.iface 118 (zP w§))∧FlAt w' w§ ZH p no∧yD w w':=by
 go_enter Tryz.func31,Tryz.ntmps31
 go_wp2_with fail
 go_ret
 exact⟨rfl,Qd _ _,Qc _ _⟩
def RgM (w:yW) (b:Nat) (L:yB→Option Int):Prop :=
 ∃ (n:Nat) (D:DataW Unit),w.ownsMap Tryz.prog 9 (plainElem Tryz.prog 44) b n D∧∀ x:yB,x.size≤maxLen →
  Maps.has D (.string x.data.toList)=(L x).isSome∧D.atKey (.string x.data.toList) (.lit (.int .u8 0))=.lit (.int .u8 ((L x).getD 0))
theorem RgM.on {w w':yW}{b:Nat}{L:yB→Option Int}(h:RgM w b L) (k:yD w w'):RgM w' b L:=by
 obtain⟨n,D,ho,hL⟩:=h
 have hlt:=ho.lt
 obtain⟨es,clock,hb,F,hs,hD⟩:=ho
 exact⟨n,D,⟨es,clock,(k.block b hlt).trans hb,F,hs,hD⟩,hL⟩
mutual
def tyR (L:yB→Option Int):Nd→Except (Int × Int) Int
 | .mk h _ _ ks=>match tysR L ks with
  | .error e=>.error e
  | .ok ts=>if h.k == 2 then (match L h.x with
    | some t=>.ok t
    | none=>.error (h.p,151))
   else if (fitT h ks.length (ts.getD 0 0) (ts.getD 1 0) (ts.getD 2 0)).2 then .ok (fitT h ks.length (ts.getD 0 0) (ts.getD 1 0) (ts.getD 2 0)).1 else .error (h.p,152)
def tysR (L:yB→Option Int):List Nd→Except (Int × Int) (List Int)
 | []=>.ok []
 | k :: ks=>match tyR L k with
  | .error e=>.error e
  | .ok t=>match tysR L ks with
   | .error e=>.error e
   | .ok ts=>.ok (t :: ts)
end
theorem law9:Keyed Tryz.prog 9:=string_keyed Tryz.underlying9
theorem zero34 (w:yW):(zeroValue 44).run Tryz.prog w=.ok (zU 0) w:=by kernel_rfl
open Go.Extern.Stop Go.Stop Go.Extern
theorem Mv.toBelow {w w':yW}(h:Mv w w' (fun _=>False)):yD w w':=h.below (Nat.le_refl _) (fun _ e=>e.elim)
theorem errnoIn_any {w:yW}{v:Value}{n p:Int}(h:Er w v n p) (hg:Ety w) :
  Calls zG 28 #[v] w fun e w'=>e=.returned (zI n)∧yD w w':=by
 have b1:=Qc w (.cells #[zI 0] 28)
 have n1:=Qd w (.cells #[zI 0] 28)
 have HB1:Hid (yD w (w.alloc (.cells #[zI 0] 28))):=b1
 have s1:=Qf w (.cells #[zI 0] 28)
 have cA:=as49E_any (h.on b1) (hg.on b1) w§¢0 _ (Qa n1 0) (Qb n1 0)
 have HN:Hid ((w.alloc (.cells #[zI 0] 28)).heap[w§]? = some (.cells #[zI 0] 28)∧(w.alloc (.cells #[zI 0] 28))§=w§+1):=⟨n1,s1⟩
 obtain⟨T,x,rfl⟩:=h.face
 clear b1 n1 s1 h hg
 go_enter Tryz.func28,Tryz.ntmps28
 go_wp2_with fail
 refine cA.mono ?_
 rintro e w1 ⟨b,rfl,hh⟩
 clear cA
 rcases hh with ⟨rfl,V,hV,eV⟩ | ⟨rfl,hn,hV⟩
 ·have hv:V.heap[w§]? = (zC #[zI 0] 28):=(hV.block _ (by rw [HN.out.2]; omega)).trans HN.out.1
  have c1:w1.cell? w§¢0=some (zI n):=by
   rw [eV]; exact Qa (Qi (j:=0) (zI n) hv) 0
  have HB:Hid (yD w w1):=by
   show Below _ _ _
   rw [eV]
   exact ((Mv.ofBelow (Qe HB1.out hV)).setCell (F:=fun _=>False) (a:=w§¢0) (.inr (Nat.le_refl _)) _).toBelow
  clear hv hV eV HN HB1
  go_wp2_with fail
  go_ret
  exact⟨rfl,HB.out⟩
 ·have HB:Hid (yD w w1):=Qe HB1.out hV
  subst hn
  clear hV HN HB1
  go_wp2_with fail
  go_ret
  exact⟨rfl,HB.out⟩
theorem placeIn_any {w:yW}{v:Value}{n p:Int}(h:Er w v n p) (hg:Ety w) :
  Calls zG 29 #[v] w fun e w'=>e=.returned (zI p)∧yD w w':=by
 have b1:=Qc w (.cells #[.pointer none] 118)
 have n1:=Qd w (.cells #[.pointer none] 118)
 have HB1:Hid (yD w (w.alloc (.cells #[.pointer none] 118))):=b1
 have s1:=Qf w (.cells #[.pointer none] 118)
 have cA:=asF1_any (h.on b1) (hg.on b1) w§¢0 _ (Qa n1 0) (Qb n1 0)
 have HN:Hid ((w.alloc (.cells #[.pointer none] 118)).heap[w§]? = some (.cells #[.pointer none] 118)∧(w.alloc (.cells #[.pointer none] 118))§=w§+1):=⟨n1,s1⟩
 obtain⟨T,x,rfl⟩:=h.face
 clear b1 n1 s1 h hg
 go_enter Tryz.func29,Tryz.ntmps29
 go_wp2_with fail
 refine cA.mono ?_
 rintro e w1 ⟨b,rfl,hh⟩
 clear cA
 rcases hh with ⟨rfl,F,c,er,hF,V,hV,eV⟩ | ⟨rfl,hn,hV⟩
 ·have hv:V.heap[w§]? = (zC #[.pointer none] 118):=(hV.block _ (by rw [HN.out.2]; omega)).trans HN.out.1
  have c1:w1.cell? w§¢0=some (zP F):=by
   rw [eV]; exact Qa (Qi (j:=0) (zP F) hv) 0
  have hF':V.heap[F]? = (zC #[.string c,zI p,er] 121):=(hV.block _ (zJ hF).1).trans hF
  have c2:w1.cell? F¢1=some (zI p):=by
   rw [eV]
   refine Qa ((Below.heap_setCell V w§¢0 (zP F) F ?_).trans hF') 1
   intro e
   have e':F=w§:=e
   rw [e',hv] at hF'
   cases hF'
  have HB:Hid (yD w w1):=by
   show Below _ _ _
   rw [eV]
   exact ((Mv.ofBelow (Qe HB1.out hV)).setCell (F:=fun _=>False) (a:=w§¢0) (.inr (Nat.le_refl _)) _).toBelow
  clear hv hV eV HN HB1 hF hF'
  go_wp2_with fail
  go_ret
  exact⟨rfl,HB.out⟩
 ·have HB:Hid (yD w w1):=Qe HB1.out hV
  subst hn
  clear hV HN HB1
  go_wp2_with fail
  go_ret
  exact⟨rfl,HB.out⟩
theorem KW {w:yW}{v:Value}{n p:Int}(h:Er w v n p) (hg:Ety w) :
  Calls zG 10 #[v] w fun e w'=>e=.returned (.tuple #[zI n,zI p])∧yD w w':=by
 have cE:=errnoIn_any h hg
 have HE:Hid (Er w v n p∧Ety w):=⟨h,hg⟩
 obtain⟨T,x,rfl⟩:=h.face
 clear h hg
 go_enter Tryz.func10,Tryz.ntmps10
 go_wp2_with fail
 refine cE.mono ?_
 rintro e w1 ⟨rfl,hb⟩
 have HB:Hid (yD w w1):=hb
 have cP:=placeIn_any (HE.out.1.on hb) (HE.out.2.on hb)
 clear cE hb
 go_wp2_with fail
 refine cP.mono ?_
 rintro e w2 ⟨rfl,hb⟩
 have HB2:Hid (yD w w2):=Qe HB.out hb
 clear cP hb
 go_wp2_with fail
 exact bodyPost_ret (KV (p:=2) (u:=3) rfl _ _) rfl ⟨rfl,HB2.out⟩
theorem pwrong_nil (w:yW) :
  Calls zG 10 #[.nilIface] w fun e w'=>e=.returned (.tuple #[zI 0,zI 0])∧w'=w:=by
 go_enter Tryz.func10,Tryz.ntmps10
 go_wp2_with fail
 exact bodyPost_ret (KV (p:=2) (u:=3) rfl _ _) rfl ⟨rfl,rfl⟩
theorem FlAt.er {w:yW}{b:Nat}{c:yB}{p no:Int}(h:FlAt w b c p no):Er w (.iface 118 (zP b)) no p:=.inr (.inl ⟨b,c,rfl,h⟩)
theorem around_any (F:Nat) (c:yB) (p no:Int) (w:yW) (hF:FlAt w F c p no) (hg:Ety w) :
  Calls zG 105 #[.iface 118 (zP F)] w fun e w'=>∃ v,e=.returned v∧Er w' v no p∧yD w w':=by
 have b1:=Qc w (.cells #[.string ZH,zI 0,.iface 118 (zP F)] 121)
 have n1:=Qd w (.cells #[.string ZH,zI 0,.iface 118 (zP F)] 121)
 have s1:=Qf w (.cells #[.string ZH,zI 0,.iface 118 (zP F)] 121)
 obtain⟨W1,e1⟩:∃ W,w.alloc (.cells #[.string ZH,zI 0,.iface 118 (zP F)] 121)=W:=⟨_,rfl⟩
 have E1:Hid (w.alloc (.cells #[.string ZH,zI 0,.iface 118 (zP F)] 121)=W1):=e1
 rw [e1] at b1 n1 s1
 have b2:=Qc W1 (.cells #[.pointer none] 118)
 have n2:=Qd W1 (.cells #[.pointer none] 118)
 have k2:=(b2.block _ (zJ n1).1).trans n1
 have bw:=Qe b1 b2
 rw [s1] at n2
 have HS1:Hid (W1§=w§+1):=s1
 obtain⟨W2,e2⟩:∃ W,W1.alloc (.cells #[.pointer none] 118)=W:=⟨_,rfl⟩
 have E2:Hid (W1.alloc (.cells #[.pointer none] 118)=W2):=e2
 rw [e2] at n2 k2 bw
 have hFlt:=(zJ hF).1
 have cA:=asF_any F¢0 ⟨w§+1,0,none⟩ (.pointer none) W2 (hg.on bw) (Qa n2 0) (Qb n2 0)
 have HB:Hid (yD w W2):=bw
 have HK:Hid (W2.heap[w§]? = (zC #[.string ZH,zI 0,.iface 118 (zP F)] 121)∧W2.heap[w§+1]? = (zC #[.pointer none] 118)∧FlAt W2 F c p no):=⟨k2,n2,hF.on bw⟩
 clear b1 n1 s1 b2 n2 k2 bw e1 e2 hg hF
 go_enter Tryz.func105,Tryz.ntmps105
 go_upto_region 3 with fail
 rw [E1.out]
 try rw [HS1.out]
 rw [E2.out]
 clear E1 E2 HS1
 go_wp2_with fail
 refine cA.mono ?_
 rintro e w3 ⟨rfl,V,hV,rfl⟩
 have h1:=(hV.block _ (zJ HK.out.1).1).trans HK.out.1
 have h2:=(hV.block _ (zJ HK.out.2.1).1).trans HK.out.2.1
 have h3:=HK.out.2.2.on hV
 have hb:=Qe HB.out hV
 obtain⟨U,eU⟩:∃ U,V.setCell ⟨w§+1,0,none⟩ (zP F)=U:=⟨_,rfl⟩
 have q2:=heap_setCell_same V (w§+1) 0 _ _ (zP F) h2
 have q1:=(Below.heap_setCell V ⟨w§+1,0,none⟩ (zP F) w§ (by simp)).trans h1
 have q3:=(Below.heap_setCell V ⟨w§+1,0,none⟩ (zP F) F (by simp; omega)).trans h3
 have qb:=hb.setCell (p:=⟨w§+1,0,none⟩) (by simp) (zP F)
 rw [eU] at q1 q2 q3 qb ⊢
 have t0:U.cell? ⟨w§+1,0,none⟩=some (zP F):=Qa q2 0
 have t1:U.cell? F¢1=some (zI p):=Qa q3 1
 have t2:U.cell? w§¢1=some (zI 0):=Qa q1 1
 have t3:U.frozen? w§¢1=false:=Qb q1 1
 have HQ:Hid (U.heap[w§]? = (zC #[.string ZH,zI 0,.iface 118 (zP F)] 121)∧FlAt U F c p no∧yD w U):=⟨q1,q3,qb⟩
 clear h1 h2 h3 hb eU q1 q2 q3 qb cA hV HK HB
 go_wp2_with fail
 go_ret
 refine⟨_,rfl,.inr (.inr (.inl ⟨w§,_,F,c,p,rfl,heap_setCell_same U w§ 1 _ _ _ HQ.out.1,?_⟩)),HQ.out.2.2.setCell (by simp) _⟩
 exact (Below.heap_setCell U w§¢1 _ F (by simp; omega)).trans HQ.out.2.1
end Go.Proofs.YtoogodlnnijikaaGreatDoor
