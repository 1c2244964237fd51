import Derived.Test.YtoogodlnnijikaaGreatDoorA0
import Derived.Test.YtoogodlnnijikaaGreatDoorA30
import Derived.Test.YtoogodlnnijikaaGreatDoorRows
import Derived.Test.YtoogodlnnijikaaGreatDoorA3
import Derived.Test.YtoogodlnnijikaaGreatDoorA4
import Derived.LaidMore
import Derived.LaidHandle
import Derived.MakeChecks
import Derived.Stop.LaidErr
import Derived.Lib.LaidTab
import Derived.Test.YtoogodlnnijikaaGreatDoorA7
import Derived.Test.YtoogodlnnijikaaGreatDoorA2
import Derived.Test.YtoogodlnnijikaaGreatDoorA29
namespace Go.Proofs.YtoogodlnnijikaaGreatDoor
set_option maxHeartbeats 8000000
set_option maxRecDepth 100000
open Go.RowKit
set_option linter.unusedVariables false
set_option linter.unusedSimpArgs false
def numY (a:Int):Bool:=decide (1≤a) && decide (a≤4)
def prodT (a b:Int):Int × Bool:=if a == 1 then (b,numY b) else if b == 1 then (a,numY a) else (1,(a == 3 && b == 2) || (a == 2 && b == 3))
def quotT (a b:Int):Int × Bool:=if b == 1 then (a,numY a) else (1,numY a && a == b)
def aloneT (o a:Int):Int × Bool:=if o == 2 then (a,a == 5) else (a,numY a)
def pairT (o a b:Int):Int × Bool :=
 if o == 8 then prodT a b else if o == 9 then quotT a b else if o == 17 || o == 18 then (5,a == 5 && b == 5)
 else if o == 13 || o == 14 || o == 15 || o == 16 then (if numY a then (5,a == b) else (0,false))
 else if o == 11 || o == 12 then (5,a == b) else (a,numY a && a == b)
def two (p:Int × Bool):Value:=.tuple #[zU p.1,.bool p.2]
theorem num_any (t:Int) (w:yW):Calls zG 117 #[zU t] w fun e w'=>e=.returned (.bool (numY t))∧w'=w:=by
 unfold numY
 obtain⟨p,hp⟩:∃ p,decide (1≤t)=p:=⟨_,rfl⟩
 obtain⟨q,hq⟩:∃ q,decide (t≤4)=q:=⟨_,rfl⟩
 rw [hp,hq]
 cases p <;> cases q <;> (go_enter Tryz.func117,Tryz.ntmps117; go_wp2_with fail; go_ret; exact⟨rfl,rfl⟩)
theorem prod_any (a b:Int) (w:yW):Calls zG 148 #[zU a,zU b] w fun e w'=>e=.returned (two (prodT a b))∧w'=w:=by
 cases h1:(a == 1) with
 | true =>
  have HE:Hid (prodT a b=(b,numY b)):=by show _=_; simp [prodT,h1]
  have cN:=num_any b
  obtain⟨B,eB⟩:∃ B,numY b=B:=⟨_,rfl⟩
  simp only [eB] at cN HE
  clear eB
  cases B <;> (go_enter Tryz.func148,Tryz.ntmps148; go_wp2_with (go_at_call 117; refine (cN _).mono ?_; rintro e w1 ⟨rfl,e1⟩; obtain rfl:=e1.symm); go_ret2; exact⟨by rw [HE.out]; rfl,rfl⟩)
 | false =>
  cases h2:(b == 1) with
  | true =>
   have HE:Hid (prodT a b=(a,numY a)):=by show _=_; simp [prodT,h1,h2]
   have cN:=num_any a
   obtain⟨B,eB⟩:∃ B,numY a=B:=⟨_,rfl⟩
   simp only [eB] at cN HE
   clear eB
   cases B <;> (go_enter Tryz.func148,Tryz.ntmps148; go_wp2_with (go_at_call 117; refine (cN _).mono ?_; rintro e w1 ⟨rfl,e1⟩; obtain rfl:=e1.symm); go_ret2; exact⟨by rw [HE.out]; rfl,rfl⟩)
  | false =>
   have HE:Hid (prodT a b=(1,(a == 3 && b == 2) || (a == 2 && b == 3))):=by show _=_; simp [prodT,h1,h2]
   obtain⟨p0,hp0⟩:∃ p,(a == 3)=p:=⟨_,rfl⟩
   simp only [hp0] at HE
   obtain⟨p1,hp1⟩:∃ p,(b == 2)=p:=⟨_,rfl⟩
   simp only [hp1] at HE
   obtain⟨p2,hp2⟩:∃ p,(a == 2)=p:=⟨_,rfl⟩
   simp only [hp2] at HE
   obtain⟨p3,hp3⟩:∃ p,(b == 3)=p:=⟨_,rfl⟩
   simp only [hp3] at HE
   cases p0 <;> cases p1 <;> cases p2 <;> cases p3 <;> (go_enter Tryz.func148,Tryz.ntmps148; go_wp2_with fail; go_ret2; exact⟨by rw [HE.out]; rfl,rfl⟩)
theorem quot_any (a b:Int) (w:yW):Calls zG 149 #[zU a,zU b] w fun e w'=>e=.returned (two (quotT a b))∧w'=w:=by
 cases h1:(b == 1) with
 | true =>
  have HE:Hid (quotT a b=(a,numY a)):=by show _=_; simp [quotT,h1]
  have cN:=num_any a
  obtain⟨B,eB⟩:∃ B,numY a=B:=⟨_,rfl⟩
  simp only [eB] at cN HE
  clear eB
  cases B <;> (go_enter Tryz.func149,Tryz.ntmps149; go_wp2_with (go_at_call 117; refine (cN _).mono ?_; rintro e w1 ⟨rfl,e1⟩; obtain rfl:=e1.symm); go_ret2; exact⟨by rw [HE.out]; rfl,rfl⟩)
 | false =>
  have HE:Hid (quotT a b=(1,numY a && a == b)):=by show _=_; simp [quotT,h1]
  obtain⟨p0,hp0⟩:∃ p,(a == b)=p:=⟨_,rfl⟩
  simp only [hp0] at HE
  have cN:=num_any a
  obtain⟨B,eB⟩:∃ B,numY a=B:=⟨_,rfl⟩
  simp only [eB] at cN HE
  clear eB
  cases p0 <;> cases B <;> (go_enter Tryz.func149,Tryz.ntmps149; go_wp2_with (go_at_call 117; refine (cN _).mono ?_; rintro e w1 ⟨rfl,e1⟩; obtain rfl:=e1.symm); go_ret2; exact⟨by rw [HE.out]; rfl,rfl⟩)
theorem alone_any (o a:Int) (w:yW):Calls zG 118 #[zU o,zU a] w fun e w'=>e=.returned (two (aloneT o a))∧w'=w:=by
 cases h1:(o == 2) with
 | true =>
  have HE:Hid (aloneT o a=(a,a == 5)):=by show _=_; simp [aloneT,h1]
  obtain⟨p0,hp0⟩:∃ p,(a == 5)=p:=⟨_,rfl⟩
  simp only [hp0] at HE
  cases p0 <;> (go_enter Tryz.func118,Tryz.ntmps118; go_wp2_with fail; go_ret2; exact⟨by rw [HE.out]; rfl,rfl⟩)
 | false =>
  have HE:Hid (aloneT o a=(a,numY a)):=by show _=_; simp [aloneT,h1]
  have cN:=num_any a
  obtain⟨B,eB⟩:∃ B,numY a=B:=⟨_,rfl⟩
  simp only [eB] at cN HE
  clear eB
  cases B <;> (go_enter Tryz.func118,Tryz.ntmps118; go_wp2_with (go_at_call 117; refine (cN _).mono ?_; rintro e w1 ⟨rfl,e1⟩; obtain rfl:=e1.symm); go_ret2; exact⟨by rw [HE.out]; rfl,rfl⟩)
theorem pair_any (o a b:Int) (w:yW):Calls zG 119 #[zU o,zU a,zU b] w fun e w'=>e=.returned (two (pairT o a b))∧w'=w:=by
 cases h8:(o == 8) with
 | true =>
  have HE:Hid (pairT o a b=prodT a b):=by show _=_; simp [pairT,h8]
  have cN:=prod_any a b
  obtain⟨⟨u,v⟩,eu⟩:∃ q,prodT a b=q:=⟨_,rfl⟩
  simp only [eu,two] at cN HE
  clear eu
  go_enter Tryz.func119,Tryz.ntmps119
  go_wp2_with (go_at_call 148; refine (cN _).mono ?_; rintro e w1 ⟨rfl,e1⟩; obtain rfl:=e1.symm)
  go_ret2
  exact⟨by rw [HE.out]; rfl,rfl⟩
 | false =>
  cases h9:(o == 9) with
  | true =>
   have HE:Hid (pairT o a b=quotT a b):=by show _=_; simp [pairT,h8,h9]
   have cN:=quot_any a b
   obtain⟨⟨u,v⟩,eu⟩:∃ q,quotT a b=q:=⟨_,rfl⟩
   simp only [eu,two] at cN HE
   clear eu
   go_enter Tryz.func119,Tryz.ntmps119
   go_wp2_with (go_at_call 149; refine (cN _).mono ?_; rintro e w1 ⟨rfl,e1⟩; obtain rfl:=e1.symm)
   go_ret2
   exact⟨by rw [HE.out]; rfl,rfl⟩
  | false =>
   cases h17:(o == 17) with
   | true =>
    have HE:Hid (pairT o a b=(5,a == 5 && b == 5)):=by show _=_; simp [pairT,h8,h9,h17]
    obtain⟨p0,hp0⟩:∃ p,(a == 5)=p:=⟨_,rfl⟩
    simp only [hp0] at HE
    obtain⟨p1,hp1⟩:∃ p,(b == 5)=p:=⟨_,rfl⟩
    simp only [hp1] at HE
    cases p0 <;> cases p1 <;> (go_enter Tryz.func119,Tryz.ntmps119; go_wp2_with fail; go_ret2; exact⟨by rw [HE.out]; rfl,rfl⟩)
   | false =>
    cases h18:(o == 18) with
    | true =>
     have HE:Hid (pairT o a b=(5,a == 5 && b == 5)):=by show _=_; simp [pairT,h8,h9,h17,h18]
     obtain⟨p0,hp0⟩:∃ p,(a == 5)=p:=⟨_,rfl⟩
     simp only [hp0] at HE
     obtain⟨p1,hp1⟩:∃ p,(b == 5)=p:=⟨_,rfl⟩
     simp only [hp1] at HE
     cases p0 <;> cases p1 <;> (go_enter Tryz.func119,Tryz.ntmps119; go_wp2_with fail; go_ret2; exact⟨by rw [HE.out]; rfl,rfl⟩)
    | false =>
     cases h13:(o == 13) with
     | true =>
      have HE:Hid (pairT o a b=(if numY a then (5,a == b) else (0,false))):=by show _=_; simp [pairT,h8,h9,h17,h18,h13]
      obtain⟨p0,hp0⟩:∃ p,(a == b)=p:=⟨_,rfl⟩
      simp only [hp0] at HE
      have cN:=num_any a
      obtain⟨B,eB⟩:∃ B,numY a=B:=⟨_,rfl⟩
      simp only [eB] at cN HE
      clear eB
      cases p0 <;> cases B <;> (go_enter Tryz.func119,Tryz.ntmps119; go_wp2_with (go_at_call 117; refine (cN _).mono ?_; rintro e w1 ⟨rfl,e1⟩; obtain rfl:=e1.symm); go_ret2; exact⟨by rw [HE.out]; rfl,rfl⟩)
     | false =>
      cases h14:(o == 14) with
      | true =>
       have HE:Hid (pairT o a b=(if numY a then (5,a == b) else (0,false))):=by show _=_; simp [pairT,h8,h9,h17,h18,h13,h14]
       obtain⟨p0,hp0⟩:∃ p,(a == b)=p:=⟨_,rfl⟩
       simp only [hp0] at HE
       have cN:=num_any a
       obtain⟨B,eB⟩:∃ B,numY a=B:=⟨_,rfl⟩
       simp only [eB] at cN HE
       clear eB
       cases p0 <;> cases B <;> (go_enter Tryz.func119,Tryz.ntmps119; go_wp2_with (go_at_call 117; refine (cN _).mono ?_; rintro e w1 ⟨rfl,e1⟩; obtain rfl:=e1.symm); go_ret2; exact⟨by rw [HE.out]; rfl,rfl⟩)
      | false =>
       cases h15:(o == 15) with
       | true =>
        have HE:Hid (pairT o a b=(if numY a then (5,a == b) else (0,false))):=by show _=_; simp [pairT,h8,h9,h17,h18,h13,h14,h15]
        obtain⟨p0,hp0⟩:∃ p,(a == b)=p:=⟨_,rfl⟩
        simp only [hp0] at HE
        have cN:=num_any a
        obtain⟨B,eB⟩:∃ B,numY a=B:=⟨_,rfl⟩
        simp only [eB] at cN HE
        clear eB
        cases p0 <;> cases B <;> (go_enter Tryz.func119,Tryz.ntmps119; go_wp2_with (go_at_call 117; refine (cN _).mono ?_; rintro e w1 ⟨rfl,e1⟩; obtain rfl:=e1.symm); go_ret2; exact⟨by rw [HE.out]; rfl,rfl⟩)
       | false =>
        cases h16:(o == 16) with
        | true =>
         have HE:Hid (pairT o a b=(if numY a then (5,a == b) else (0,false))):=by show _=_; simp [pairT,h8,h9,h17,h18,h13,h14,h15,h16]
         obtain⟨p0,hp0⟩:∃ p,(a == b)=p:=⟨_,rfl⟩
         simp only [hp0] at HE
         have cN:=num_any a
         obtain⟨B,eB⟩:∃ B,numY a=B:=⟨_,rfl⟩
         simp only [eB] at cN HE
         clear eB
         cases p0 <;> cases B <;> (go_enter Tryz.func119,Tryz.ntmps119; go_wp2_with (go_at_call 117; refine (cN _).mono ?_; rintro e w1 ⟨rfl,e1⟩; obtain rfl:=e1.symm); go_ret2; exact⟨by rw [HE.out]; rfl,rfl⟩)
        | false =>
         cases h11:(o == 11) with
         | true =>
          have HE:Hid (pairT o a b=(5,a == b)):=by show _=_; simp [pairT,h8,h9,h17,h18,h13,h14,h15,h16,h11]
          obtain⟨p0,hp0⟩:∃ p,(a == b)=p:=⟨_,rfl⟩
          simp only [hp0] at HE
          cases p0 <;> (go_enter Tryz.func119,Tryz.ntmps119; go_wp2_with fail; go_ret2; exact⟨by rw [HE.out]; rfl,rfl⟩)
         | false =>
          cases h12:(o == 12) with
          | true =>
           have HE:Hid (pairT o a b=(5,a == b)):=by show _=_; simp [pairT,h8,h9,h17,h18,h13,h14,h15,h16,h11,h12]
           obtain⟨p0,hp0⟩:∃ p,(a == b)=p:=⟨_,rfl⟩
           simp only [hp0] at HE
           cases p0 <;> (go_enter Tryz.func119,Tryz.ntmps119; go_wp2_with fail; go_ret2; exact⟨by rw [HE.out]; rfl,rfl⟩)
          | false =>
           have HE:Hid (pairT o a b=(a,numY a && a == b)):=by show _=_; simp [pairT,h8,h9,h17,h18,h13,h14,h15,h16,h11,h12]
           obtain⟨p0,hp0⟩:∃ p,(a == b)=p:=⟨_,rfl⟩
           simp only [hp0] at HE
           have cN:=num_any a
           obtain⟨B,eB⟩:∃ B,numY a=B:=⟨_,rfl⟩
           simp only [eB] at cN HE
           clear eB
           cases p0 <;> cases B <;> (go_enter Tryz.func119,Tryz.ntmps119; go_wp2_with (go_at_call 117; refine (cN _).mono ?_; rintro e w1 ⟨rfl,e1⟩; obtain rfl:=e1.symm); go_ret2; exact⟨by rw [HE.out]; rfl,rfl⟩)
def fldL:List Int:=[0,3,3,3,2,4,2]
def fldT (f:Int):Int:=fldL.getD f.toNat 0
def fldV:Array Value:=(fldL.map (fun i=>Value.int .u8 i)).toArray
def FTab (w : yW) : Prop := w.var? Tryz.prog "tripwire/types.fieldTypes" = some fldV
theorem fld_global : Tryz.prog.globalNamed "tripwire/types.fieldTypes" = some 1 := by kernel_rfl
theorem FTab.on {w w':yW}(h:FTab w) (hb:yD w w'):FTab w':=by
 unfold FTab World.var? at *
 rw [fld_global] at h ⊢
 simp only [Option.bind_some] at h ⊢
 have hlt:1 < w§:=by
  rcases Nat.lt_or_ge 1 w§ with h' | h'
  ·exact h'
  ·rw [Array.getElem?_eq_none h'] at h; simp at h
 rw [hb.block 1 hlt]
 exact h
theorem FTab.cell {w:yW}(h:FTab w) (i:Nat) (hi:i < 7):w.cell? 1¢i=some (zU (fldT i)):=by
 have:=World.var?_cell fld_global h i
 rw [this]
 unfold fldV fldT
 have hl:i < fldL.length:=hi
 simp [List.getElem?_map,List.getElem?_eq_getElem hl,List.getD]
def fitT (h:Hd) (n:Nat) (a b c:Int):Int × Bool :=
 if h.k == 1 then (h.t,true) else if h.k == 3 then (fldT h.f,true) else if h.k == 4 then (5,true) else if h.k == 7 then (b,a == 5 && b == c) else if h.k == 9 then (h.t,numY a)
 else if (n:Int) == 1 then aloneT h.o a else pairT h.o a b
theorem fit_any (k o t n f:Int) (x:yB) (p:Int) (am:Option Addr) (cm:Nat) (ks:List Nd) (a b c:Int) (w:yW) (hf:k=3→0≤f∧f < 7) (ht:FTab w) :
  Calls zG 82 #[.agg (zW k o t n f x am ks cm p),.agg #[zU a,zU b,zU c]] w fun e w'=>e=.returned (two (fitT ⟨k,o,t,n,f,x,p⟩ ks.length a b c))∧yD w w':=by
 obtain⟨l,el⟩:∃ l,ks.length=l:=⟨_,rfl⟩
 rw [el]
 clear el
 have hb1:=below_new w (.cells #[zU k,zU o,zU t,zI n,zU f,.string x,.slice am l cm,zI p] 48)
 have hn1:=heap_new w (.cells #[zU k,zU o,zU t,zI n,zU f,.string x,.slice am l cm,zI p] 48)
 have hs1:=size_alloc w (.cells #[zU k,zU o,zU t,zI n,zU f,.string x,.slice am l cm,zI p] 48)
 obtain⟨W1,e1⟩:∃ W,w.alloc (.cells #[zU k,zU o,zU t,zI n,zU f,.string x,.slice am l cm,zI p] 48)=W:=⟨_,rfl⟩
 have E1:Hid (w.alloc (.cells #[zU k,zU o,zU t,zI n,zU f,.string x,.slice am l cm,zI p] 48)=W1):=e1
 rw [e1] at hb1 hn1 hs1
 have hb2:=below_new W1 (.cells #[zU a,zU b,zU c] 138)
 have hn2:=heap_new W1 (.cells #[zU a,zU b,zU c] 138)
 have hk2:=(hb2.block _ (zJ hn1).1).trans hn1
 have hbw:=below2 hb1 hb2
 rw [hs1] at hn2
 have HF:Hid (k=3→0≤f∧f < 7):=hf
 have HT:Hid (FTab w):=ht
 have HS1:Hid (W1§=w§+1):=hs1
 obtain⟨W2,e2⟩:∃ W,W1.alloc (.cells #[zU a,zU b,zU c] 138)=W:=⟨_,rfl⟩
 have E2:Hid (W1.alloc (.cells #[zU a,zU b,zU c] 138)=W2):=e2
 rw [e2] at hn2 hk2 hbw
 have HN2:Hid (W2.heap[w§+1]? = (zC #[zU a,zU b,zU c] 138)):=hn2
 have HN1:Hid (W2.heap[w§]? = (zC #[zU k,zU o,zU t,zI n,zU f,.string x,.slice am l cm,zI p] 48)):=hk2
 have HBW:Hid (yD w W2):=hbw
 clear hb1 hn1 hs1 hb2 hn2 hk2 hbw hf ht e1 e2
 go_enter Tryz.func82,Tryz.ntmps82
 go_upto_region 1 with fail
 rw [E1.out,E2.out]
 try rw [HS1.out]
 have z0:W2.cell? ⟨w§+1,0,none⟩=some (zU a):=cell_of HN2.out 0
 have z1:W2.cell? ⟨w§+1,1,none⟩=some (zU b):=cell_of HN2.out 1
 have z2:W2.cell? ⟨w§+1,2,none⟩=some (zU c):=cell_of HN2.out 2
 go_quiet (fail)
 obtain⟨V,eV⟩:∃ V,W2.drewN nq=V:=⟨_,rfl⟩
 have hV1:V.heap[w§]? = (zC #[zU k,zU o,zU t,zI n,zU f,.string x,.slice am l cm,zI p] 48):=by rw [← eV]; exact HN1.out
 have HBV:Hid (yD w V):=by
  have h1:=HBW.out
  rw [← eV]
  exact⟨h1.os,h1.tape,h1.output,h1.size,h1.block⟩
 rw [eV]
 clear eV HN1 HN2 HBW z0 z1 z2 E1 E2 HS1
 have y0:V.cell? w§¢0=some (zU k):=cell_of hV1 0
 have y1:V.cell? w§¢1=some (zU o):=cell_of hV1 1
 have y2:V.cell? w§¢2=some (zU t):=cell_of hV1 2
 have y4:V.cell? w§¢4=some (zU f):=cell_of hV1 4
 have y6:V.cell? w§¢6=some (.slice am l cm):=cell_of hV1 6
 clear hV1
 cases h1:(k == 1) with
 | true =>
  have HE:Hid (fitT ⟨k,o,t,n,f,x,p⟩ l a b c=(t,true)):=by show _=_; simp [fitT,h1]
  go_wp2_with fail
  go_ret2
  exact⟨by rw [HE.out]; rfl,HBV.out⟩
 | false =>
  cases h3:(k == 3) with
  | true =>
   have HE:Hid (fitT ⟨k,o,t,n,f,x,p⟩ l a b c=(fldT f,true)):=by show _=_; simp [fitT,h1,h3]
   have hf:=HF.out (by simpa using h3)
   obtain⟨i,ei⟩:∃ i:Nat,(i:Int)=f:=⟨f.toNat,by omega⟩
   subst ei
   have hi:i < 7:=by omega
   have hi2:(i:Int) < 7:=by omega
   have c0:V.cell? 1¢i=some (zU (fldT i)):=(HT.out.on HBV.out).cell i hi
   go_wp2_with fail
   go_ret2
   exact⟨by rw [HE.out]; rfl,HBV.out⟩
  | false =>
   cases h4:(k == 4) with
   | true =>
    have HE:Hid (fitT ⟨k,o,t,n,f,x,p⟩ l a b c=(5,true)):=by show _=_; simp [fitT,h1,h3,h4]
    go_wp2_with fail
    go_ret2
    exact⟨by rw [HE.out]; rfl,HBV.out⟩
   | false =>
    cases h7:(k == 7) with
    | true =>
     have HE:Hid (fitT ⟨k,o,t,n,f,x,p⟩ l a b c=(b,a == 5 && b == c)):=by show _=_; simp [fitT,h1,h3,h4,h7]
     obtain⟨p0,hp0⟩:∃ p,(a == 5)=p:=⟨_,rfl⟩
     obtain⟨p1,hp1⟩:∃ p,(b == c)=p:=⟨_,rfl⟩
     simp only [hp0,hp1] at HE
     cases p0 <;> cases p1 <;> (go_wp2_with fail; go_ret2; exact⟨by rw [HE.out]; rfl,HBV.out⟩)
    | false =>
     cases h9:(k == 9) with
     | true =>
      have HE:Hid (fitT ⟨k,o,t,n,f,x,p⟩ l a b c=(t,numY a)):=by show _=_; simp [fitT,h1,h3,h4,h7,h9]
      have cN:=num_any a
      obtain⟨B,eB⟩:∃ B,numY a=B:=⟨_,rfl⟩
      simp only [eB] at cN HE
      clear eB
      go_upto_region 12 with fail
      go_quiet ((go_at_call 117; refine Calls.quiet_of_same (cN _)))
      go_wp2_with fail
      go_ret2
      exact⟨by rw [HE.out]; rfl,by have h1:=HBV.out; exact⟨h1.os,h1.tape,h1.output,h1.size,h1.block⟩⟩
     | false =>
      cases hl:((l:Int) == 1) with
      | true =>
       have HE:Hid (fitT ⟨k,o,t,n,f,x,p⟩ l a b c=aloneT o a):=by show _=_; simp [fitT,h1,h3,h4,h7,h9,hl]
       have cN:=alone_any o a
       obtain⟨⟨u,v⟩,eu⟩:∃ q,aloneT o a=q:=⟨_,rfl⟩
       simp only [eu,two] at cN HE
       clear eu
       go_wp2_with (go_at_call 118; refine (cN _).mono ?_; rintro e w1 ⟨rfl,e1⟩; obtain rfl:=e1.symm)
       go_ret2
       exact⟨by rw [HE.out]; rfl,HBV.out⟩
      | false =>
       have HE:Hid (fitT ⟨k,o,t,n,f,x,p⟩ l a b c=pairT o a b):=by show _=_; simp [fitT,h1,h3,h4,h7,h9,hl]
       have cN:=pair_any o a b
       obtain⟨⟨u,v⟩,eu⟩:∃ q,pairT o a b=q:=⟨_,rfl⟩
       simp only [eu,two] at cN HE
       clear eu
       go_wp2_with (go_at_call 119; refine (cN _).mono ?_; rintro e w1 ⟨rfl,e1⟩; obtain rfl:=e1.symm)
       go_ret2
       exact⟨by rw [HE.out]; rfl,HBV.out⟩
def txtData {H:Type}(zs:List yB):DataW H:=.agg (zs.map fun z=>.lit (.string z.data.toList))
theorem tab_data:(Rows.laid_tripwire_lex_words:DataW Unit)=txtData wordsL:=by rfl
theorem cells_of_txt {H:Type}{enc:TypeId × Value→H}{P:Program}{w:yW}{base:Nat}{sp:Nat→Bool}{held:Bool}{fuel:Nat}{t e:TypeId}{n:Nat}{cs:List Value}{zs:List yB}{p:List MemPlace}
  (ht:P.underlying t=some (.array n e)) (he:P.underlying e=some .string) (hce:P.cellsOf e=1) (hct:P.cellsOf t=n)
  (h:DataW.trod enc P w base sp held fuel t cs=some (txtData zs,p)):cs=zs.map Value.string:=by
 cases fuel with
 | zero=>simp [DataW.trod] at h
 | succ fuel =>
  simp only [DataW.trod,ht,hce,hct,Nat.mul_one] at h
  split at h
  ·rename_i hl
   obtain⟨xs,hm,hx⟩:=Option.map_eq_some_iff.1 h
   have hxs:xs.map (·.1)=zs.map fun z=>(DataW.lit (.string z.data.toList):DataW H):=by
    have:=congrArg Prod.fst hx
    simpa [txtData] using this
   have hxl:xs.length=n:=by simpa using Lib.mapM_length hm
   have hzl:zs.length=n:=by
    have:=congrArg List.length hxs
    simp at this
    omega
   apply List.ext_getElem?
   intro i
   by_cases hi:i < n
   ·obtain⟨b,hb,hf⟩:=Lib.mapM_at hm i i (by simp [hi])
    obtain⟨z,hc,rfl,_⟩:=DataW.trod_string he hf
    have h1:cs[i]? = some (.string z):=by
     have:=congrArg (·[0]?) hc
     simpa [List.getElem?_take,List.getElem?_drop] using this
    have h2:(xs.map (·.1))[i]? = some (DataW.lit (.string z.data.toList):DataW H):=by simp [hb]
    rw [hxs] at h2
    simp only [List.getElem?_map,Option.map_eq_some_iff,DataW.lit.injEq,Lit.string.injEq] at h2
    obtain⟨z',hz',e2⟩:=h2
    simp [h1,hz',str_eq e2]
   ·rw [List.getElem?_eq_none (by omega),List.getElem?_eq_none (by simp; omega)]
  ·cases h
theorem txt_of_head {P:Program}{W:yW}{name:String}{zs:List yB}{rest:List (String × DataW Unit)}{g:Nat}{t e:TypeId}{n:Nat}
  (hg:P.globalNamed name=some g) (hty:(P.globals[g]?).map (·.type)=some t) (ht:P.underlying t=some (.array n e)) (he:P.underlying e=some .string) (hce:P.cellsOf e=1) (hct:P.cellsOf t=n)
  (h:laidMet P ((name,txtData zs) :: rest) W):W.var? P name=some (zs.map Value.string).toArray:=by
 obtain⟨ps,⟨g',t',cs,fuel,p,q,hg',ht',hvar,hd,_,_⟩,_⟩:=h
 obtain rfl:=Option.some.inj (hg.symm.trans hg')
 obtain rfl:=Option.some.inj (hty.symm.trans ht')
 rw [hvar,← cells_of_txt ht he hce hct hd]
theorem ety_of_var {W : yW} (h : W.var? Tryz.prog "errors.errorType" = some #[.iface 196 (.agg #[.pointer (some ⟨4, 36, none⟩)])]) : Ety W := by
 have hg : Tryz.prog.globalNamed "errors.errorType" = some 0 := by kernel_rfl
 have:=World.var?_cell hg h 0
 exact this
theorem err_row (ty:TypeId) (h1:ty < Tryz.prog.types.size) (h2:Tryz.prog.rowNamed ty [101,114,114,111,114]=true):ty=36:=by
 have h:((List.range Tryz.prog.types.size).all fun t=>!(Tryz.prog.rowNamed t [101,114,114,111,114]) || t == 36)=true:=by kernel_rfl
 have:=List.all_eq_true.1 h ty (List.mem_range.2 h1)
 simp [h2] at this
 exact this
theorem ftab_data:(Rows.laid_tripwire_types_fieldTypes:DataW Unit)=Lib.tabData .u8 fldL:=by rfl
theorem tab_of_laid {W:yW}(h:laidMetH Tryz.prog Rows.typesTwiceRow.laid W):Tab W∧FTab W∧Ety W:=by
 have h2 : laidMet Tryz.prog [("tripwire/lex.words", (Rows.laid_tripwire_lex_words : DataW Unit)), ("tripwire/types.fieldTypes", (Rows.laid_tripwire_types_fieldTypes : DataW Unit))] W ∧ handlesMet Tryz.prog [("errors.errorType", (Rows.laid_errors_errorType : DataW Unit))] W := h
 refine⟨?_,?_,?_⟩
 ·have h3:=h2.1
  rw [tab_data] at h3
  exact txt_of_head (g:=2) (t:=245) (n:=41) (e:=9) zK zK zK zK zK zK h3
 ·have h3:=laidMet.tail h2.1
  rw [ftab_data] at h3
  exact Lib.tabIs_of_head (g:=1) (t:=184) (n:=7) (e:=44) zK zK zK zK zK zK h3
 ·obtain ⟨name, u, ty, e1, e2, e3, e4, e5⟩ : ∃ name u ty, (Rows.laid_errors_errorType : DataW Unit).handleName? = some name ∧ Option.map (fun x => x.snd) (Array.find? (fun x => x.fst == "internal/reflectlite.rtype") Tryz.prog.cutTypes) = some u ∧ ty < Tryz.prog.types.size ∧ Tryz.prog.rowNamed ty name = true ∧ World.var? Tryz.prog W "errors.errorType" = some #[Value.iface u (Value.agg #[typeHandle Tryz.prog ty])] := h2.2 _ (List.mem_singleton.2 rfl)
  have f1:(Rows.laid_errors_errorType:DataW Unit).handleName? = some [101,114,114,111,114]:=by kernel_rfl
  have f2 : Option.map (fun x => x.snd) (Array.find? (fun x => x.fst == "internal/reflectlite.rtype") Tryz.prog.cutTypes) = some 196 := by kernel_rfl
  obtain rfl:=Option.some.inj (f1.symm.trans e1)
  obtain rfl:=Option.some.inj (f2.symm.trans e2)
  obtain rfl:=err_row ty e3 e4
  exact ety_of_var e5
theorem door_met (os:Os) (args:Array Value):laidMetH Tryz.prog Rows.typesTwiceRow.laid ((World.doorLaid Tryz.prog 400 os).forCall (fun _ _=>0) ⟨#[],args,[]⟩).memory :=
 laidMetH_of_parts3 (fuel:=8) (laidMet_of_run' 8 zK zK) zK zK
mutual
def wt:Nd→Nat
 | .mk h _ _ ks=>1+h.x.size+wts ks
def wts:List Nd→Nat
 | []=>0
 | k :: ks=>wt k+wts ks
end
theorem size_wt:∀ m,size m≤wt m:=by
 refine Nd.ind fun h a c ks ih=>?_
 have:∀ l:List Nd,(∀ k ∈ l,size k≤wt k)→sizes l≤wts l:=by
  intro l
  induction l with
  | nil=>intro _; exact Nat.le_refl _
  | cons k l ihl=>intro hl; simp only [sizes,wts]; have h1:=hl k (by simp); have h2:=ihl fun x hx=>hl x (by simp [hx]); omega
 simp only [size,wt]
 have:=this ks ih
 omega
mutual
def wgE:Nd→Int→Int→Int
 | .mk h _ _ ks,n,d=>if d > 60000 then 1048577 else wgL ks (n+1+(h.x.size:Int)) (d+1)
def wgL:List Nd→Int→Int→Int
 | [],n,_=>n
 | k :: ks,n,d=>if n≤1048576 then wgL ks (wgE k n d) d else n
end
theorem wgE_mk (h:Hd) (a:Option Addr) (c:Nat) (ks:List Nd) (n d:Int):wgE (.mk h a c ks) n d=if d > 60000 then 1048577 else wgL ks (n+1+(h.x.size:Int)) (d+1):=by rw [wgE]
def WB (m:Nd):Prop:=∀ n d:Int,0≤n→0≤wgE m n d∧(wgE m n d≤n+140737488355329∨wgE m n d≤140737489403906)∧(wgE m n d≤1048576→wgE m n d=n+wt m)
theorem wgL_bd:∀ (ks:List Nd),(∀ k ∈ ks,WB k)→∀ n d:Int,0≤n→0≤wgL ks n d∧(wgL ks n d≤n∨wgL ks n d≤140737489403906)∧(wgL ks n d≤1048576→wgL ks n d=n+wts ks):=by
 intro ks
 induction ks with
 | nil=>intro _ n d hn; simp only [wgL,wts]; exact⟨hn,.inl (Int.le_refl _),fun _=>by omega⟩
 | cons k ks ih =>
  intro hk n d hn
  simp only [wgL,wts]
  split
  ·rename_i h
   obtain⟨a1,a2,a3⟩:=hk k (List.mem_cons_self ..) n d hn
   obtain⟨b1,b2,b3⟩:=ih (fun x hx=>hk x (List.mem_cons_of_mem _ hx)) (wgE k n d) d a1
   refine⟨b1,.inr ?_,fun hh=>?_⟩
   ·rcases b2 with b2 | b2
    ·rcases a2 with a2 | a2 <;> omega
    ·exact b2
   ·have e1:=b3 hh
    have e2:=a3 (by omega)
    omega
  ·rename_i h
   exact⟨hn,.inl (Int.le_refl _),fun hh=>absurd hh h⟩
theorem wgE_bd {w:yW}:∀ m:Nd,Lies w m→WB m:=by
 refine Nd.ind fun h a c ks ih hl n d hn=>?_
 have hx:=hl.rg.x1
 simp only [Nd.h] at hx
 rw [wgE_mk]
 split
 ·exact⟨by omega,.inr (by omega),fun hh=>absurd hh (by omega)⟩
 ·obtain⟨b1,b2,b3⟩:=wgL_bd ks (fun k hk=>ih k hk (hl.sub k hk)) (n+1+(h.x.size:Int)) (d+1) (by omega)
  refine⟨b1,?_,fun hh=>?_⟩
  ·rcases b2 with b2 | b2
   ·exact .inl (by omega)
   ·exact .inr b2
  ·have:=b3 hh
   simp only [wt]; omega
theorem wgL_stop {ks:List Nd}{z d:Int}(h:¬ z≤1048576):wgL ks z d=z:=by
 cases ks with
 | nil=>simp [wgL]
 | cons k ks=>simp only [wgL,if_neg h]
theorem weigh_any:∀ (m:Nd) (w:yW) (n d:Int),Lies w m→0≤n→n≤4503599627370496→0≤d→d≤60001→Calls zG 38 #[.agg m.vals,zI n,zI d] w fun e w'=>e=.returned (zI (wgE m n d))∧yD w w':=by
 refine Nd.ind fun h a c ks ih w n d hl h1 h2 h3 h4=>?_
 have HI:Hid (∀ k ∈ ks,∀ (w:yW) (n d:Int),Lies w k→0≤n→n≤4503599627370496→0≤d→d≤60001→Calls zG 38 #[.agg k.vals,zI n,zI d] w fun e w'=>e=.returned (zI (wgE k n d))∧yD w w'):=ih
 have HL:=hl.hid
 have hx:=hl.rg.x1
 simp only [Nd.h] at hx
 show Calls zG 38 #[.agg (zX h a ks c),zI n,zI d] w _
 have HD:Hid (0≤d∧d≤60001∧0≤n∧n≤4503599627370496∧(h.x.size:Int)≤140737488355328):=⟨h3,h4,h1,h2,by omega⟩
 have g1:-9223372036854775808≤n+1:=by omega
 have g2:n+1≤9223372036854775807:=by omega
 have g3:-9223372036854775808≤n+1+(h.x.size:Int):=by omega
 have g4:n+1+(h.x.size:Int)≤9223372036854775807:=by omega
 have HN0:Hid (NdH (w.alloc (.cells (zX h a ks c) 48)) w§ (.mk h a c ks)):=heap_new w _
 have HW:Hid (¬ d > 60000→wgE (.mk h a c ks) n d=wgL ks (n+1+(h.x.size:Int)) (d+1)):=fun hd=>by rw [wgE_mk,if_neg hd]
 have HW0:Hid (d > 60000→wgE (.mk h a c ks) n d=1048577):=fun hd=>by rw [wgE_mk,if_pos hd]
 clear ih hl hx h1 h2 h3 h4
 by_cases hd:d > 60000
 ·go_enter Tryz.func38,Tryz.ntmps38
  go_wp2_with fail
  go_ret
  exact⟨(congrArg (fun x:Int=>Ending.returned (Value.int .i64 x)) (HW0.out hd)).symm,below_new _ _⟩
 ·have g5:d+1≤9223372036854775807:=by have:=HD.out; omega
  have g6:-9223372036854775808≤d+1:=by have:=HD.out; omega
  go_enter Tryz.func38,Tryz.ntmps38
  go_wp2_with fail
  go_loopw [1,7] (fun v t wr=>∃ (i:Nat) (z:Int),i≤ks.length∧t=zI i∧v=zI z∧Below (w.alloc (.cells (zX h a ks c) 48))§ (w.alloc (.cells (zX h a ks c) 48)) wr∧Hid (0≤z∧z≤4703599627370496∧wgL (ks.drop i) z (d+1)=wgE (.mk h a c ks) n d)) (fun _ t _=>ks.length - (intOf t).toNat)
  case atStart=>exact⟨0,n+1+(h.x.size:Int),by omega,rfl,rfl,Below.refl _ _,by have:=HD.out; omega,by have:=HD.out; omega,by rw [HW.out hd,List.drop_zero]⟩
  case round =>
   obtain⟨i,z,hi,rfl,rfl,hbr,HR⟩:=hrel
   have HBR:Hid (yD w wr):=below2 (below_new _ _) hbr
   have HBr:Hid (Below (w.alloc (.cells (zX h a ks c) 48))§ (w.alloc (.cells (zX h a ks c) 48)) wr):=hbr
   have hN:NdH wr w§ (.mk h a c ks):=HN0.out.on hbr
   have q6:wr.cell? w§¢6=some (.slice a ks.length c):=cell_of hN 6
   clear hbr hN
   by_cases hlt:i < ks.length
   ·have hlt':(i:Int) < (ks.length:Int):=by omega
    by_cases hz:z≤1048576
    ·obtain⟨b,o,e1,hat⟩:=(HL.out.on HBR.out).kid i hlt
     have e2:a=some b¢o:=e1
     clear e1
     have hk1:NdAt wr b (o+i * 8) ks[i]:=hat
     clear hat
     have cI:=HI.out ks[i] (nth_mem hlt) wr z (d+1) ((HL.out.sub _ (nth_mem hlt)).on HBR.out) (by have h1:=HR.out; have h2:=HD.out; omega) (by omega) (by have:=HD.out; omega) (by omega)
     have HW2:Hid (wgL (ks.drop i) z (d+1)=wgL (ks.drop (i+1)) (wgE ks[i] z (d+1)) (d+1)):=by show _=_; rw [drop_nth hlt]; simp only [wgL,if_pos hz]
     have HBd:Hid (WB ks[i]):=wgE_bd _ (HL.out.sub _ (nth_mem hlt))
     have hmx:(i:Int)+1≤9223372036854775807:=by
      have h1:=HL.out.max
      have h2:=HL.out.cap
      simp only [Nd.ks,Nd.c] at h1 h2
      omega
     obtain⟨k,ek⟩:∃ k,ks[i]=k:=⟨_,rfl⟩
     rw [ek] at hk1 cI HW2 HBd
     subst e2
     obtain⟨y0,y1,y2,y3,y4,y5,y6,y7⟩:=hk1
     have cI:Calls zG 38 #[.agg (zV k),zI z,zI (d+1)] wr fun e w'=>e=.returned (zI (wgE k z (d+1)))∧yD wr w':=cI
     obtain⟨r,er⟩:∃ r,wgE k z (d+1)=r:=⟨_,rfl⟩
     rw [er] at cI HW2
     have HER:Hid (wgE k z (d+1)=r):=er
     clear ek er
     go_wp2_with fail
     refine cI.mono ?_
     rintro e w5 ⟨rfl,hb5⟩
     have HB5:Hid (Below (w.alloc (.cells (zX h (some b¢o) ks c) 48))§ (w.alloc (.cells (zX h (some b¢o) ks c) 48)) w5):=below2 HBr.out hb5
     have HX:Hid (0≤r∧r≤4703599627370496∧wgL (ks.drop (i+1)) r (d+1)=wgE (.mk h (some b¢o) c ks) n d):=by
      have h1:=HBd.out z (d+1) HR.out.1
      rw [HER.out] at h1
      exact⟨h1.1,by rcases h1.2.1 with h2 | h2 <;> omega,by rw [← HW2.out]; exact HR.out.2.2⟩
     clear hb5 cI y0 y1 y2 y3 y4 y5 y6 y7 q6
     go_wp2_with fail
     exact⟨⟨i+1,r,hlt,rfl,rfl,HB5.out,HX.out⟩,by simp only [intOf]; omega⟩
    ·go_wp2_with fail
     go_ret
     exact⟨congrArg (fun x:Int=>Ending.returned (Value.int .i64 x)) ((wgL_stop (by omega)).symm.trans HR.out.2.2),HBR.out⟩
   ·obtain rfl:i=ks.length:=by omega
    have hnot:¬ (ks.length:Int) < (ks.length:Int):=by omega
    go_wp2_with fail
    go_ret
    exact⟨congrArg (fun x:Int=>Ending.returned (Value.int .i64 x)) (by have h9:=HR.out.2.2; rw [List.drop_length] at h9; simpa [wgL] using h9),HBR.out⟩
def Wgt (m:Nd) (n:Int) (r:Int):Prop:=0≤r∧r≤n+140737489403906∧(r≤1048576→r=n+wt m)
theorem wgt_of {w:yW}{m:Nd}(hl:Lies w m) {n:Int}(h1:0≤n):Wgt m n (wgE m n 0):=by
 obtain⟨a1,a2,a3⟩:=wgE_bd m hl n 0 h1
 exact⟨a1,by rcases a2 with a2 | a2 <;> omega,a3⟩
theorem weigh_top (m:Nd) (w:yW) (n:Int) (hl:Lies w m) (h1:0≤n) (h2:n≤4503599627370496):Calls zG 38 #[.agg m.vals,zI n,zI 0] w fun e w'=>(∃ r,e=.returned (zI r)∧Wgt m n r)∧yD w w':=by
 refine (weigh_any m w n 0 hl h1 h2 (by omega) (by omega)).mono ?_
 rintro e w' ⟨rfl,hb⟩
 exact⟨⟨_,rfl,wgt_of hl h1⟩,hb⟩
def DoY (d:DoM):Prop:=size d.sd≤1048576∧size d.qt≤1048576∧size d.pr≤1048576∧size d.vl≤1048576
def RuleY (r:RuleM):Prop:=size r.m≤1048576∧∀ d ∈ r.ds,DoY d
def StateY (r:StateM):Prop:=∀ d ∈ r.rs,RuleY d
def StratY (S:StratM):Prop:=∀ d ∈ S.ts,StateY d
def WghD (d:DoM) (n r:Int):Prop:=0≤r∧r≤n+900000000000000∧(r≤1048576→DoY d)
theorem weighDo_any (d:DoM) (w:yW) (n:Int) (hl:DoL w d) (h1:0≤n) (h2:n≤2251799813685248):Calls zG 79 #[.agg d.vals,zI n] w fun e w'=>(∃ r,e=.returned (zI r)∧WghD d n r)∧yD w w':=by
 have hb0:=below_new w (.cells d.vals 105)
 have hn0:=heap_new w (.cells d.vals 105)
 have hx:d.x.size≤140737488355328:=hl.2.2.2.2.2.2.2
 have HH:Hid (DoL w d∧0≤n∧n≤2251799813685248∧(d.x.size:Int)≤140737488355328):=⟨hl,h1,h2,by omega⟩
 have HN0:Hid ((w.alloc (.cells d.vals 105)).heap[w§]? = (zC d.vals 105)):=hn0
 have HB0:Hid (yD w (w.alloc (.cells d.vals 105))):=hb0
 have q2:(w.alloc (.cells d.vals 105)).cell? w§¢2=some (.string d.x):=cell_of hn0 2
 have g1:n+(d.x.size:Int)≤9223372036854775807:=by omega
 have g2:-9223372036854775808≤n+(d.x.size:Int):=by omega
 have c1:=weigh_top d.sd (w.alloc (.cells d.vals 105)) (n+(d.x.size:Int)) (hl.1.on hb0) (by omega) (by omega)
 clear hl h1 h2 hx hb0 hn0
 go_enter Tryz.func79,Tryz.ntmps79
 go_wp2_with (refine wpList_load_mid rfl 48 _ rfl w§ 3 rfl d.sd.vals.toList _ (nd_rng HN0.out 3 d.sd (do_sd d)) Tryz.underlying48 rfl (size38 d.sd) ?_; rw [toArr])
 refine c1.mono ?_
 rintro e w1 ⟨⟨r1,rfl,hr1⟩,hb⟩
 have HR1:Hid (Wgt d.sd (n+(d.x.size:Int)) r1):=hr1
 have HB1:Hid (yD w w1):=below2 HB0.out hb
 have HD1:Hid (w1.heap[w§]? = (zC d.vals 105)):=(hb.block _ (zJ HN0.out).1).trans HN0.out
 have c2:=weigh_top d.qt w1 r1 (HH.out.1.2.1.on HB1.out) hr1.1 (by have h1:=hr1.2.1; have h2:=HH.out.2; omega)
 clear c1 hr1 hb q2 HN0 HB0
 go_wp2_with (refine wpList_load_mid rfl 48 _ rfl w§ 11 rfl d.qt.vals.toList _ (nd_rng HD1.out 11 d.qt (do_qt d)) Tryz.underlying48 rfl (size38 d.qt) ?_; rw [toArr])
 refine c2.mono ?_
 rintro e w2 ⟨⟨r2,rfl,hr2⟩,hb⟩
 have HR2:Hid (Wgt d.qt r1 r2):=hr2
 have HB2:Hid (yD w w2):=below2 HB1.out hb
 have HD2:Hid (w2.heap[w§]? = (zC d.vals 105)):=(hb.block _ (zJ HD1.out).1).trans HD1.out
 have c3:=weigh_top d.pr w2 r2 (HH.out.1.2.2.1.on HB2.out) hr2.1 (by have h1:=hr2.2.1; have h3:=HR1.out.2.1; have h2:=HH.out.2; omega)
 clear c2 hr2 hb HD1 HB1
 go_wp2_with (refine wpList_load_mid rfl 48 _ rfl w§ 19 rfl d.pr.vals.toList _ (nd_rng HD2.out 19 d.pr (do_pr d)) Tryz.underlying48 rfl (size38 d.pr) ?_; rw [toArr])
 refine c3.mono ?_
 rintro e w3 ⟨⟨r3,rfl,hr3⟩,hb⟩
 have HR3:Hid (Wgt d.pr r2 r3):=hr3
 have HB3:Hid (yD w w3):=below2 HB2.out hb
 have HD3:Hid (w3.heap[w§]? = (zC d.vals 105)):=(hb.block _ (zJ HD2.out).1).trans HD2.out
 have c4:=weigh_top d.vl w3 r3 (HH.out.1.2.2.2.1.on HB3.out) hr3.1 (by have h1:=hr3.2.1; have h4:=HR2.out.2.1; have h3:=HR1.out.2.1; have h2:=HH.out.2; omega)
 clear c3 hr3 hb HD2 HB2
 go_wp2_with (refine wpList_load_mid rfl 48 _ rfl w§ 27 rfl d.vl.vals.toList _ (nd_rng HD3.out 27 d.vl (do_vl d)) Tryz.underlying48 rfl (size38 d.vl) ?_; rw [toArr])
 refine c4.mono ?_
 rintro e w4 ⟨⟨r4,rfl,hr4⟩,hb⟩
 have HR4:Hid (Wgt d.vl r3 r4):=hr4
 have HB4:Hid (yD w w4):=below2 HB3.out hb
 clear c4 hr4 hb
 go_wp2_with fail
 go_ret
 have a1:=HR1.out; have a2:=HR2.out; have a3:=HR3.out; have a4:=HR4.out; have a0:=HH.out.2
 have s1:=size_wt d.sd; have s2:=size_wt d.qt; have s3:=size_wt d.pr; have s4:=size_wt d.vl
 refine⟨⟨r4,rfl,a4.1,by have b1:=a1.2.1; have b2:=a2.2.1; have b3:=a3.2.1; have b4:=a4.2.1; omega,fun hh=>?_⟩,HB4.out⟩
 have e4:=a4.2.2 hh
 have e3:=a3.2.2 (by omega)
 have e2:=a2.2.2 (by omega)
 have e1:=a1.2.2 (by omega)
 exact⟨by omega,by omega,by omega,by omega⟩
end Go.Proofs.YtoogodlnnijikaaGreatDoor
