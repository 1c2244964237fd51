import Derived.Test.YtfbjofnaghjmeaaGreatDoorA0
import Derived.Test.YtfbjofnaghjmeaaGreatDoorA20
namespace Go.Proofs.YtfbjofnaghjmeaaGreatDoor
set_option maxHeartbeats 4000000
set_option maxRecDepth 100000
open Go.RowKit
set_option linter.unusedVariables false
set_option linter.unusedSimpArgs false
def numY (a:Int):Bool:=decide (1≤a) && decide (a≤4)
def prodT (a b:Int):Int × Bool:=if a == 1 then (b,numY b) else if b == 1 then (a,numY a) else (1,(a == 3 && b == 2) || (a == 2 && b == 3))
def quotT (a b:Int):Int × Bool:=if b == 1 then (a,numY a) else (1,numY a && a == b)
def aloneT (o a:Int):Int × Bool:=if o == 2 then (a,a == 5) else (a,numY a)
def pairT (o a b:Int):Int × Bool :=
 if o == 8 then prodT a b else if o == 9 then quotT a b else if o == 17 || o == 18 then (5,a == 5 && b == 5)
 else if o == 13 || o == 14 || o == 15 || o == 16 then (if numY a then (5,a == b) else (0,false))
 else if o == 11 || o == 12 then (5,a == b) else (a,numY a && a == b)
def two (p:Int × Bool):Value:=.tuple #[zU p.1,.bool p.2]
theorem num_any (t:Int) (w:yW):Calls zG 160 #[zU t] w fun e w'=>e=.returned (.bool (numY t))∧w'=w:=by
 unfold numY
 obtain⟨p,hp⟩:∃ p,decide (1≤t)=p:=⟨_,rfl⟩
 obtain⟨q,hq⟩:∃ q,decide (t≤4)=q:=⟨_,rfl⟩
 rw [hp,hq]
 cases p <;> cases q <;> (go_enter Tryz.func160,Tryz.ntmps160; go_wp2_with fail; go_ret; exact⟨rfl,rfl⟩)
theorem prod_any (a b:Int) (w:yW):Calls zG 191 #[zU a,zU b] w fun e w'=>e=.returned (two (prodT a b))∧w'=w:=by
 cases h1:(a == 1) with
 | true =>
  have HE:Hid (prodT a b=(b,numY b)):=by show _=_; simp [prodT,h1]
  have cN:=num_any b
  obtain⟨B,eB⟩:∃ B,numY b=B:=⟨_,rfl⟩
  simp only [eB] at cN HE
  clear eB
  cases B <;> (go_enter Tryz.func191,Tryz.ntmps191; go_wp2_with (go_at_call 160; refine (cN _).mono ?_; rintro e w1 ⟨rfl,e1⟩; obtain rfl:=e1.symm); go_ret2; exact⟨by rw [HE.out]; rfl,rfl⟩)
 | false =>
  cases h2:(b == 1) with
  | true =>
   have HE:Hid (prodT a b=(a,numY a)):=by show _=_; simp [prodT,h1,h2]
   have cN:=num_any a
   obtain⟨B,eB⟩:∃ B,numY a=B:=⟨_,rfl⟩
   simp only [eB] at cN HE
   clear eB
   cases B <;> (go_enter Tryz.func191,Tryz.ntmps191; go_wp2_with (go_at_call 160; refine (cN _).mono ?_; rintro e w1 ⟨rfl,e1⟩; obtain rfl:=e1.symm); go_ret2; exact⟨by rw [HE.out]; rfl,rfl⟩)
  | false =>
   have HE:Hid (prodT a b=(1,(a == 3 && b == 2) || (a == 2 && b == 3))):=by show _=_; simp [prodT,h1,h2]
   obtain⟨p0,hp0⟩:∃ p,(a == 3)=p:=⟨_,rfl⟩
   simp only [hp0] at HE
   obtain⟨p1,hp1⟩:∃ p,(b == 2)=p:=⟨_,rfl⟩
   simp only [hp1] at HE
   obtain⟨p2,hp2⟩:∃ p,(a == 2)=p:=⟨_,rfl⟩
   simp only [hp2] at HE
   obtain⟨p3,hp3⟩:∃ p,(b == 3)=p:=⟨_,rfl⟩
   simp only [hp3] at HE
   cases p0 <;> cases p1 <;> cases p2 <;> cases p3 <;> (go_enter Tryz.func191,Tryz.ntmps191; go_wp2_with fail; go_ret2; exact⟨by rw [HE.out]; rfl,rfl⟩)
theorem quot_any (a b:Int) (w:yW):Calls zG 192 #[zU a,zU b] w fun e w'=>e=.returned (two (quotT a b))∧w'=w:=by
 cases h1:(b == 1) with
 | true =>
  have HE:Hid (quotT a b=(a,numY a)):=by show _=_; simp [quotT,h1]
  have cN:=num_any a
  obtain⟨B,eB⟩:∃ B,numY a=B:=⟨_,rfl⟩
  simp only [eB] at cN HE
  clear eB
  cases B <;> (go_enter Tryz.func192,Tryz.ntmps192; go_wp2_with (go_at_call 160; refine (cN _).mono ?_; rintro e w1 ⟨rfl,e1⟩; obtain rfl:=e1.symm); go_ret2; exact⟨by rw [HE.out]; rfl,rfl⟩)
 | false =>
  have HE:Hid (quotT a b=(1,numY a && a == b)):=by show _=_; simp [quotT,h1]
  obtain⟨p0,hp0⟩:∃ p,(a == b)=p:=⟨_,rfl⟩
  simp only [hp0] at HE
  have cN:=num_any a
  obtain⟨B,eB⟩:∃ B,numY a=B:=⟨_,rfl⟩
  simp only [eB] at cN HE
  clear eB
  cases p0 <;> cases B <;> (go_enter Tryz.func192,Tryz.ntmps192; go_wp2_with (go_at_call 160; refine (cN _).mono ?_; rintro e w1 ⟨rfl,e1⟩; obtain rfl:=e1.symm); go_ret2; exact⟨by rw [HE.out]; rfl,rfl⟩)
theorem alone_any (o a:Int) (w:yW):Calls zG 161 #[zU o,zU a] w fun e w'=>e=.returned (two (aloneT o a))∧w'=w:=by
 cases h1:(o == 2) with
 | true =>
  have HE:Hid (aloneT o a=(a,a == 5)):=by show _=_; simp [aloneT,h1]
  obtain⟨p0,hp0⟩:∃ p,(a == 5)=p:=⟨_,rfl⟩
  simp only [hp0] at HE
  cases p0 <;> (go_enter Tryz.func161,Tryz.ntmps161; go_wp2_with fail; go_ret2; exact⟨by rw [HE.out]; rfl,rfl⟩)
 | false =>
  have HE:Hid (aloneT o a=(a,numY a)):=by show _=_; simp [aloneT,h1]
  have cN:=num_any a
  obtain⟨B,eB⟩:∃ B,numY a=B:=⟨_,rfl⟩
  simp only [eB] at cN HE
  clear eB
  cases B <;> (go_enter Tryz.func161,Tryz.ntmps161; go_wp2_with (go_at_call 160; refine (cN _).mono ?_; rintro e w1 ⟨rfl,e1⟩; obtain rfl:=e1.symm); go_ret2; exact⟨by rw [HE.out]; rfl,rfl⟩)
theorem pair_any (o a b:Int) (w:yW):Calls zG 162 #[zU o,zU a,zU b] w fun e w'=>e=.returned (two (pairT o a b))∧w'=w:=by
 cases h8:(o == 8) with
 | true =>
  have HE:Hid (pairT o a b=prodT a b):=by show _=_; simp [pairT,h8]
  have cN:=prod_any a b
  obtain⟨⟨u,v⟩,eu⟩:∃ q,prodT a b=q:=⟨_,rfl⟩
  simp only [eu,two] at cN HE
  clear eu
  go_enter Tryz.func162,Tryz.ntmps162
  go_wp2_with (go_at_call 191; refine (cN _).mono ?_; rintro e w1 ⟨rfl,e1⟩; obtain rfl:=e1.symm)
  go_ret2
  exact⟨by rw [HE.out]; rfl,rfl⟩
 | false =>
  cases h9:(o == 9) with
  | true =>
   have HE:Hid (pairT o a b=quotT a b):=by show _=_; simp [pairT,h8,h9]
   have cN:=quot_any a b
   obtain⟨⟨u,v⟩,eu⟩:∃ q,quotT a b=q:=⟨_,rfl⟩
   simp only [eu,two] at cN HE
   clear eu
   go_enter Tryz.func162,Tryz.ntmps162
   go_wp2_with (go_at_call 192; refine (cN _).mono ?_; rintro e w1 ⟨rfl,e1⟩; obtain rfl:=e1.symm)
   go_ret2
   exact⟨by rw [HE.out]; rfl,rfl⟩
  | false =>
   cases h17:(o == 17) with
   | true =>
    have HE:Hid (pairT o a b=(5,a == 5 && b == 5)):=by show _=_; simp [pairT,h8,h9,h17]
    obtain⟨p0,hp0⟩:∃ p,(a == 5)=p:=⟨_,rfl⟩
    simp only [hp0] at HE
    obtain⟨p1,hp1⟩:∃ p,(b == 5)=p:=⟨_,rfl⟩
    simp only [hp1] at HE
    cases p0 <;> cases p1 <;> (go_enter Tryz.func162,Tryz.ntmps162; go_wp2_with fail; go_ret2; exact⟨by rw [HE.out]; rfl,rfl⟩)
   | false =>
    cases h18:(o == 18) with
    | true =>
     have HE:Hid (pairT o a b=(5,a == 5 && b == 5)):=by show _=_; simp [pairT,h8,h9,h17,h18]
     obtain⟨p0,hp0⟩:∃ p,(a == 5)=p:=⟨_,rfl⟩
     simp only [hp0] at HE
     obtain⟨p1,hp1⟩:∃ p,(b == 5)=p:=⟨_,rfl⟩
     simp only [hp1] at HE
     cases p0 <;> cases p1 <;> (go_enter Tryz.func162,Tryz.ntmps162; go_wp2_with fail; go_ret2; exact⟨by rw [HE.out]; rfl,rfl⟩)
    | false =>
     cases h13:(o == 13) with
     | true =>
      have HE:Hid (pairT o a b=(if numY a then (5,a == b) else (0,false))):=by show _=_; simp [pairT,h8,h9,h17,h18,h13]
      obtain⟨p0,hp0⟩:∃ p,(a == b)=p:=⟨_,rfl⟩
      simp only [hp0] at HE
      have cN:=num_any a
      obtain⟨B,eB⟩:∃ B,numY a=B:=⟨_,rfl⟩
      simp only [eB] at cN HE
      clear eB
      cases p0 <;> cases B <;> (go_enter Tryz.func162,Tryz.ntmps162; go_wp2_with (go_at_call 160; refine (cN _).mono ?_; rintro e w1 ⟨rfl,e1⟩; obtain rfl:=e1.symm); go_ret2; exact⟨by rw [HE.out]; rfl,rfl⟩)
     | false =>
      cases h14:(o == 14) with
      | true =>
       have HE:Hid (pairT o a b=(if numY a then (5,a == b) else (0,false))):=by show _=_; simp [pairT,h8,h9,h17,h18,h13,h14]
       obtain⟨p0,hp0⟩:∃ p,(a == b)=p:=⟨_,rfl⟩
       simp only [hp0] at HE
       have cN:=num_any a
       obtain⟨B,eB⟩:∃ B,numY a=B:=⟨_,rfl⟩
       simp only [eB] at cN HE
       clear eB
       cases p0 <;> cases B <;> (go_enter Tryz.func162,Tryz.ntmps162; go_wp2_with (go_at_call 160; refine (cN _).mono ?_; rintro e w1 ⟨rfl,e1⟩; obtain rfl:=e1.symm); go_ret2; exact⟨by rw [HE.out]; rfl,rfl⟩)
      | false =>
       cases h15:(o == 15) with
       | true =>
        have HE:Hid (pairT o a b=(if numY a then (5,a == b) else (0,false))):=by show _=_; simp [pairT,h8,h9,h17,h18,h13,h14,h15]
        obtain⟨p0,hp0⟩:∃ p,(a == b)=p:=⟨_,rfl⟩
        simp only [hp0] at HE
        have cN:=num_any a
        obtain⟨B,eB⟩:∃ B,numY a=B:=⟨_,rfl⟩
        simp only [eB] at cN HE
        clear eB
        cases p0 <;> cases B <;> (go_enter Tryz.func162,Tryz.ntmps162; go_wp2_with (go_at_call 160; refine (cN _).mono ?_; rintro e w1 ⟨rfl,e1⟩; obtain rfl:=e1.symm); go_ret2; exact⟨by rw [HE.out]; rfl,rfl⟩)
       | false =>
        cases h16:(o == 16) with
        | true =>
         have HE:Hid (pairT o a b=(if numY a then (5,a == b) else (0,false))):=by show _=_; simp [pairT,h8,h9,h17,h18,h13,h14,h15,h16]
         obtain⟨p0,hp0⟩:∃ p,(a == b)=p:=⟨_,rfl⟩
         simp only [hp0] at HE
         have cN:=num_any a
         obtain⟨B,eB⟩:∃ B,numY a=B:=⟨_,rfl⟩
         simp only [eB] at cN HE
         clear eB
         cases p0 <;> cases B <;> (go_enter Tryz.func162,Tryz.ntmps162; go_wp2_with (go_at_call 160; refine (cN _).mono ?_; rintro e w1 ⟨rfl,e1⟩; obtain rfl:=e1.symm); go_ret2; exact⟨by rw [HE.out]; rfl,rfl⟩)
        | false =>
         cases h11:(o == 11) with
         | true =>
          have HE:Hid (pairT o a b=(5,a == b)):=by show _=_; simp [pairT,h8,h9,h17,h18,h13,h14,h15,h16,h11]
          obtain⟨p0,hp0⟩:∃ p,(a == b)=p:=⟨_,rfl⟩
          simp only [hp0] at HE
          cases p0 <;> (go_enter Tryz.func162,Tryz.ntmps162; go_wp2_with fail; go_ret2; exact⟨by rw [HE.out]; rfl,rfl⟩)
         | false =>
          cases h12:(o == 12) with
          | true =>
           have HE:Hid (pairT o a b=(5,a == b)):=by show _=_; simp [pairT,h8,h9,h17,h18,h13,h14,h15,h16,h11,h12]
           obtain⟨p0,hp0⟩:∃ p,(a == b)=p:=⟨_,rfl⟩
           simp only [hp0] at HE
           cases p0 <;> (go_enter Tryz.func162,Tryz.ntmps162; go_wp2_with fail; go_ret2; exact⟨by rw [HE.out]; rfl,rfl⟩)
          | false =>
           have HE:Hid (pairT o a b=(a,numY a && a == b)):=by show _=_; simp [pairT,h8,h9,h17,h18,h13,h14,h15,h16,h11,h12]
           obtain⟨p0,hp0⟩:∃ p,(a == b)=p:=⟨_,rfl⟩
           simp only [hp0] at HE
           have cN:=num_any a
           obtain⟨B,eB⟩:∃ B,numY a=B:=⟨_,rfl⟩
           simp only [eB] at cN HE
           clear eB
           cases p0 <;> cases B <;> (go_enter Tryz.func162,Tryz.ntmps162; go_wp2_with (go_at_call 160; refine (cN _).mono ?_; rintro e w1 ⟨rfl,e1⟩; obtain rfl:=e1.symm); go_ret2; exact⟨by rw [HE.out]; rfl,rfl⟩)
def fldL:List Int:=[0,3,3,3,2,4,2]
def fldT (f:Int):Int:=fldL.getD f.toNat 0
def fldV:Array Value:=(fldL.map (fun i=>Value.int .u8 i)).toArray
def FTab (w : yW) : Prop := w.var? Tryz.prog "tripwire/types.fieldTypes" = some fldV
theorem fld_global : Tryz.prog.globalNamed "tripwire/types.fieldTypes" = some 0 := by kernel_rfl
theorem FTab.on {w w':yW}(h:FTab w) (hb:yD w w'):FTab w':=by
 unfold FTab World.var? at *
 rw [fld_global] at h ⊢
 simp only [Option.bind_some] at h ⊢
 have hlt:0 < w§:=by
  rcases Nat.lt_or_ge 0 w§ with h' | h'
  ·exact h'
  ·rw [Array.getElem?_eq_none h'] at h; simp at h
 rw [hb.block 0 hlt]
 exact h
theorem FTab.cell {w:yW}(h:FTab w) (i:Nat) (hi:i < 7):w.cell? 0¢i=some (zU (fldT i)):=by
 have:=World.var?_cell fld_global h i
 rw [this]
 unfold fldV fldT
 have hl:i < fldL.length:=hi
 simp [List.getElem?_map,List.getElem?_eq_getElem hl,List.getD]
def fitT (h:Hd) (n:Nat) (a b c:Int):Int × Bool :=
 if h.k == 1 then (h.t,true) else if h.k == 3 then (fldT h.f,true) else if h.k == 4 then (5,true) else if h.k == 7 then (b,a == 5 && b == c) else if h.k == 9 then (h.t,numY a)
 else if (n:Int) == 1 then aloneT h.o a else pairT h.o a b
theorem fit_any (k o t n f:Int) (x:yB) (p:Int) (am:Option Addr) (cm:Nat) (ks:List Nd) (a b c:Int) (w:yW) (hf:k=3→0≤f∧f < 7) (ht:FTab w) :
  Calls zG 101 #[.agg (zW k o t n f x am ks cm p),.agg #[zU a,zU b,zU c]] w fun e w'=>e=.returned (two (fitT ⟨k,o,t,n,f,x,p⟩ ks.length a b c))∧yD w w':=by
 obtain⟨l,el⟩:∃ l,ks.length=l:=⟨_,rfl⟩
 rw [el]
 clear el
 have hb1:=below_new w (.cells #[zU k,zU o,zU t,zI n,zU f,.string x,.slice am l cm,zI p] 38)
 have hn1:=heap_new w (.cells #[zU k,zU o,zU t,zI n,zU f,.string x,.slice am l cm,zI p] 38)
 have hs1:=size_alloc w (.cells #[zU k,zU o,zU t,zI n,zU f,.string x,.slice am l cm,zI p] 38)
 obtain⟨W1,e1⟩:∃ W,w.alloc (.cells #[zU k,zU o,zU t,zI n,zU f,.string x,.slice am l cm,zI p] 38)=W:=⟨_,rfl⟩
 have E1:Hid (w.alloc (.cells #[zU k,zU o,zU t,zI n,zU f,.string x,.slice am l cm,zI p] 38)=W1):=e1
 rw [e1] at hb1 hn1 hs1
 have hb2:=below_new W1 (.cells #[zU a,zU b,zU c] 187)
 have hn2:=heap_new W1 (.cells #[zU a,zU b,zU c] 187)
 have hk2:=(hb2.block _ (zJ hn1).1).trans hn1
 have hbw:=below2 hb1 hb2
 rw [hs1] at hn2
 have HF:Hid (k=3→0≤f∧f < 7):=hf
 have HT:Hid (FTab w):=ht
 have HS1:Hid (W1§=w§+1):=hs1
 obtain⟨W2,e2⟩:∃ W,W1.alloc (.cells #[zU a,zU b,zU c] 187)=W:=⟨_,rfl⟩
 have E2:Hid (W1.alloc (.cells #[zU a,zU b,zU c] 187)=W2):=e2
 rw [e2] at hn2 hk2 hbw
 have HN2:Hid (W2.heap[w§+1]? = (zC #[zU a,zU b,zU c] 187)):=hn2
 have HN1:Hid (W2.heap[w§]? = (zC #[zU k,zU o,zU t,zI n,zU f,.string x,.slice am l cm,zI p] 38)):=hk2
 have HBW:Hid (yD w W2):=hbw
 clear hb1 hn1 hs1 hb2 hn2 hk2 hbw hf ht e1 e2
 go_enter Tryz.func101,Tryz.ntmps101
 go_upto_region 1 with fail
 rw [E1.out,E2.out]
 try rw [HS1.out]
 have z0:W2.cell? ⟨w§+1,0,none⟩=some (zU a):=cell_of HN2.out 0
 have z1:W2.cell? ⟨w§+1,1,none⟩=some (zU b):=cell_of HN2.out 1
 have z2:W2.cell? ⟨w§+1,2,none⟩=some (zU c):=cell_of HN2.out 2
 go_quiet (fail)
 obtain⟨V,eV⟩:∃ V,W2.drewN nq=V:=⟨_,rfl⟩
 have hV1:V.heap[w§]? = (zC #[zU k,zU o,zU t,zI n,zU f,.string x,.slice am l cm,zI p] 38):=by rw [← eV]; exact HN1.out
 have HBV:Hid (yD w V):=by
  have h1:=HBW.out
  rw [← eV]
  exact⟨h1.os,h1.tape,h1.output,h1.size,h1.block⟩
 rw [eV]
 clear eV HN1 HN2 HBW z0 z1 z2 E1 E2 HS1
 have y0:V.cell? w§¢0=some (zU k):=cell_of hV1 0
 have y1:V.cell? w§¢1=some (zU o):=cell_of hV1 1
 have y2:V.cell? w§¢2=some (zU t):=cell_of hV1 2
 have y4:V.cell? w§¢4=some (zU f):=cell_of hV1 4
 have y6:V.cell? w§¢6=some (.slice am l cm):=cell_of hV1 6
 clear hV1
 cases h1:(k == 1) with
 | true =>
  have HE:Hid (fitT ⟨k,o,t,n,f,x,p⟩ l a b c=(t,true)):=by show _=_; simp [fitT,h1]
  go_wp2_with fail
  go_ret2
  exact⟨by rw [HE.out]; rfl,HBV.out⟩
 | false =>
  cases h3:(k == 3) with
  | true =>
   have HE:Hid (fitT ⟨k,o,t,n,f,x,p⟩ l a b c=(fldT f,true)):=by show _=_; simp [fitT,h1,h3]
   have hf:=HF.out (by simpa using h3)
   obtain⟨i,ei⟩:∃ i:Nat,(i:Int)=f:=⟨f.toNat,by omega⟩
   subst ei
   have hi:i < 7:=by omega
   have hi2:(i:Int) < 7:=by omega
   have c0:V.cell? 0¢i=some (zU (fldT i)):=(HT.out.on HBV.out).cell i hi
   go_wp2_with fail
   go_ret2
   exact⟨by rw [HE.out]; rfl,HBV.out⟩
  | false =>
   cases h4:(k == 4) with
   | true =>
    have HE:Hid (fitT ⟨k,o,t,n,f,x,p⟩ l a b c=(5,true)):=by show _=_; simp [fitT,h1,h3,h4]
    go_wp2_with fail
    go_ret2
    exact⟨by rw [HE.out]; rfl,HBV.out⟩
   | false =>
    cases h7:(k == 7) with
    | true =>
     have HE:Hid (fitT ⟨k,o,t,n,f,x,p⟩ l a b c=(b,a == 5 && b == c)):=by show _=_; simp [fitT,h1,h3,h4,h7]
     obtain⟨p0,hp0⟩:∃ p,(a == 5)=p:=⟨_,rfl⟩
     obtain⟨p1,hp1⟩:∃ p,(b == c)=p:=⟨_,rfl⟩
     simp only [hp0,hp1] at HE
     cases p0 <;> cases p1 <;> (go_wp2_with fail; go_ret2; exact⟨by rw [HE.out]; rfl,HBV.out⟩)
    | false =>
     cases h9:(k == 9) with
     | true =>
      have HE:Hid (fitT ⟨k,o,t,n,f,x,p⟩ l a b c=(t,numY a)):=by show _=_; simp [fitT,h1,h3,h4,h7,h9]
      have cN:=num_any a
      obtain⟨B,eB⟩:∃ B,numY a=B:=⟨_,rfl⟩
      simp only [eB] at cN HE
      clear eB
      go_upto_region 12 with fail
      go_quiet ((go_at_call 160; refine Calls.quiet_of_same (cN _)))
      go_wp2_with fail
      go_ret2
      exact⟨by rw [HE.out]; rfl,by have h1:=HBV.out; exact⟨h1.os,h1.tape,h1.output,h1.size,h1.block⟩⟩
     | false =>
      cases hl:((l:Int) == 1) with
      | true =>
       have HE:Hid (fitT ⟨k,o,t,n,f,x,p⟩ l a b c=aloneT o a):=by show _=_; simp [fitT,h1,h3,h4,h7,h9,hl]
       have cN:=alone_any o a
       obtain⟨⟨u,v⟩,eu⟩:∃ q,aloneT o a=q:=⟨_,rfl⟩
       simp only [eu,two] at cN HE
       clear eu
       go_wp2_with (go_at_call 161; refine (cN _).mono ?_; rintro e w1 ⟨rfl,e1⟩; obtain rfl:=e1.symm)
       go_ret2
       exact⟨by rw [HE.out]; rfl,HBV.out⟩
      | false =>
       have HE:Hid (fitT ⟨k,o,t,n,f,x,p⟩ l a b c=pairT o a b):=by show _=_; simp [fitT,h1,h3,h4,h7,h9,hl]
       have cN:=pair_any o a b
       obtain⟨⟨u,v⟩,eu⟩:∃ q,pairT o a b=q:=⟨_,rfl⟩
       simp only [eu,two] at cN HE
       clear eu
       go_wp2_with (go_at_call 162; refine (cN _).mono ?_; rintro e w1 ⟨rfl,e1⟩; obtain rfl:=e1.symm)
       go_ret2
       exact⟨by rw [HE.out]; rfl,HBV.out⟩
end Go.Proofs.YtfbjofnaghjmeaaGreatDoor
