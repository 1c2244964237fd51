import Derived.Test.YtoogodlnnijikaaGreatDoorA0
import Derived.Test.YtoogodlnnijikaaGreatDoorA18
import Derived.Test.YtoogodlnnijikaaGreatDoorRows
import Derived.Test.YtoogodlnnijikaaGreatDoorA3
import Derived.LaidMore
import Derived.LaidHandle
import Derived.MakeChecks
import Derived.Stop.LaidErr
import Derived.Lib.LaidTab
import Derived.Test.YtoogodlnnijikaaGreatDoorA6
import Derived.Test.YtoogodlnnijikaaGreatDoorA2
import Derived.Deep.RegionHeld3
namespace Go.Proofs.YtoogodlnnijikaaGreatDoor
open Go.RowKit
set_option linter.unusedVariables false
set_option linter.unusedSimpArgs false
def numY (a:Int):Bool:=decide (1≤a) && decide (a≤4)
def prodT (a b:Int):Int × Bool:=if a == 1 then (b,numY b) else if b == 1 then (a,numY a) else (1,(a == 3 && b == 2) || (a == 2 && b == 3))
def quotT (a b:Int):Int × Bool:=if b == 1 then (a,numY a) else (1,numY a && a == b)
def aloneT (o a:Int):Int × Bool:=if o == 2 then (a,a == 5) else (a,numY a)
def pairT (o a b:Int):Int × Bool :=
 if o == 8 then prodT a b else if o == 9 then quotT a b else if o == 17 || o == 18 then (5,a == 5 && b == 5)
 else if o == 13 || o == 14 || o == 15 || o == 16 then (if numY a then (5,a == b) else (0,false))
 else if o == 11 || o == 12 then (5,a == b) else (a,numY a && a == b)
def two (p:Int × Bool):Value:=.tuple #[zU p.1,.bool p.2]
theorem num_any (t:Int) (w:World):Calls zG 117 #[zU t] w fun e w'=>e=.returned (.bool (numY t))∧w'=w:=by
 unfold numY
 obtain⟨p,hp⟩:∃ p,decide (1≤t)=p:=⟨_,rfl⟩
 obtain⟨q,hq⟩:∃ q,decide (t≤4)=q:=⟨_,rfl⟩
 rw [hp,hq]
 cases p <;> cases q <;> (go_enter Tryz.func117,Tryz.ntmps117; go_wp2_with fail; go_ret; exact⟨rfl,rfl⟩)
set_option maxRecDepth 100000 in
set_option maxHeartbeats 4000000 in
theorem prod_any (a b:Int) (w:World):Calls zG 148 #[zU a,zU b] w fun e w'=>e=.returned (two (prodT a b))∧w'=w:=by
 cases h1:(a == 1) with
 | true =>
  have HE:Hid (prodT a b=(b,numY b)):=by show _=_; simp [prodT,h1]
  have cN:=num_any b
  obtain⟨B,eB⟩:∃ B,numY b=B:=⟨_,rfl⟩
  simp only [eB] at cN HE
  clear eB
  cases B <;> (go_enter Tryz.func148,Tryz.ntmps148; go_wp2_with (go_at_call 117; refine (cN _).mono ?_; rintro e w1 ⟨rfl,e1⟩; obtain rfl:=e1.symm); go_ret2; exact⟨by rw [HE.out]; rfl,rfl⟩)
 | false =>
  cases h2:(b == 1) with
  | true =>
   have HE:Hid (prodT a b=(a,numY a)):=by show _=_; simp [prodT,h1,h2]
   have cN:=num_any a
   obtain⟨B,eB⟩:∃ B,numY a=B:=⟨_,rfl⟩
   simp only [eB] at cN HE
   clear eB
   cases B <;> (go_enter Tryz.func148,Tryz.ntmps148; go_wp2_with (go_at_call 117; refine (cN _).mono ?_; rintro e w1 ⟨rfl,e1⟩; obtain rfl:=e1.symm); go_ret2; exact⟨by rw [HE.out]; rfl,rfl⟩)
  | false =>
   have HE:Hid (prodT a b=(1,(a == 3 && b == 2) || (a == 2 && b == 3))):=by show _=_; simp [prodT,h1,h2]
   obtain⟨p0,hp0⟩:∃ p,(a == 3)=p:=⟨_,rfl⟩
   simp only [hp0] at HE
   obtain⟨p1,hp1⟩:∃ p,(b == 2)=p:=⟨_,rfl⟩
   simp only [hp1] at HE
   obtain⟨p2,hp2⟩:∃ p,(a == 2)=p:=⟨_,rfl⟩
   simp only [hp2] at HE
   obtain⟨p3,hp3⟩:∃ p,(b == 3)=p:=⟨_,rfl⟩
   simp only [hp3] at HE
   cases p0 <;> cases p1 <;> cases p2 <;> cases p3 <;> (go_enter Tryz.func148,Tryz.ntmps148; go_wp2_with fail; go_ret2; exact⟨by rw [HE.out]; rfl,rfl⟩)
set_option maxRecDepth 100000 in
set_option maxHeartbeats 4000000 in
theorem quot_any (a b:Int) (w:World):Calls zG 149 #[zU a,zU b] w fun e w'=>e=.returned (two (quotT a b))∧w'=w:=by
 cases h1:(b == 1) with
 | true =>
  have HE:Hid (quotT a b=(a,numY a)):=by show _=_; simp [quotT,h1]
  have cN:=num_any a
  obtain⟨B,eB⟩:∃ B,numY a=B:=⟨_,rfl⟩
  simp only [eB] at cN HE
  clear eB
  cases B <;> (go_enter Tryz.func149,Tryz.ntmps149; go_wp2_with (go_at_call 117; refine (cN _).mono ?_; rintro e w1 ⟨rfl,e1⟩; obtain rfl:=e1.symm); go_ret2; exact⟨by rw [HE.out]; rfl,rfl⟩)
 | false =>
  have HE:Hid (quotT a b=(1,numY a && a == b)):=by show _=_; simp [quotT,h1]
  obtain⟨p0,hp0⟩:∃ p,(a == b)=p:=⟨_,rfl⟩
  simp only [hp0] at HE
  have cN:=num_any a
  obtain⟨B,eB⟩:∃ B,numY a=B:=⟨_,rfl⟩
  simp only [eB] at cN HE
  clear eB
  cases p0 <;> cases B <;> (go_enter Tryz.func149,Tryz.ntmps149; go_wp2_with (go_at_call 117; refine (cN _).mono ?_; rintro e w1 ⟨rfl,e1⟩; obtain rfl:=e1.symm); go_ret2; exact⟨by rw [HE.out]; rfl,rfl⟩)
set_option maxRecDepth 100000 in
set_option maxHeartbeats 4000000 in
theorem alone_any (o a:Int) (w:World):Calls zG 118 #[zU o,zU a] w fun e w'=>e=.returned (two (aloneT o a))∧w'=w:=by
 cases h1:(o == 2) with
 | true =>
  have HE:Hid (aloneT o a=(a,a == 5)):=by show _=_; simp [aloneT,h1]
  obtain⟨p0,hp0⟩:∃ p,(a == 5)=p:=⟨_,rfl⟩
  simp only [hp0] at HE
  cases p0 <;> (go_enter Tryz.func118,Tryz.ntmps118; go_wp2_with fail; go_ret2; exact⟨by rw [HE.out]; rfl,rfl⟩)
 | false =>
  have HE:Hid (aloneT o a=(a,numY a)):=by show _=_; simp [aloneT,h1]
  have cN:=num_any a
  obtain⟨B,eB⟩:∃ B,numY a=B:=⟨_,rfl⟩
  simp only [eB] at cN HE
  clear eB
  cases B <;> (go_enter Tryz.func118,Tryz.ntmps118; go_wp2_with (go_at_call 117; refine (cN _).mono ?_; rintro e w1 ⟨rfl,e1⟩; obtain rfl:=e1.symm); go_ret2; exact⟨by rw [HE.out]; rfl,rfl⟩)
set_option maxRecDepth 100000 in
set_option maxHeartbeats 4000000 in
theorem pair_any (o a b:Int) (w:World):Calls zG 119 #[zU o,zU a,zU b] w fun e w'=>e=.returned (two (pairT o a b))∧w'=w:=by
 cases h8:(o == 8) with
 | true =>
  have HE:Hid (pairT o a b=prodT a b):=by show _=_; simp [pairT,h8]
  have cN:=prod_any a b
  obtain⟨⟨u,v⟩,eu⟩:∃ q,prodT a b=q:=⟨_,rfl⟩
  simp only [eu,two] at cN HE
  clear eu
  go_enter Tryz.func119,Tryz.ntmps119
  go_wp2_with (go_at_call 148; refine (cN _).mono ?_; rintro e w1 ⟨rfl,e1⟩; obtain rfl:=e1.symm)
  go_ret2
  exact⟨by rw [HE.out]; rfl,rfl⟩
 | false =>
  cases h9:(o == 9) with
  | true =>
   have HE:Hid (pairT o a b=quotT a b):=by show _=_; simp [pairT,h8,h9]
   have cN:=quot_any a b
   obtain⟨⟨u,v⟩,eu⟩:∃ q,quotT a b=q:=⟨_,rfl⟩
   simp only [eu,two] at cN HE
   clear eu
   go_enter Tryz.func119,Tryz.ntmps119
   go_wp2_with (go_at_call 149; refine (cN _).mono ?_; rintro e w1 ⟨rfl,e1⟩; obtain rfl:=e1.symm)
   go_ret2
   exact⟨by rw [HE.out]; rfl,rfl⟩
  | false =>
   cases h17:(o == 17) with
   | true =>
    have HE:Hid (pairT o a b=(5,a == 5 && b == 5)):=by show _=_; simp [pairT,h8,h9,h17]
    obtain⟨p0,hp0⟩:∃ p,(a == 5)=p:=⟨_,rfl⟩
    simp only [hp0] at HE
    obtain⟨p1,hp1⟩:∃ p,(b == 5)=p:=⟨_,rfl⟩
    simp only [hp1] at HE
    cases p0 <;> cases p1 <;> (go_enter Tryz.func119,Tryz.ntmps119; go_wp2_with fail; go_ret2; exact⟨by rw [HE.out]; rfl,rfl⟩)
   | false =>
    cases h18:(o == 18) with
    | true =>
     have HE:Hid (pairT o a b=(5,a == 5 && b == 5)):=by show _=_; simp [pairT,h8,h9,h17,h18]
     obtain⟨p0,hp0⟩:∃ p,(a == 5)=p:=⟨_,rfl⟩
     simp only [hp0] at HE
     obtain⟨p1,hp1⟩:∃ p,(b == 5)=p:=⟨_,rfl⟩
     simp only [hp1] at HE
     cases p0 <;> cases p1 <;> (go_enter Tryz.func119,Tryz.ntmps119; go_wp2_with fail; go_ret2; exact⟨by rw [HE.out]; rfl,rfl⟩)
    | false =>
     cases h13:(o == 13) with
     | true =>
      have HE:Hid (pairT o a b=(if numY a then (5,a == b) else (0,false))):=by show _=_; simp [pairT,h8,h9,h17,h18,h13]
      obtain⟨p0,hp0⟩:∃ p,(a == b)=p:=⟨_,rfl⟩
      simp only [hp0] at HE
      have cN:=num_any a
      obtain⟨B,eB⟩:∃ B,numY a=B:=⟨_,rfl⟩
      simp only [eB] at cN HE
      clear eB
      cases p0 <;> cases B <;> (go_enter Tryz.func119,Tryz.ntmps119; go_wp2_with (go_at_call 117; refine (cN _).mono ?_; rintro e w1 ⟨rfl,e1⟩; obtain rfl:=e1.symm); go_ret2; exact⟨by rw [HE.out]; rfl,rfl⟩)
     | false =>
      cases h14:(o == 14) with
      | true =>
       have HE:Hid (pairT o a b=(if numY a then (5,a == b) else (0,false))):=by show _=_; simp [pairT,h8,h9,h17,h18,h13,h14]
       obtain⟨p0,hp0⟩:∃ p,(a == b)=p:=⟨_,rfl⟩
       simp only [hp0] at HE
       have cN:=num_any a
       obtain⟨B,eB⟩:∃ B,numY a=B:=⟨_,rfl⟩
       simp only [eB] at cN HE
       clear eB
       cases p0 <;> cases B <;> (go_enter Tryz.func119,Tryz.ntmps119; go_wp2_with (go_at_call 117; refine (cN _).mono ?_; rintro e w1 ⟨rfl,e1⟩; obtain rfl:=e1.symm); go_ret2; exact⟨by rw [HE.out]; rfl,rfl⟩)
      | false =>
       cases h15:(o == 15) with
       | true =>
        have HE:Hid (pairT o a b=(if numY a then (5,a == b) else (0,false))):=by show _=_; simp [pairT,h8,h9,h17,h18,h13,h14,h15]
        obtain⟨p0,hp0⟩:∃ p,(a == b)=p:=⟨_,rfl⟩
        simp only [hp0] at HE
        have cN:=num_any a
        obtain⟨B,eB⟩:∃ B,numY a=B:=⟨_,rfl⟩
        simp only [eB] at cN HE
        clear eB
        cases p0 <;> cases B <;> (go_enter Tryz.func119,Tryz.ntmps119; go_wp2_with (go_at_call 117; refine (cN _).mono ?_; rintro e w1 ⟨rfl,e1⟩; obtain rfl:=e1.symm); go_ret2; exact⟨by rw [HE.out]; rfl,rfl⟩)
       | false =>
        cases h16:(o == 16) with
        | true =>
         have HE:Hid (pairT o a b=(if numY a then (5,a == b) else (0,false))):=by show _=_; simp [pairT,h8,h9,h17,h18,h13,h14,h15,h16]
         obtain⟨p0,hp0⟩:∃ p,(a == b)=p:=⟨_,rfl⟩
         simp only [hp0] at HE
         have cN:=num_any a
         obtain⟨B,eB⟩:∃ B,numY a=B:=⟨_,rfl⟩
         simp only [eB] at cN HE
         clear eB
         cases p0 <;> cases B <;> (go_enter Tryz.func119,Tryz.ntmps119; go_wp2_with (go_at_call 117; refine (cN _).mono ?_; rintro e w1 ⟨rfl,e1⟩; obtain rfl:=e1.symm); go_ret2; exact⟨by rw [HE.out]; rfl,rfl⟩)
        | false =>
         cases h11:(o == 11) with
         | true =>
          have HE:Hid (pairT o a b=(5,a == b)):=by show _=_; simp [pairT,h8,h9,h17,h18,h13,h14,h15,h16,h11]
          obtain⟨p0,hp0⟩:∃ p,(a == b)=p:=⟨_,rfl⟩
          simp only [hp0] at HE
          cases p0 <;> (go_enter Tryz.func119,Tryz.ntmps119; go_wp2_with fail; go_ret2; exact⟨by rw [HE.out]; rfl,rfl⟩)
         | false =>
          cases h12:(o == 12) with
          | true =>
           have HE:Hid (pairT o a b=(5,a == b)):=by show _=_; simp [pairT,h8,h9,h17,h18,h13,h14,h15,h16,h11,h12]
           obtain⟨p0,hp0⟩:∃ p,(a == b)=p:=⟨_,rfl⟩
           simp only [hp0] at HE
           cases p0 <;> (go_enter Tryz.func119,Tryz.ntmps119; go_wp2_with fail; go_ret2; exact⟨by rw [HE.out]; rfl,rfl⟩)
          | false =>
           have HE:Hid (pairT o a b=(a,numY a && a == b)):=by show _=_; simp [pairT,h8,h9,h17,h18,h13,h14,h15,h16,h11,h12]
           obtain⟨p0,hp0⟩:∃ p,(a == b)=p:=⟨_,rfl⟩
           simp only [hp0] at HE
           have cN:=num_any a
           obtain⟨B,eB⟩:∃ B,numY a=B:=⟨_,rfl⟩
           simp only [eB] at cN HE
           clear eB
           cases p0 <;> cases B <;> (go_enter Tryz.func119,Tryz.ntmps119; go_wp2_with (go_at_call 117; refine (cN _).mono ?_; rintro e w1 ⟨rfl,e1⟩; obtain rfl:=e1.symm); go_ret2; exact⟨by rw [HE.out]; rfl,rfl⟩)
def fldL:List Int:=[0,3,3,3,2,4,2]
def fldT (f:Int):Int:=fldL.getD f.toNat 0
def fldV:Array Value:=(fldL.map (fun i=>Value.int .u8 i)).toArray
def FTab (w : World) : Prop := w.var? Tryz.prog "tripwire/types.fieldTypes" = some fldV
theorem fld_global : Tryz.prog.globalNamed "tripwire/types.fieldTypes" = some 1 := by kernel_rfl
theorem FTab.on {w w':World}(h:FTab w) (hb:Below w§ w w'):FTab w':=by
 unfold FTab World.var? at *
 rw [fld_global] at h ⊢
 simp only [Option.bind_some] at h ⊢
 have hlt:1 < w§:=by
  rcases Nat.lt_or_ge 1 w§ with h' | h'
  ·exact h'
  ·rw [Array.getElem?_eq_none h'] at h; simp at h
 rw [hb.block 1 hlt]
 exact h
theorem FTab.cell {w:World}(h:FTab w) (i:Nat) (hi:i < 7):w.cell? ⟨1,i,none⟩=some (zU (fldT i)):=by
 have:=World.var?_cell fld_global h i
 rw [this]
 unfold fldV fldT
 have hl:i < fldL.length:=hi
 simp [List.getElem?_map,List.getElem?_eq_getElem hl,List.getD]
def fitT (h:Hd) (n:Nat) (a b c:Int):Int × Bool :=
 if h.k == 1 then (h.t,true) else if h.k == 3 then (fldT h.f,true) else if h.k == 4 then (5,true) else if h.k == 7 then (b,a == 5 && b == c) else if h.k == 9 then (h.t,numY a)
 else if (n:Int) == 1 then aloneT h.o a else pairT h.o a b
set_option maxRecDepth 100000 in
set_option maxHeartbeats 4000000 in
theorem fit_any (k o t n f:Int) (x:ByteArray) (p:Int) (am:Option Addr) (cm:Nat) (ks:List Nd) (a b c:Int) (w:World) (hf:k=3→0≤f∧f < 7) (ht:FTab w) :
  Calls zG 82 #[.agg #[zU k,zU o,zU t,zI n,zU f,.string x,.slice am ks.length cm,zI p],.agg #[zU a,zU b,zU c]] w fun e w'=>e=.returned (two (fitT ⟨k,o,t,n,f,x,p⟩ ks.length a b c))∧Below w§ w w':=by
 obtain⟨l,el⟩:∃ l,ks.length=l:=⟨_,rfl⟩
 rw [el]
 clear el
 have hb1:=below_new w (.cells #[zU k,zU o,zU t,zI n,zU f,.string x,.slice am l cm,zI p] 48)
 have hn1:=heap_new w (.cells #[zU k,zU o,zU t,zI n,zU f,.string x,.slice am l cm,zI p] 48)
 have hs1:=size_alloc w (.cells #[zU k,zU o,zU t,zI n,zU f,.string x,.slice am l cm,zI p] 48)
 obtain⟨W1,e1⟩:∃ W,w.alloc (.cells #[zU k,zU o,zU t,zI n,zU f,.string x,.slice am l cm,zI p] 48)=W:=⟨_,rfl⟩
 have E1:Hid (w.alloc (.cells #[zU k,zU o,zU t,zI n,zU f,.string x,.slice am l cm,zI p] 48)=W1):=e1
 rw [e1] at hb1 hn1 hs1
 have hb2:=below_new W1 (.cells #[zU a,zU b,zU c] 138)
 have hn2:=heap_new W1 (.cells #[zU a,zU b,zU c] 138)
 have hk2:=(hb2.block _ (Array.getElem?_eq_some_iff.1 hn1).1).trans hn1
 have hbw:=below2 hb1 hb2
 rw [hs1] at hn2
 have HF:Hid (k=3→0≤f∧f < 7):=hf
 have HT:Hid (FTab w):=ht
 have HS1:Hid (W1§=w§+1):=hs1
 obtain⟨W2,e2⟩:∃ W,W1.alloc (.cells #[zU a,zU b,zU c] 138)=W:=⟨_,rfl⟩
 have E2:Hid (W1.alloc (.cells #[zU a,zU b,zU c] 138)=W2):=e2
 rw [e2] at hn2 hk2 hbw
 have HN2:Hid (W2.heap[w§+1]? = some (.cells #[zU a,zU b,zU c] 138 (0,0))):=hn2
 have HN1:Hid (W2.heap[w§]? = some (.cells #[zU k,zU o,zU t,zI n,zU f,.string x,.slice am l cm,zI p] 48 (0,0))):=hk2
 have HBW:Hid (Below w§ w W2):=hbw
 clear hb1 hn1 hs1 hb2 hn2 hk2 hbw hf ht e1 e2
 go_enter Tryz.func82,Tryz.ntmps82
 go_upto_region 1 with fail
 rw [E1.out,E2.out]
 try rw [HS1.out]
 have z0:W2.cell? ⟨w§+1,0,none⟩=some (zU a):=cell_of HN2.out 0
 have z1:W2.cell? ⟨w§+1,1,none⟩=some (zU b):=cell_of HN2.out 1
 have z2:W2.cell? ⟨w§+1,2,none⟩=some (zU c):=cell_of HN2.out 2
 go_quiet (fail)
 obtain⟨V,eV⟩:∃ V,W2.drewN nq=V:=⟨_,rfl⟩
 have hV1:V.heap[w§]? = some (.cells #[zU k,zU o,zU t,zI n,zU f,.string x,.slice am l cm,zI p] 48 (0,0)):=by rw [← eV]; exact HN1.out
 have HBV:Hid (Below w§ w V):=by
  have h1:=HBW.out
  rw [← eV]
  exact⟨h1.os,h1.tape,h1.output,h1.size,h1.block⟩
 rw [eV]
 clear eV HN1 HN2 HBW z0 z1 z2 E1 E2 HS1
 have y0:V.cell? ⟨w§,0,none⟩=some (zU k):=cell_of hV1 0
 have y1:V.cell? ⟨w§,1,none⟩=some (zU o):=cell_of hV1 1
 have y2:V.cell? ⟨w§,2,none⟩=some (zU t):=cell_of hV1 2
 have y4:V.cell? ⟨w§,4,none⟩=some (zU f):=cell_of hV1 4
 have y6:V.cell? ⟨w§,6,none⟩=some (.slice am l cm):=cell_of hV1 6
 clear hV1
 cases h1:(k == 1) with
 | true =>
  have HE:Hid (fitT ⟨k,o,t,n,f,x,p⟩ l a b c=(t,true)):=by show _=_; simp [fitT,h1]
  go_wp2_with fail
  go_ret2
  exact⟨by rw [HE.out]; rfl,HBV.out⟩
 | false =>
  cases h3:(k == 3) with
  | true =>
   have HE:Hid (fitT ⟨k,o,t,n,f,x,p⟩ l a b c=(fldT f,true)):=by show _=_; simp [fitT,h1,h3]
   have hf:=HF.out (by simpa using h3)
   obtain⟨i,ei⟩:∃ i:Nat,(i:Int)=f:=⟨f.toNat,by omega⟩
   subst ei
   have hi:i < 7:=by omega
   have hi2:(i:Int) < 7:=by omega
   have c0:V.cell? ⟨1,i,none⟩=some (zU (fldT i)):=(HT.out.on HBV.out).cell i hi
   go_wp2_with fail
   go_ret2
   exact⟨by rw [HE.out]; rfl,HBV.out⟩
  | false =>
   cases h4:(k == 4) with
   | true =>
    have HE:Hid (fitT ⟨k,o,t,n,f,x,p⟩ l a b c=(5,true)):=by show _=_; simp [fitT,h1,h3,h4]
    go_wp2_with fail
    go_ret2
    exact⟨by rw [HE.out]; rfl,HBV.out⟩
   | false =>
    cases h7:(k == 7) with
    | true =>
     have HE:Hid (fitT ⟨k,o,t,n,f,x,p⟩ l a b c=(b,a == 5 && b == c)):=by show _=_; simp [fitT,h1,h3,h4,h7]
     obtain⟨p0,hp0⟩:∃ p,(a == 5)=p:=⟨_,rfl⟩
     obtain⟨p1,hp1⟩:∃ p,(b == c)=p:=⟨_,rfl⟩
     simp only [hp0,hp1] at HE
     cases p0 <;> cases p1 <;> (go_wp2_with fail; go_ret2; exact⟨by rw [HE.out]; rfl,HBV.out⟩)
    | false =>
     cases h9:(k == 9) with
     | true =>
      have HE:Hid (fitT ⟨k,o,t,n,f,x,p⟩ l a b c=(t,numY a)):=by show _=_; simp [fitT,h1,h3,h4,h7,h9]
      have cN:=num_any a
      obtain⟨B,eB⟩:∃ B,numY a=B:=⟨_,rfl⟩
      simp only [eB] at cN HE
      clear eB
      go_upto_region 12 with fail
      go_quiet ((go_at_call 117; refine Calls.quiet_of_same (cN _)))
      go_wp2_with fail
      go_ret2
      exact⟨by rw [HE.out]; rfl,by have h1:=HBV.out; exact⟨h1.os,h1.tape,h1.output,h1.size,h1.block⟩⟩
     | false =>
      cases hl:((l:Int) == 1) with
      | true =>
       have HE:Hid (fitT ⟨k,o,t,n,f,x,p⟩ l a b c=aloneT o a):=by show _=_; simp [fitT,h1,h3,h4,h7,h9,hl]
       have cN:=alone_any o a
       obtain⟨⟨u,v⟩,eu⟩:∃ q,aloneT o a=q:=⟨_,rfl⟩
       simp only [eu,two] at cN HE
       clear eu
       go_wp2_with (go_at_call 118; refine (cN _).mono ?_; rintro e w1 ⟨rfl,e1⟩; obtain rfl:=e1.symm)
       go_ret2
       exact⟨by rw [HE.out]; rfl,HBV.out⟩
      | false =>
       have HE:Hid (fitT ⟨k,o,t,n,f,x,p⟩ l a b c=pairT o a b):=by show _=_; simp [fitT,h1,h3,h4,h7,h9,hl]
       have cN:=pair_any o a b
       obtain⟨⟨u,v⟩,eu⟩:∃ q,pairT o a b=q:=⟨_,rfl⟩
       simp only [eu,two] at cN HE
       clear eu
       go_wp2_with (go_at_call 119; refine (cN _).mono ?_; rintro e w1 ⟨rfl,e1⟩; obtain rfl:=e1.symm)
       go_ret2
       exact⟨by rw [HE.out]; rfl,HBV.out⟩
def txtData {H:Type}(zs:List ByteArray):DataW H:=.agg (zs.map fun z=>.lit (.string z.data.toList))
theorem tab_data:(Rows.laid_tripwire_lex_words:DataW Unit)=txtData wordsL:=by rfl
theorem cells_of_txt {H:Type}{enc:TypeId × Value→H}{P:Program}{w:World}{base:Nat}{sp:Nat→Bool}{held:Bool}{fuel:Nat}{t e:TypeId}{n:Nat}{cs:List Value}{zs:List ByteArray}{p:List MemPlace}
  (ht:P.underlying t=some (.array n e)) (he:P.underlying e=some .string) (hce:P.cellsOf e=1) (hct:P.cellsOf t=n)
  (h:DataW.trod enc P w base sp held fuel t cs=some (txtData zs,p)):cs=zs.map Value.string:=by
 cases fuel with
 | zero=>simp [DataW.trod] at h
 | succ fuel =>
  simp only [DataW.trod,ht,hce,hct,Nat.mul_one] at h
  split at h
  ·rename_i hl
   obtain⟨xs,hm,hx⟩:=Option.map_eq_some_iff.1 h
   have hxs:xs.map (·.1)=zs.map fun z=>(DataW.lit (.string z.data.toList):DataW H):=by
    have:=congrArg Prod.fst hx
    simpa [txtData] using this
   have hxl:xs.length=n:=by simpa using Lib.mapM_length hm
   have hzl:zs.length=n:=by
    have:=congrArg List.length hxs
    simp at this
    omega
   apply List.ext_getElem?
   intro i
   by_cases hi:i < n
   ·obtain⟨b,hb,hf⟩:=Lib.mapM_at hm i i (by simp [hi])
    obtain⟨z,hc,rfl,_⟩:=DataW.trod_string he hf
    have h1:cs[i]? = some (.string z):=by
     have:=congrArg (·[0]?) hc
     simpa [List.getElem?_take,List.getElem?_drop] using this
    have h2:(xs.map (·.1))[i]? = some (DataW.lit (.string z.data.toList):DataW H):=by simp [hb]
    rw [hxs] at h2
    simp only [List.getElem?_map,Option.map_eq_some_iff,DataW.lit.injEq,Lit.string.injEq] at h2
    obtain⟨z',hz',e2⟩:=h2
    simp [h1,hz',str_eq e2]
   ·rw [List.getElem?_eq_none (by omega),List.getElem?_eq_none (by simp; omega)]
  ·cases h
theorem txt_of_head {P:Program}{W:World}{name:String}{zs:List ByteArray}{rest:List (String × DataW Unit)}{g:Nat}{t e:TypeId}{n:Nat}
  (hg:P.globalNamed name=some g) (hty:(P.globals[g]?).map (·.type)=some t) (ht:P.underlying t=some (.array n e)) (he:P.underlying e=some .string) (hce:P.cellsOf e=1) (hct:P.cellsOf t=n)
  (h:laidMet P ((name,txtData zs) :: rest) W):W.var? P name=some (zs.map Value.string).toArray:=by
 obtain⟨ps,⟨g',t',cs,fuel,p,q,hg',ht',hvar,hd,_,_⟩,_⟩:=h
 obtain rfl:=Option.some.inj (hg.symm.trans hg')
 obtain rfl:=Option.some.inj (hty.symm.trans ht')
 rw [hvar,← cells_of_txt ht he hce hct hd]
theorem ety_of_var {W : World} (h : W.var? Tryz.prog "errors.errorType" = some #[.iface 196 (.agg #[.pointer (some ⟨4, 36, none⟩)])]) : Ety W := by
 have hg : Tryz.prog.globalNamed "errors.errorType" = some 0 := by kernel_rfl
 have:=World.var?_cell hg h 0
 exact this
theorem err_row (ty:TypeId) (h1:ty < Tryz.prog.types.size) (h2:Tryz.prog.rowNamed ty [101,114,114,111,114]=true):ty=36:=by
 have h:((List.range Tryz.prog.types.size).all fun t=>!(Tryz.prog.rowNamed t [101,114,114,111,114]) || t == 36)=true:=by kernel_rfl
 have:=List.all_eq_true.1 h ty (List.mem_range.2 h1)
 simp [h2] at this
 exact this
theorem ftab_data:(Rows.laid_tripwire_types_fieldTypes:DataW Unit)=Lib.tabData .u8 fldL:=by rfl
theorem tab_of_laid {W:World}(h:laidMetH Tryz.prog Rows.typesOfsRow.laid W):Tab W∧FTab W∧Ety W:=by
 have h2 : laidMet Tryz.prog [("tripwire/lex.words", (Rows.laid_tripwire_lex_words : DataW Unit)), ("tripwire/types.fieldTypes", (Rows.laid_tripwire_types_fieldTypes : DataW Unit))] W ∧ handlesMet Tryz.prog [("errors.errorType", (Rows.laid_errors_errorType : DataW Unit))] W := h
 refine⟨?_,?_,?_⟩
 ·have h3:=h2.1
  rw [tab_data] at h3
  exact txt_of_head (g:=2) (t:=245) (n:=41) (e:=9) zK zK zK zK zK zK h3
 ·have h3:=laidMet.tail h2.1
  rw [ftab_data] at h3
  exact Lib.tabIs_of_head (g:=1) (t:=184) (n:=7) (e:=44) zK zK zK zK zK zK h3
 ·obtain ⟨name, u, ty, e1, e2, e3, e4, e5⟩ : ∃ name u ty, (Rows.laid_errors_errorType : DataW Unit).handleName? = some name ∧ Option.map (fun x => x.snd) (Array.find? (fun x => x.fst == "internal/reflectlite.rtype") Tryz.prog.cutTypes) = some u ∧ ty < Tryz.prog.types.size ∧ Tryz.prog.rowNamed ty name = true ∧ World.var? Tryz.prog W "errors.errorType" = some #[Value.iface u (Value.agg #[typeHandle Tryz.prog ty])] := h2.2 _ (List.mem_singleton.2 rfl)
  have f1:(Rows.laid_errors_errorType:DataW Unit).handleName? = some [101,114,114,111,114]:=by kernel_rfl
  have f2 : Option.map (fun x => x.snd) (Array.find? (fun x => x.fst == "internal/reflectlite.rtype") Tryz.prog.cutTypes) = some 196 := by kernel_rfl
  obtain rfl:=Option.some.inj (f1.symm.trans e1)
  obtain rfl:=Option.some.inj (f2.symm.trans e2)
  obtain rfl:=err_row ty e3 e4
  exact ety_of_var e5
set_option maxRecDepth 100000 in
theorem door_met (os:Os) (args:Array Value):laidMetH Tryz.prog Rows.typesOfsRow.laid ((World.doorLaid Tryz.prog 400 os).forCall (fun _ _=>0) ⟨#[],args,[]⟩).memory :=
 laidMetH_of_parts3 (fuel:=8) (laidMet_of_run' 8 zK zK) zK zK
mutual
def idB:Nd→Nd→Bool
 | .mk g _ _ js,m=>(alike g m.h && decide (g.p=m.h.p)) && (decide (js.length=m.ks.length) && idsB js m.ks)
def idsB:List Nd→List Nd→Bool
 | [],_=>true
 | _ :: _,[]=>true
 | j :: js,k :: ks=>idB j k && idsB js ks
end
theorem trees_len:∀ l:List Nd,(treesOf l).length=l.length
 | []=>rfl
 | k :: l=>by simp only [treesOf,List.length_cons,trees_len l]
theorem trees_at:∀ {l l':List Nd},treesOf l=treesOf l'→∀ i (h1:i < l.length) (h2:i < l'.length),treeOf l[i]=treeOf l'[i]
 | [],_,_,i,h1,_=>absurd h1 (Nat.not_lt_zero _)
 | _ :: _,[],h,_,_,h2=>absurd h2 (Nat.not_lt_zero _)
 | k :: l,k' :: l',h,0,_,_=>by simp only [treesOf] at h; injection h
 | k :: l,k' :: l',h,i+1,h1,h2=>by
  simp only [treesOf] at h
  injection h with _ h
  exact trees_at h i (by simpa using h1) (by simpa using h2)
theorem idsB_false:∀ (js ks:List Nd) (i:Nat) (h1:i < js.length) (h2:i < ks.length),idB js[i] ks[i]=false→idsB js ks=false:=by
 intro js
 induction js with
 | nil=>intro ks i h1; simp at h1
 | cons j js ih =>
  intro ks i h1 h2 h
  cases ks with
  | nil=>simp at h2
  | cons k ks =>
   simp only [idsB]
   cases i with
   | zero=>simp at h; rw [h]; rfl
   | succ i =>
    rw [ih ks i (by simpa using h1) (by simpa using h2) (by simpa using h)]
    simp
theorem idsB_true:∀ (js ks:List Nd),(∀ i (h1:i < js.length) (h2:i < ks.length),idB js[i] ks[i]=true)→idsB js ks=true:=by
 intro js
 induction js with
 | nil=>intro ks _; cases ks <;> rfl
 | cons j js ih =>
  intro ks h
  cases ks with
  | nil=>rfl
  | cons k ks =>
   simp only [idsB,Bool.and_eq_true]
   exact⟨h 0 (by simp) (by simp),ih ks fun i h1 h2=>h (i+1) (by simpa using h1) (by simpa using h2)⟩
theorem alikeS (h:Hd):alike h h=true:=by simp [alike]
theorem tree_id:∀ (m k:Nd),treeOf m=treeOf k→idB m k=true:=by
 refine Nd.ind fun h a c ks ih k t=>?_
 cases k with
 | mk g a' c' ks' =>
  rw [treeOf,treeOf] at t
  injection t with t1 t2
  subst t1
  have hl:ks.length=ks'.length:=by
   have:=congrArg List.length t2
   rwa [trees_len,trees_len] at this
  simp only [idB,Nd.h,Nd.ks,alikeS,hl,decide_true,Bool.true_and]
  exact idsB_true ks ks' fun i h1 h2=>ih _ (nth_mem h1) _ (trees_at t2 i h1 h2)
theorem id_head {h g:Hd}{a a':Option Addr}{c c':Nat}{ks ks':List Nd}(n:h=g∧ks.length=ks'.length→False):idB (.mk h a c ks) (.mk g a' c' ks')=false:=by
 cases hb:idB (.mk h a c ks) (.mk g a' c' ks') with
 | false=>rfl
 | true =>
  exfalso
  simp only [idB,Nd.h,Nd.ks,alike,Bool.and_eq_true] at hb
  obtain⟨⟨⟨h1,h2,h3,h4,h5,h6⟩,h7⟩,h8,_⟩:=hb
  refine n ⟨?_,of_decide_eq_true h8⟩
  have h1:=of_decide_eq_true h1
  have h2:=of_decide_eq_true h2
  have h3:=of_decide_eq_true h3
  have h4:=of_decide_eq_true h4
  have h5:=of_decide_eq_true h5
  have h6:=of_decide_eq_true h6
  have h7:=of_decide_eq_true h7
  cases h
  cases g
  simp_all
theorem id_same {h:Hd}{a a':Option Addr}{c c':Nat}{ks ks':List Nd}(hl:ks'.length=ks.length):idB (.mk h a c ks) (.mk h a' c' ks')=idsB ks ks':=by
 simp [idB,Nd.h,Nd.ks,alikeS,hl]
def Smd (m k:Nd) (w:World) (e:Ending) (w':World):Prop:=e=.returned (.bool (idB m k))∧Below w§ w w'
set_option maxRecDepth 100000 in
set_option maxHeartbeats 16000000 in
theorem some_any:∀ (m k:Nd) (w:World),Lies w m→Lies w k→Calls zG 48 #[.agg m.vals,.agg k.vals] w (Smd m k w):=by
 refine Nd.ind fun h a c ks ih k w hl hl'=>?_
 cases k with
 | mk g a' c' ks' =>
 have HI:Hid (∀ j (h1:j < ks.length) (h2:j < ks'.length) (w:World),Lies w ks[j]→Lies w ks'[j]→Calls zG 48 #[.agg ks[j].vals,.agg ks'[j].vals] w (Smd ks[j] ks'[j] w)):=fun j h1 h2 v hv hv'=>ih _ (nth_mem h1) _ v hv hv'
 have HL:=hl.hid
 have HL':=hl'.hid
 show Calls zG 48 #[.agg #[zU h.k,zU h.o,zU h.t,zI h.n,zU h.f,.string h.x,.slice a ks.length c,zI h.p],.agg #[zU g.k,zU g.o,zU g.t,zI g.n,zU g.f,.string g.x,.slice a' ks'.length c',zI g.p]] w _
 clear ih hl hl'
 by_cases n0:¬ h.p=g.p
 ·have HN:Hid (¬ h.p=g.p):=n0
  go_enter Tryz.func48,Tryz.ntmps48
  go_wp2_with fail
  go_ret
  exact⟨by show Ending.returned (.bool false)=.returned (.bool (idB _ _)); rw [id_head fun t=>HN.out (congrArg Hd.p t.1)],below_two _ _ _⟩
 have e0:h.p=g.p:=Classical.not_not.1 n0
 clear n0
 by_cases n1:¬ h.k=g.k
 ·have HN:Hid (¬ h.k=g.k):=n1
  go_enter Tryz.func48,Tryz.ntmps48
  go_wp2_with fail
  go_ret
  exact⟨by show Ending.returned (.bool false)=.returned (.bool (idB _ _)); rw [id_head fun t=>HN.out (congrArg Hd.k t.1)],below_two _ _ _⟩
 have e1:h.k=g.k:=Classical.not_not.1 n1
 clear n1
 by_cases n2:¬ h.o=g.o
 ·have HN:Hid (¬ h.o=g.o):=n2
  go_enter Tryz.func48,Tryz.ntmps48
  go_wp2_with fail
  go_ret
  exact⟨by show Ending.returned (.bool false)=.returned (.bool (idB _ _)); rw [id_head fun t=>HN.out (congrArg Hd.o t.1)],below_two _ _ _⟩
 have e2:h.o=g.o:=Classical.not_not.1 n2
 clear n2
 by_cases n3:¬ h.t=g.t
 ·have HN:Hid (¬ h.t=g.t):=n3
  go_enter Tryz.func48,Tryz.ntmps48
  go_wp2_with fail
  go_ret
  exact⟨by show Ending.returned (.bool false)=.returned (.bool (idB _ _)); rw [id_head fun t=>HN.out (congrArg Hd.t t.1)],below_two _ _ _⟩
 have e3:h.t=g.t:=Classical.not_not.1 n3
 clear n3
 by_cases n4:¬ h.n=g.n
 ·have HN:Hid (¬ h.n=g.n):=n4
  go_enter Tryz.func48,Tryz.ntmps48
  go_wp2_with fail
  go_ret
  exact⟨by show Ending.returned (.bool false)=.returned (.bool (idB _ _)); rw [id_head fun t=>HN.out (congrArg Hd.n t.1)],below_two _ _ _⟩
 have e4:h.n=g.n:=Classical.not_not.1 n4
 clear n4
 by_cases n5:¬ h.f=g.f
 ·have HN:Hid (¬ h.f=g.f):=n5
  go_enter Tryz.func48,Tryz.ntmps48
  go_wp2_with fail
  go_ret
  exact⟨by show Ending.returned (.bool false)=.returned (.bool (idB _ _)); rw [id_head fun t=>HN.out (congrArg Hd.f t.1)],below_two _ _ _⟩
 have e5:h.f=g.f:=Classical.not_not.1 n5
 clear n5
 by_cases n6:¬ h.x=g.x
 ·have s6:=str_ne n6
  have HN:Hid (¬ h.x=g.x):=n6
  go_enter Tryz.func48,Tryz.ntmps48
  go_wp2_with fail
  go_ret
  exact⟨by show Ending.returned (.bool false)=.returned (.bool (idB _ _)); rw [id_head fun t=>HN.out (congrArg Hd.x t.1)],below_two _ _ _⟩
 have e6:h.x=g.x:=Classical.not_not.1 n6
 clear n6
 by_cases n7x:¬ ks.length=ks'.length
 ·have n7:¬ (ks.length:Int)=(ks'.length:Int):=by omega
  have HN:Hid (¬ ks.length=ks'.length):=n7x
  go_enter Tryz.func48,Tryz.ntmps48
  go_wp2_with fail
  go_ret
  exact⟨by show Ending.returned (.bool false)=.returned (.bool (idB _ _)); rw [id_head fun t=>HN.out t.2],below_two _ _ _⟩
 have e7:ks.length=ks'.length:=Classical.not_not.1 n7x
 clear n7x
 obtain rfl:h=g:=by cases h; cases g; simp_all
 clear e0 e1 e2 e3 e4 e5 e6
 have HE:Hid (ks'.length=ks.length):=e7.symm
 rw [← e7]
 clear e7
 go_enter Tryz.func48,Tryz.ntmps48
 go_wp2_with fail
 obtain⟨W0,eW0⟩:∃ W0,(w.alloc (.cells #[zU h.k,zU h.o,zU h.t,zI h.n,zU h.f,.string h.x,.slice a ks.length c,zI h.p] 48)).alloc (.cells #[zU h.k,zU h.o,zU h.t,zI h.n,zU h.f,.string h.x,.slice a' ks.length c',zI h.p] 48)=W0:=⟨_,rfl⟩
 have HB:Hid (Below w§ w W0):=by rw [← eW0]; exact below_two _ _ _
 have HN0:Hid (W0.heap[w§]? = some (.cells #[zU h.k,zU h.o,zU h.t,zI h.n,zU h.f,.string h.x,.slice a ks.length c,zI h.p] 48 (0,0))):=by rw [← eW0]; exact heap_old (heap_new _ _) (by rw [size_alloc]; omega)
 have HN1:Hid (W0.heap[w§+1]? = some (.cells #[zU h.k,zU h.o,zU h.t,zI h.n,zU h.f,.string h.x,.slice a' ks.length c',zI h.p] 48 (0,0))):=by rw [← eW0,← size_alloc w (.cells #[zU h.k,zU h.o,zU h.t,zI h.n,zU h.f,.string h.x,.slice a ks.length c,zI h.p] 48)]; exact heap_new _ _
 rw [eW0]
 clear eW0
 go_loopw [5,6] (fun t _ wr=>∃ i:Nat,i≤ks.length∧t=zI i∧Hid (Below W0§ W0 wr)∧Hid (∀ j (h1:j < ks.length) (h2:j < ks'.length),j < i→idB ks[j] ks'[j]=true)) (fun t _ _=>ks.length - (intOf t).toNat)
 case atStart=>exact⟨0,by omega,rfl,Below.refl _ _,fun j _ _ hj=>by omega⟩
 case round =>
  obtain⟨i,hi,rfl,HR,HJ⟩:=hrel
  have q0:wr.heap[w§]? = some (.cells #[zU h.k,zU h.o,zU h.t,zI h.n,zU h.f,.string h.x,.slice a ks.length c,zI h.p] 48 (0,0)):=(HR.out.block _ (Array.getElem?_eq_some_iff.1 HN0.out).1).trans HN0.out
  have q1:wr.heap[w§+1]? = some (.cells #[zU h.k,zU h.o,zU h.t,zI h.n,zU h.f,.string h.x,.slice a' ks.length c',zI h.p] 48 (0,0)):=(HR.out.block _ (Array.getElem?_eq_some_iff.1 HN1.out).1).trans HN1.out
  have HQ0:Hid (wr.heap[w§]? = some (.cells #[zU h.k,zU h.o,zU h.t,zI h.n,zU h.f,.string h.x,.slice a ks.length c,zI h.p] 48 (0,0))):=q0
  have HQ1:Hid (wr.heap[w§+1]? = some (.cells #[zU h.k,zU h.o,zU h.t,zI h.n,zU h.f,.string h.x,.slice a' ks.length c',zI h.p] 48 (0,0))):=q1
  have c6:wr.cell? ⟨w§,6,none⟩=some (.slice a ks.length c):=cell_of q0 6
  have d6:wr.cell? ⟨w§+1,6,none⟩=some (.slice a' ks.length c'):=cell_of q1 6
  clear q0 q1
  have HBr:Hid (Below w§ w wr):=below2 HB.out HR.out
  by_cases hlt:i < ks.length
  ·have hlt':(i:Int) < (ks.length:Int):=by omega
   have hlt2:i < ks'.length:=by have:=HE.out; omega
   obtain⟨b,o,e1,hat⟩:=(HL.out.on HBr.out).kid i hlt
   have e1':a=some ⟨b,o,none⟩:=e1
   have hk1:NdAt wr b (o+i * 8) ks[i]:=hat
   obtain⟨b',o',e2,hat'⟩:=(HL'.out.on HBr.out).kid i hlt2
   have e2':a'=some ⟨b',o',none⟩:=e2
   have hk2:NdAt wr b' (o'+i * 8) ks'[i]:=hat'
   have cI:=fun v (hv:Below wr§ wr v)=>HI.out i hlt hlt2 v (((HL.out.sub _ (nth_mem hlt)).on HBr.out).on hv) (((HL'.out.sub _ (nth_mem hlt2)).on HBr.out).on hv)
   obtain⟨k,ek⟩:∃ k,ks[i]=k:=⟨_,rfl⟩
   obtain⟨k',ek'⟩:∃ k,ks'[i]=k:=⟨_,rfl⟩
   have HTW:Hid (idB ks[i] ks'[i]=idB k k'):=by show _=_; rw [ek,ek']
   rw [ek] at hk1 cI
   rw [ek'] at hk2 cI
   have HK1:=hk1.hid
   have HK2:=hk2.hid
   have cI:∀ v,Below wr§ wr v→Calls zG 48 #[.agg #[zU k.h.k,zU k.h.o,zU k.h.t,zI k.h.n,zU k.h.f,.string k.h.x,.slice k.a k.ks.length k.c,zI k.h.p],.agg #[zU k'.h.k,zU k'.h.o,zU k'.h.t,zI k'.h.n,zU k'.h.f,.string k'.h.x,.slice k'.a k'.ks.length k'.c,zI k'.h.p]] v (Smd k k' v):=cI
   rw [e1'] at c6 HQ0
   rw [e2'] at d6 HQ1
   have HKP:Hid (∀ v,GB wr v→v.cell? ⟨w§,6,none⟩=some (.slice (some ⟨b,o,none⟩) ks.length c)∧v.cell? ⟨w§+1,6,none⟩=some (.slice (some ⟨b',o',none⟩) ks.length c')∧v.cell? ⟨b,o+i * 8,none⟩=some (zU k.h.k)∧v.cell? ⟨b,o+i * 8+1,none⟩=some (zU k.h.o)∧v.cell? ⟨b,o+i * 8+2,none⟩=some (zU k.h.t)∧v.cell? ⟨b,o+i * 8+3,none⟩=some (zI k.h.n)∧v.cell? ⟨b,o+i * 8+4,none⟩=some (zU k.h.f)∧v.cell? ⟨b,o+i * 8+5,none⟩=some (.string k.h.x)∧v.cell? ⟨b,o+i * 8+6,none⟩=some (.slice k.a k.ks.length k.c)∧v.cell? ⟨b,o+i * 8+7,none⟩=some (zI k.h.p)∧v.cell? ⟨b',o'+i * 8,none⟩=some (zU k'.h.k)∧v.cell? ⟨b',o'+i * 8+1,none⟩=some (zU k'.h.o)∧v.cell? ⟨b',o'+i * 8+2,none⟩=some (zU k'.h.t)∧v.cell? ⟨b',o'+i * 8+3,none⟩=some (zI k'.h.n)∧v.cell? ⟨b',o'+i * 8+4,none⟩=some (zU k'.h.f)∧v.cell? ⟨b',o'+i * 8+5,none⟩=some (.string k'.h.x)∧v.cell? ⟨b',o'+i * 8+6,none⟩=some (.slice k'.a k'.ks.length k'.c)∧v.cell? ⟨b',o'+i * 8+7,none⟩=some (zI k'.h.p)∧GB wr v):=fun v hv=>by
    have hk1':=HK1.out.on hv
    have hk2':=HK2.out.on hv
    exact⟨cell_of ((hv.block _ (Array.getElem?_eq_some_iff.1 HQ0.out).1).trans HQ0.out) 6,cell_of ((hv.block _ (Array.getElem?_eq_some_iff.1 HQ1.out).1).trans HQ1.out) 6,hk1'.c0,hk1'.c1,hk1'.c2,hk1'.c3,hk1'.c4,hk1'.c5,hk1'.c6,hk1'.c7,hk2'.c0,hk2'.c1,hk2'.c2,hk2'.c3,hk2'.c4,hk2'.c5,hk2'.c6,hk2'.c7,hv⟩
   have hmx:(i:Int)+1≤9223372036854775807:=by
    have h1:=HL.out.max
    have h2:=HL.out.cap
    simp only [Nd.ks,Nd.c] at h1 h2
    omega
   clear ek ek' e1 e2 e1' e2' hat hat' hk1 hk2
   go_upto_region 6 with fail
   go_region_held3 (fun v=>v.cell? ⟨w§,6,none⟩=some (.slice (some ⟨b,o,none⟩) ks.length c)∧v.cell? ⟨w§+1,6,none⟩=some (.slice (some ⟨b',o',none⟩) ks.length c')∧v.cell? ⟨b,o+i * 8,none⟩=some (zU k.h.k)∧v.cell? ⟨b,o+i * 8+1,none⟩=some (zU k.h.o)∧v.cell? ⟨b,o+i * 8+2,none⟩=some (zU k.h.t)∧v.cell? ⟨b,o+i * 8+3,none⟩=some (zI k.h.n)∧v.cell? ⟨b,o+i * 8+4,none⟩=some (zU k.h.f)∧v.cell? ⟨b,o+i * 8+5,none⟩=some (.string k.h.x)∧v.cell? ⟨b,o+i * 8+6,none⟩=some (.slice k.a k.ks.length k.c)∧v.cell? ⟨b,o+i * 8+7,none⟩=some (zI k.h.p)∧v.cell? ⟨b',o'+i * 8,none⟩=some (zU k'.h.k)∧v.cell? ⟨b',o'+i * 8+1,none⟩=some (zU k'.h.o)∧v.cell? ⟨b',o'+i * 8+2,none⟩=some (zU k'.h.t)∧v.cell? ⟨b',o'+i * 8+3,none⟩=some (zI k'.h.n)∧v.cell? ⟨b',o'+i * 8+4,none⟩=some (zU k'.h.f)∧v.cell? ⟨b',o'+i * 8+5,none⟩=some (.string k'.h.x)∧v.cell? ⟨b',o'+i * 8+6,none⟩=some (.slice k'.a k'.ks.length k'.c)∧v.cell? ⟨b',o'+i * 8+7,none⟩=some (zI k'.h.p)∧GB wr v)
    (exact HKP.out _ (by (repeat (first | with_reducible assumption | with_reducible exact GB.refl _ | with_reducible apply GB.drew | with_reducible apply GB.alloc | with_reducible refine GB.call (by with_reducible assumption) ?_))))
    (first | (go_at_call 48; refine (cI _ ((Below.refl _ _).drew)).mono ?_; rintro e w6 ⟨rfl,hb6⟩))
   all_goals (
    have HB6:Hid (Below W0§ W0 w6):=below2 HR.out (below2 (Below.refl _ _).drew hb6)
    clear hb6
    obtain⟨r6,er⟩:∃ r,idB k k'=r:=⟨_,rfl⟩
    rw [er]
    have HT6:Hid (idB ks[i] ks'[i]=r6):=HTW.out.trans er
    clear er
    cases r6 with
    | true =>
     go_wp2_with fail
     exact⟨⟨i+1,hlt,rfl,HB6,fun j h1 h2 hj=>by
      by_cases e:j=i
      ·subst e; exact HT6.out
      ·exact HJ.out j h1 h2 (by omega)⟩,by simp only [intOf]; omega⟩
    | false =>
     go_wp2_with fail
     go_ret
     exact⟨by show Ending.returned (.bool false)=.returned (.bool (idB _ _)); rw [id_same HE.out,idsB_false ks ks' i hlt hlt2 HT6.out],below2 HB.out HB6.out⟩)
  ·obtain rfl:i=ks.length:=by omega
   have hnot:¬ (ks.length:Int) < (ks.length:Int):=by omega
   go_wp2_with fail
   go_ret
   exact⟨by show Ending.returned (.bool true)=.returned (.bool (idB _ _)); rw [id_same HE.out,idsB_true ks ks' fun j h1 h2=>HJ.out j h1 h2 h1],HBr.out⟩
end Go.Proofs.YtoogodlnnijikaaGreatDoor
