import Derived.Test.YtfbjofnaghjmeaaGreatDoorA24
namespace Go.Proofs.YtfbjofnaghjmeaaGreatDoor
open Go.Proofs.Tryz
open Go.RowKit Go.Maps
set_option linter.unusedVariables false
set_option linter.unusedSimpArgs false
theorem RgN.mv {w w':yW}{b n:Nat}{L:yB→Option Int}{F:Nat→Prop}(h:RgN w b n L) (k:Mv w w' F) (hF:¬ F b):RgN w' b n L:=by
 obtain⟨D,ho,hL⟩:=h
 have hlt:=ho.lt
 obtain⟨es,clock,hb,F,hs,hD⟩:=ho
 exact⟨D,⟨es,clock,(k.block b hlt hF).trans hb,F,hs,hD⟩,hL⟩
theorem NmN.mv {w w':yW}{b n:Nat}{S:List yB}{F:Nat→Prop}(h:NmN w b n S) (k:Mv w w' F) (hF:¬ F b):NmN w' b n S:=by
 obtain⟨D,ho,hL⟩:=h
 have hlt:=ho.lt
 obtain⟨es,clock,hb,F,hs,hD⟩:=ho
 exact⟨D,⟨es,clock,(k.block b hlt hF).trans hb,F,hs,hD⟩,hL⟩
def Jv (l:List RegM):List RegM→Option (Int × Int)
 | []=>none
 | r :: rs=>if (regL l r.x).isSome then some (r.p,150) else if tyV (tyR (regL l) r.m)=r.t then Jv (l ++ [r]) rs else some (r.p,152)
def dNms (S:List yB):List (yB × Int)→Option (Int × Int)
 | []=>none
 | x :: xs=>if inS S x.1 then some (x.2,150) else dNms (S ++ [x.1]) xs
structure Dec (w wr:yW) (r:Qg) (n1 n2 n3:Nat) (l:List RegM) (S2 S3:List yB):Prop where
 bel:yD w wr
 box:wr.heap[w§]? = (zC r.vals 26)
 res:wr.heap[w§+1]? = (zC zn 172)
 kn:wr.heap[w§+5]? = (zC #[.map (some (w§+2)),.map (some (w§+3)),.map (some (w§+4))] 172)
 m1:RgN wr (w§+2) n1 (regL l)
 m2:NmN wr (w§+3) n2 S2
 m3:NmN wr (w§+4) n3 S3
theorem Dec.on {w wr w':yW}{r:Qg}{n1 n2 n3:Nat}{l:List RegM}{S2 S3:List yB}(h:Dec w wr r n1 n2 n3 l S2 S3) (k:yD wr w'):Dec w w' r n1 n2 n3 l S2 S3 :=
 ⟨Qd h.bel k,(k.block _ (zJ h.box).1).trans h.box,(k.block _ (zJ h.res).1).trans h.res,(k.block _ (zJ h.kn).1).trans h.kn,h.m1.on k,h.m2.on k,h.m3.on k⟩
theorem QaT {w wr w':yW}{c:Nat}(h:yD w wr) (k:Mv wr w' (fun j=>j=c)) (hc:w§≤c):yD w w' :=
 ⟨k.os.trans h.os,k.tape.trans h.tape,k.output.trans h.output,Nat.le_trans h.size k.size,fun j hj=>(k.block j (Nat.lt_of_lt_of_le hj h.size) zY).trans (h.block j hj)⟩
theorem Dec.r {w wr w':yW}{r:Qg}{n1 n2 n3:Nat}{l l':List RegM}{S2 S3:List yB}(h:Dec w wr r n1 n2 n3 l S2 S3) (k:Mv wr w' (fun j=>j=w§+2)) (hm:RgN w' (w§+2) (n1+1) (regL l')):Dec w w' r (n1+1) n2 n3 l' S2 S3 :=
 ⟨QaT h.bel k zY,(k.block _ (zJ h.box).1 zY).trans h.box,(k.block _ (zJ h.res).1 zY).trans h.res,(k.block _ (zJ h.kn).1 zY).trans h.kn,hm,h.m2.mv k zY,h.m3.mv k zY⟩
theorem Dec.s {w wr w':yW}{r:Qg}{n1 n2 n3:Nat}{l:List RegM}{S2 S3 S':List yB}(h:Dec w wr r n1 n2 n3 l S2 S3) (k:Mv wr w' (fun j=>j=w§+3)) (hm:NmN w' (w§+3) (n2+1) S'):Dec w w' r n1 (n2+1) n3 l S' S3 :=
 ⟨QaT h.bel k zY,(k.block _ (zJ h.box).1 zY).trans h.box,(k.block _ (zJ h.res).1 zY).trans h.res,(k.block _ (zJ h.kn).1 zY).trans h.kn,h.m1.mv k zY,hm,h.m3.mv k zY⟩
theorem Dec.t {w wr w':yW}{r:Qg}{n1 n2 n3:Nat}{l:List RegM}{S2 S3 S':List yB}(h:Dec w wr r n1 n2 n3 l S2 S3) (k:Mv wr w' (fun j=>j=w§+4)) (hm:NmN w' (w§+4) (n3+1) S'):Dec w w' r n1 n2 (n3+1) l S2 S' :=
 ⟨QaT h.bel k zY,(k.block _ (zJ h.box).1 zY).trans h.box,(k.block _ (zJ h.res).1 zY).trans h.res,(k.block _ (zJ h.kn).1 zY).trans h.kn,h.m1.mv k zY,h.m2.mv k zY,hm⟩
theorem Kj:(Tryz.prog.info? 172).map (·.size)=some 3:=by kernel_rfl
def slN (d:Qx):yB × Int:=(d.x,d.p)
def stN (d:Qq):yB × Int:=(d.x,d.p)
def decE (S:Qg):Option (Int × Int):=match Jv [] S.rs with
 | some e=>some e
 | none=>match dNms [] (S.ss.map slN) with
  | some e=>some e
  | none=>dNms [] (S.ts.map stN)
def OutK (w:yW) (S:Qg) (e:Ending) (w':yW):Prop :=
 (∃ p no c,decE S=some (p,no)∧e=.returned (.tuple #[.agg zn,.iface 184 (zP c)])∧w§≤c∧FlAt w' c Z6 p no∧yD w w') ∨
 (∃ b b2 b3,decE S=none∧e=.returned (.tuple #[.agg #[.map (some b),.map (some b2),.map (some b3)],.nilIface])∧Kn w' b b2 b3 (regL S.rs) (S.ss.map Qx.x) (S.ts.map Qq.x)∧yD w w')
set_option maxRecDepth 100000
set_option maxHeartbeats 16000000
theorem Dec.start (w:yW) (r:Qg):Dec w ((((((zA w r.vals 26).alloc (.cells zn 172)).alloc (.map #[] 0)).alloc (.map #[] 0)).alloc (.map #[] 0)).alloc (.cells #[.map (some (w§+2)),.map (some (w§+3)),.map (some (w§+4))] 172)) r 0 0 0 [] [] []:=by
 have b1:=Qb w (.cells r.vals 26)
 have n1:=Qc w (.cells r.vals 26)
 have s1:=Qe w (.cells r.vals 26)
 obtain⟨W1,e1⟩:∃ W,w.alloc (.cells r.vals 26)=W:=jV
 rw [e1] at b1 n1 s1 ⊢
 have b2:=Qb W1 (.cells zn 172)
 have n2:=Qc W1 (.cells zn 172)
 have s2:=Qe W1 (.cells zn 172)
 obtain⟨W2,e2⟩:∃ W,W1.alloc (.cells zn 172)=W:=jV
 rw [e2] at b2 n2 s2 ⊢
 have b3:=Qb W2 (.map #[] 0)
 have n3:=RgN.made W2
 have s3:=Qe W2 (.map #[] 0)
 obtain⟨W3,e3⟩:∃ W,W2.alloc (.map #[] 0)=W:=jV
 rw [e3] at b3 n3 s3 ⊢
 have b4:=Qb W3 (.map #[] 0)
 have n4:=NmN.made W3
 have s4:=Qe W3 (.map #[] 0)
 obtain⟨W4,e4⟩:∃ W,W3.alloc (.map #[] 0)=W:=jV
 rw [e4] at b4 n4 s4 ⊢
 have b5:=Qb W4 (.map #[] 0)
 have n5:=NmN.made W4
 have s5:=Qe W4 (.map #[] 0)
 obtain⟨W5,e5⟩:∃ W,W4.alloc (.map #[] 0)=W:=jV
 rw [e5] at b5 n5 s5 ⊢
 have b6:=Qb W5 (.cells #[.map (some (w§+2)),.map (some (w§+3)),.map (some (w§+4))] 172)
 have n6:=Qc W5 (.cells #[.map (some (w§+2)),.map (some (w§+3)),.map (some (w§+4))] 172)
 obtain⟨W6,e6⟩:∃ W,W5.alloc (.cells #[.map (some (w§+2)),.map (some (w§+3)),.map (some (w§+4))] 172)=W:=jV
 rw [e6] at b6 n6 ⊢
 have q56:=b6
 have q46:=Qd b5 q56
 have q36:=Qd b4 q46
 have q26:=Qd b3 q36
 have q16:=Qd b2 q26
 rw [show W5§=w§+5 by omega] at n6
 rw [show W4§=w§+4 by omega] at n5
 rw [show W3§=w§+3 by omega] at n4
 rw [show W2§=w§+2 by omega] at n3
 rw [show W1§=w§+1 by omega] at n2
 exact⟨Qd b1 q16,(q16.block _ (zJ n1).1).trans n1,(q26.block _ (zJ n2).1).trans n2,n6,n3.on q36,n4.on q46,n5.on q56⟩
theorem Fy {S:List yB}{x:yB × Int}{xs:List (yB × Int)}(h:inS S x.1=true):dNms S (x :: xs)=some (x.2,150):=by simp [dNms,h]
theorem QbH {S:List yB}{x:yB × Int}{xs:List (yB × Int)}(h:inS S x.1=false):dNms S (x :: xs)=dNms (S ++ [x.1]) xs:=by simp [dNms,h]
theorem Qaw (V:yW) (R:Nat) (cs:Array Value):Mv V (V.setRow R cs) (fun k=>k=R):=by
 exact⟨rfl,rfl,rfl,by unfold World.setRow;simp,fun k _ hk=>QV V R cs hk⟩
theorem Pp (r:Qg) (w:yW) (hl:Qr w r) (ht:FTab w) (ho:∀ d ∈ r.rs,OkT d.m):Calls zG 90 #[.agg r.vals] w (OutK w r):=by
 have hmk:∀ (t:TypeId) (w:yW),Sem.run zG (Instr.makeMap t none) w=.ok (.map (some w§)) (w.alloc (.map #[] 0)):=fun t w=>rfl
 have hD:=Dec.start w r
 obtain⟨W,eW⟩:∃ W,((((((zA w r.vals 26).alloc (.cells zn 172)).alloc (.map #[] 0)).alloc (.map #[] 0)).alloc (.map #[] 0)).alloc (.cells #[.map (some (w§+2)),.map (some (w§+3)),.map (some (w§+4))] 172))=W:=jV
 have HW:=zH eW
 rw [eW] at hD
 have HD0:=zH hD
 have HH:Hid (Qr w r∧FTab w∧∀ d ∈ r.rs,OkT d.m):=⟨hl,ht,ho⟩
 clear hD eW hl ht ho
 go_enter func90,ntmps90
 go_upto_region 2 with fail
 rw [show w§+1+1=w§+2 from rfl,show w§+2+1=w§+3 from rfl,show w§+3+1=w§+4 from rfl,show w§+4+1=w§+5 from rfl,HW.out]
 clear HW
 have HDQ:=zH HD0.out
 obtain⟨ds,eds⟩:∃ l,r.rs=l:=jV
 have HEds:Hid (r.rs=ds):=eds
 have HSL1:Hid (SlAt w 11 r.ra r.rc (ds.map RegM.vals)):=by have h1:=HH.out.1.1;rw [eds] at h1;exact h1
 obtain⟨ra1,era1⟩:∃ q,r.ra=q:=jV
 have q1:zQ W w§¢1 (.slice ra1 ds.length r.rc):=by rw [← eds,← era1];exact Qa HDQ.out.box 1
 rw [era1] at HSL1
 clear eds era1
 go_wp2_with fail
 go_loopw [6,7,21] (fun t6 t7 t wr=>∃ i:Nat,i≤ds.length∧t=zI i∧Hid (Dec w wr r i 0 0 (ds.take i) [] [])∧Hid (Jv [] ds=Jv (ds.take i) (ds.drop i))) (fun t6 t7 t _=>ds.length - (intOf t).toNat)
 case atStart=>exact⟨0,by omega,rfl,HDQ.out,rfl⟩
 case round =>
  obtain⟨i,hi,rfl,HDR,HR⟩:=hrel
  by_cases hlt:i < ds.length
  ·have hlt':(i:Int) < (ds.length:Int):=by omega
   have hlen:ds.length≤jX:=by have h1:=HSL1.out.1;have h2:=HSL1.out.2.1;rw [List.length_map] at h1;omega
   have hmx:(i:Int)+1≤jX:=by omega
   have hn:i < maxLen:=by unfold maxLen;omega
   obtain⟨b,o,ea,hat⟩:=(HSL1.out.on (mapz RegM.sz _) HDR.out.bel).2.2 i (by rw [List.length_map];exact hlt)
   simp only [List.getElem_map] at hat
   have HMEM:Hid (ds[i] ∈ ds):=List.getElem_mem hlt
   have HTK:Hid (ds.take (i+1)=ds.take i ++ [ds[i]]∧ds.drop i=ds[i] :: ds.drop (i+1)):=⟨by simp,List.drop_eq_getElem_cons hlt⟩
   obtain⟨d,ed⟩:∃ d,ds[i]=d:=jV
   rw [ed] at hat HTK HMEM
   have HRG:Hid (wr.rangeAt b (o+i * 11) d.vals.toList):=fun j v hv=>by
    have hj:j < 11:=(List.getElem?_eq_some_iff.1 hv).1
    rw [hat j hj,← hv];simp
   have HZ:Hid ((zA wr ze 102).heap[wr§]? = (zC ze 102)):=Qc _ _
   have hbx:yD wr ((zA wr ze 102).setRow wr§ d.vals):=Qn (Qb _ _) (Nat.le_refl _) _
   have HNX:Hid (((zA wr ze 102).setRow wr§ d.vals).heap[wr§]? = (zC d.vals 102)):=setRow_heap _ _ _ _ _ _ HZ.out
   have HDX:=HDR.out.on hbx
   obtain⟨A,eA⟩:∃ A,ra1=A:=jV
   rw [eA] at ea ⊢
   subst ea
   clear hat ed hbx HDR hlen
   go_upto_region 5 with (first | (refine wpList_load_mid rfl 102 (.tmp 23) rfl b (o+i * 11) rfl d.vals.toList _ HRG.out underlying102 rfl (by show _=some 11;exact QO) ?_;rw [Array.toArray_toList]) | (refine wpList_store_row rfl 102 (.tmp 6) (.tmp 24) rfl wr§ d.vals rfl rfl 102 ze HZ.out QO rfl (Uq d) ?_))
   generalize hWX:World.setRow _ _ _=WX
   rw [hWX] at HNX HDX
   clear hWX HZ HRG
   have HDX:=zH HDX
   obtain⟨k0,k1,k2⟩:=cl3 HDX.out.kn
   have HSZ:=zH ((zJ HDX.out.kn).1)
   have cA:=QaZ (w§+2) (w§+3) (w§+4) i (ds.take i) d WX HDX.out.m1 (HH.out.2.1.on HDX.out.bel) ((HH.out.1.2.1 d (by rw [HEds.out];exact HMEM.out)).on HDX.out.bel) (HH.out.2.2 d (by rw [HEds.out];exact HMEM.out)) hn
   go_wp2_with (refine wpList_load_row rfl 102 (.tmp 6) rfl wr§ rfl 102 d.vals (0,0) _ HNX.out underlying102 rfl QO ?_)
   refine cA.mono ?_
   rintro e w5 (⟨c,no,rfl,hle,hfl,hb5,hcase⟩ | ⟨rfl,h1,h2,hm5,hmv⟩)
   ·have HD5:=(HDX.out.on hb5)
    have HD5:=zH HD5
    have HC:Hid (FlAt w5 c Z6 d.p no∧w§+5 < c):=⟨hfl,by have:=HSZ.out;omega⟩
    have HEE:Hid (decE r=some (d.p,no)):=by
     have h1:Jv [] ds=some (d.p,no):=by
      rw [HR.out,HTK.out.2]
      rcases hcase with ⟨h1,rfl⟩ | ⟨h1,h2,rfl⟩
      ·simp [Jv,h1]
      ·simp [Jv,h1,h2]
     show decE r=_
     unfold decE
     rw [HEds.out,h1]
    clear cA hle hfl hb5 hcase k0 k1 k2
    go_wp2_with (refine wpList_store_row rfl 172 (.tmp 2) (.tmp 30) rfl (w§+1) zn rfl rfl 172 zn HD5.out.res Kj rfl (by simp [Value.oneCell']) ?_)
    exact bodyPost_ret (Qi (p:=2) (u:=3) (ty:=172) rfl _ _ (w§+1) 172 zn (0,0) _ rfl (setRow_heap _ _ _ _ _ _ HD5.out.res) underlying172 rfl Kj) rfl (.inl ⟨d.p,no,c,HEE.out,rfl,by have:=HC.out.2;omega,(QV _ _ _ (by have:=HC.out.2;omega)).trans HC.out.1,Qn HD5.out.bel (Nat.le_succ _) _⟩)
   ·have HD5:Hid (Dec w w5 r (i+1) 0 0 (ds.take (i+1)) [] []):=by have h5:=HDX.out.r hmv hm5;rw [← HTK.out.1] at h5;exact h5
    have HR5:Hid (Jv [] ds=Jv (ds.take (i+1)) (ds.drop (i+1))):=by show _=_;rw [HR.out,HTK.out.2,HTK.out.1];simp [Jv,h1,h2]
    clear cA h1 h2 hm5 hmv k0 k1 k2
    go_wp2_with fail
    exact⟨⟨i+1,hlt,rfl,HD5.out,HR5.out⟩,by simp only [intOf];omega⟩
  ·obtain rfl:i=ds.length:=by omega
   have hnot:¬ (ds.length:Int) < (ds.length:Int):=by omega
   have HN1:Hid (Jv [] ds=none):=by show _=_;rw [HR.out,List.drop_length];rfl
   have HDQ2:Hid (Dec w wr r ds.length 0 0 ds [] []):=by have h1:=HDR.out;rw [List.take_length] at h1;exact h1
   clear HDR HR HDQ
   have HDQ:=HDQ2
   clear HDQ2
   obtain⟨es,ees⟩:∃ l,r.ss=l:=jV
   have HEes:Hid (r.ss=es):=ees
   have HSL2:Hid (SlAt w 2 r.sa r.sc (es.map Qx.vals)):=by have h1:=HH.out.1.2.2.1;rw [ees] at h1;exact h1
   obtain⟨ra2,era2⟩:∃ q,r.sa=q:=jV
   have q2:zQ wr w§¢2 (.slice ra2 es.length r.sc):=by rw [← ees,← era2];exact Qa HDQ.out.box 2
   rw [era2] at HSL2
   clear ees era2
   go_wp2_with fail
   go_loopw [9,10,36] (fun t9 t10 t wr=>∃ i:Nat,i≤es.length∧t=zI i∧Hid (Dec w wr r ds.length i 0 ds ((es.take i).map Qx.x) [])∧Hid (dNms [] (es.map slN)=dNms ((es.take i).map Qx.x) ((es.drop i).map slN))) (fun t9 t10 t _=>es.length - (intOf t).toNat)
   case atStart=>exact⟨0,by omega,rfl,HDQ.out,rfl⟩
   case round =>
    obtain⟨i,hi,rfl,HDR,HR⟩:=hrel
    by_cases hlt:i < es.length
    ·have hlt':(i:Int) < (es.length:Int):=by omega
     have hlen:es.length≤jX:=by have h1:=HSL2.out.1;have h2:=HSL2.out.2.1;rw [List.length_map] at h1;omega
     have hmx:(i:Int)+1≤jX:=by omega
     have hn:i < maxLen:=by unfold maxLen;omega
     obtain⟨b,o,ea,hat⟩:=(HSL2.out.on (mapz Qx.sz _) HDR.out.bel).2.2 i (by rw [List.length_map];exact hlt)
     simp only [List.getElem_map] at hat
     have HMEM:Hid (es[i] ∈ es):=List.getElem_mem hlt
     have HTK:Hid (es.take (i+1)=es.take i ++ [es[i]]∧es.drop i=es[i] :: es.drop (i+1)):=⟨by simp,List.drop_eq_getElem_cons hlt⟩
     obtain⟨d,ed⟩:∃ d,es[i]=d:=jV
     rw [ed] at hat HTK HMEM
     have HRG:Hid (wr.rangeAt b (o+i * 2) d.vals.toList):=fun j v hv=>by
      have hj:j < 2:=(List.getElem?_eq_some_iff.1 hv).1
      rw [hat j hj,← hv];simp
     have HZ:Hid ((zA wr zx 129).heap[wr§]? = (zC zx 129)):=Qc _ _
     have hbx:yD wr ((zA wr zx 129).setRow wr§ d.vals):=Qn (Qb _ _) (Nat.le_refl _) _
     have HNX:Hid (((zA wr zx 129).setRow wr§ d.vals).heap[wr§]? = (zC d.vals 129)):=setRow_heap _ _ _ _ _ _ HZ.out
     have HDX:=HDR.out.on hbx
     obtain⟨A,eA⟩:∃ A,ra2=A:=jV
     rw [eA] at ea ⊢
     subst ea
     clear hat ed hbx HDR hlen
     go_upto_region 12 with (first | (refine wpList_load_mid rfl 129 (.tmp 38) rfl b (o+i * 2) rfl d.vals.toList _ HRG.out underlying129 rfl (by show _=some 2;exact J1) ?_;rw [Array.toArray_toList]) | (refine wpList_store_row rfl 129 (.tmp 9) (.tmp 39) rfl wr§ d.vals rfl rfl 129 zx HZ.out J1 rfl (all2 d) ?_))
     generalize hWX:World.setRow _ _ _=WX
     rw [hWX] at HNX HDX
     clear hWX HZ HRG
     have HDX:=zH HDX
     obtain⟨k0,k1,k2⟩:=cl3 HDX.out.kn
     have HSZ:=zH ((zJ HDX.out.kn).1)
     have hx:d.x.size≤maxLen:=by have h1:=(HH.out.1.2.2.2.1 d (by rw [HEes.out];exact HMEM.out)).2;unfold SzX at h1;unfold maxLen;omega
     obtain⟨x0,x1⟩:=cl2 HNX.out
     have cA:=add_any d.p HDX.out.m2 hx hn
     go_wp2_with fail
     refine cA.mono ?_
     rintro e w5 (⟨hin,c,rfl,hle,hfl,hb5⟩ | ⟨hin,rfl,hm5,hmv⟩)
     ·have HD5:=(HDX.out.on hb5)
      have HD5:=zH HD5
      have HC:Hid (FlAt w5 c Z6 d.p 150∧w§+5 < c):=⟨hfl,by have:=HSZ.out;omega⟩
      have HEE:Hid (decE r=some (d.p,150)):=by
       have h1:dNms [] (es.map slN)=some (d.p,150):=by
        rw [HR.out,HTK.out.2]
        exact Fy (x:=slN d) hin
       show decE r=_
       unfold decE
       rw [HEds.out,HN1.out,HEes.out,h1]
      clear cA hle hfl hb5 hin k0 k1 k2 x0 x1
      go_wp2_with (refine wpList_store_row rfl 172 (.tmp 2) (.tmp 49) rfl (w§+1) zn rfl rfl 172 zn HD5.out.res Kj rfl (by simp [Value.oneCell']) ?_)
      exact bodyPost_ret (Qi (p:=2) (u:=3) (ty:=172) rfl _ _ (w§+1) 172 zn (0,0) _ rfl (setRow_heap _ _ _ _ _ _ HD5.out.res) underlying172 rfl Kj) rfl (.inl ⟨d.p,150,c,HEE.out,rfl,by have:=HC.out.2;omega,(QV _ _ _ (by have:=HC.out.2;omega)).trans HC.out.1,Qn HD5.out.bel (Nat.le_succ _) _⟩)
     ·have HD5:Hid (Dec w w5 r ds.length (i+1) 0 ds ((es.take (i+1)).map Qx.x) []):=by have h5:=HDX.out.s hmv hm5;rw [show (es.take i).map Qx.x ++ [d.x]=(es.take (i+1)).map Qx.x by rw [HTK.out.1];simp] at h5;exact h5
      have HR5:Hid (dNms [] (es.map slN)=dNms ((es.take (i+1)).map Qx.x) ((es.drop (i+1)).map slN)):=by show _=_;rw [HR.out,HTK.out.2,HTK.out.1,List.map_append];exact QbH (x:=slN d) hin
      clear cA hin hm5 hmv k0 k1 k2 x0 x1
      go_wp2_with fail
      exact⟨⟨i+1,hlt,rfl,HD5.out,HR5.out⟩,by simp only [intOf];omega⟩
    ·obtain rfl:i=es.length:=by omega
     have hnot:¬ (es.length:Int) < (es.length:Int):=by omega
     have HN2:Hid (dNms [] (es.map slN)=none):=by show _=_;rw [HR.out,List.drop_length];rfl
     have HDQ2:Hid (Dec w wr r ds.length es.length 0 ds (es.map Qx.x) []):=by have h1:=HDR.out;rw [List.take_length] at h1;exact h1
     clear HDR HR HDQ
     have HDQ:=HDQ2
     clear HDQ2
     obtain⟨fs,efs⟩:∃ l,r.ts=l:=jV
     have HEfs:Hid (r.ts=fs):=efs
     have HSL3:Hid (SlAt w 3 r.ta r.tc (fs.map Qq.vals)):=by have h1:=HH.out.1.2.2.2.2.1;rw [efs] at h1;exact h1
     obtain⟨ra3,era3⟩:∃ q,r.ta=q:=jV
     have q3:zQ wr w§¢3 (.slice ra3 fs.length r.tc):=by rw [← efs,← era3];exact Qa HDQ.out.box 3
     rw [era3] at HSL3
     clear efs era3
     go_wp2_with fail
     go_loopw [12,13,55] (fun t12 t13 t wr=>∃ i:Nat,i≤fs.length∧t=zI i∧Hid (Dec w wr r ds.length es.length i ds (es.map Qx.x) ((fs.take i).map Qq.x))∧Hid (dNms [] (fs.map stN)=dNms ((fs.take i).map Qq.x) ((fs.drop i).map stN))) (fun t12 t13 t _=>fs.length - (intOf t).toNat)
     case atStart=>exact⟨0,by omega,rfl,HDQ.out,rfl⟩
     case round =>
      obtain⟨i,hi,rfl,HDR,HR⟩:=hrel
      by_cases hlt:i < fs.length
      ·have hlt':(i:Int) < (fs.length:Int):=by omega
       have hlen:fs.length≤jX:=by have h1:=HSL3.out.1;have h2:=HSL3.out.2.1;rw [List.length_map] at h1;omega
       have hmx:(i:Int)+1≤jX:=by omega
       have hn:i < maxLen:=by unfold maxLen;omega
       obtain⟨b,o,ea,hat⟩:=(HSL3.out.on (mapz Qq.sz _) HDR.out.bel).2.2 i (by rw [List.length_map];exact hlt)
       simp only [List.getElem_map] at hat
       have HMEM:Hid (fs[i] ∈ fs):=List.getElem_mem hlt
       have HTK:Hid (fs.take (i+1)=fs.take i ++ [fs[i]]∧fs.drop i=fs[i] :: fs.drop (i+1)):=⟨by simp,List.drop_eq_getElem_cons hlt⟩
       obtain⟨d,ed⟩:∃ d,fs[i]=d:=jV
       rw [ed] at hat HTK HMEM
       have HRG:Hid (wr.rangeAt b (o+i * 3) d.vals.toList):=fun j v hv=>by
        have hj:j < 3:=(List.getElem?_eq_some_iff.1 hv).1
        rw [hat j hj,← hv];simp
       have HZ:Hid ((zA wr zm 69).heap[wr§]? = (zC zm 69)):=Qc _ _
       have hbx:yD wr ((zA wr zm 69).setRow wr§ d.vals):=Qn (Qb _ _) (Nat.le_refl _) _
       have HNX:Hid (((zA wr zm 69).setRow wr§ d.vals).heap[wr§]? = (zC d.vals 69)):=setRow_heap _ _ _ _ _ _ HZ.out
       have HDX:=HDR.out.on hbx
       obtain⟨A,eA⟩:∃ A,ra3=A:=jV
       rw [eA] at ea ⊢
       subst ea
       clear hat ed hbx HDR hlen
       go_upto_region 19 with (first | (refine wpList_load_mid rfl 69 (.tmp 57) rfl b (o+i * 3) rfl d.vals.toList _ HRG.out underlying69 rfl (by show _=some 3;exact Je) ?_;rw [Array.toArray_toList]) | (refine wpList_store_row rfl 69 (.tmp 12) (.tmp 58) rfl wr§ d.vals rfl rfl 69 zm HZ.out Je rfl (Hc d) ?_))
       generalize hWX:World.setRow _ _ _=WX
       rw [hWX] at HNX HDX
       clear hWX HZ HRG
       have HDX:=zH HDX
       obtain⟨k0,k1,k2⟩:=cl3 HDX.out.kn
       have HSZ:=zH ((zJ HDX.out.kn).1)
       have hx:d.x.size≤maxLen:=by have h1:=(HH.out.1.2.2.2.2.2.1 d (by rw [HEfs.out];exact HMEM.out)).2.2.2;unfold SzX at h1;unfold maxLen;omega
       have x0:zQ WX wr§¢0 (.string d.x):=Qa HNX.out 0
       have x1:zQ WX wr§¢2 (zI d.p):=Qa HNX.out 2
       have cA:=add_any d.p HDX.out.m3 hx hn
       go_wp2_with fail
       refine cA.mono ?_
       rintro e w5 (⟨hin,c,rfl,hle,hfl,hb5⟩ | ⟨hin,rfl,hm5,hmv⟩)
       ·have HD5:=(HDX.out.on hb5)
        have HD5:=zH HD5
        have HC:Hid (FlAt w5 c Z6 d.p 150∧w§+5 < c):=⟨hfl,by have:=HSZ.out;omega⟩
        have HEE:Hid (decE r=some (d.p,150)):=by
         have h1:dNms [] (fs.map stN)=some (d.p,150):=by
          rw [HR.out,HTK.out.2]
          exact Fy (x:=stN d) hin
         show decE r=_
         unfold decE
         rw [HEds.out,HN1.out,HEes.out,HN2.out,HEfs.out,h1]
        clear cA hle hfl hb5 hin k0 k1 k2 x0 x1
        go_wp2_with (refine wpList_store_row rfl 172 (.tmp 2) (.tmp 68) rfl (w§+1) zn rfl rfl 172 zn HD5.out.res Kj rfl (by simp [Value.oneCell']) ?_)
        exact bodyPost_ret (Qi (p:=2) (u:=3) (ty:=172) rfl _ _ (w§+1) 172 zn (0,0) _ rfl (setRow_heap _ _ _ _ _ _ HD5.out.res) underlying172 rfl Kj) rfl (.inl ⟨d.p,150,c,HEE.out,rfl,by have:=HC.out.2;omega,(QV _ _ _ (by have:=HC.out.2;omega)).trans HC.out.1,Qn HD5.out.bel (Nat.le_succ _) _⟩)
       ·have HD5:Hid (Dec w w5 r ds.length es.length (i+1) ds (es.map Qx.x) ((fs.take (i+1)).map Qq.x)):=by have h5:=HDX.out.t hmv hm5;rw [show (fs.take i).map Qq.x ++ [d.x]=(fs.take (i+1)).map Qq.x by rw [HTK.out.1];simp] at h5;exact h5
        have HR5:Hid (dNms [] (fs.map stN)=dNms ((fs.take (i+1)).map Qq.x) ((fs.drop (i+1)).map stN)):=by show _=_;rw [HR.out,HTK.out.2,HTK.out.1,List.map_append];exact QbH (x:=stN d) hin
        clear cA hin hm5 hmv k0 k1 k2 x0 x1
        go_wp2_with fail
        exact⟨⟨i+1,hlt,rfl,HD5.out,HR5.out⟩,by simp only [intOf];omega⟩
      ·obtain rfl:i=fs.length:=by omega
       have hnot:¬ (fs.length:Int) < (fs.length:Int):=by omega
       have HN3:Hid (dNms [] (fs.map stN)=none):=by show _=_;rw [HR.out,List.drop_length];rfl
       have HDF:Hid (Dec w wr r ds.length es.length fs.length ds (es.map Qx.x) (fs.map Qq.x)):=by have h1:=HDR.out;rw [List.take_length] at h1;exact h1
       clear HDR HR HDQ
       obtain⟨k0,k1,k2⟩:=cl3 HDF.out.kn
       have HNN:Hid (decE r=none):=by show decE r=none;unfold decE;rw [HEds.out,HN1.out,HEes.out,HN2.out,HEfs.out,HN3.out]
       have HKN:Hid (Kn (wr.setRow (w§+1) #[.map (some (w§+2)),.map (some (w§+3)),.map (some (w§+4))]) (w§+2) (w§+3) (w§+4) (regL r.rs) (r.ss.map Qx.x) (r.ts.map Qq.x)):=by
        rw [HEds.out,HEes.out,HEfs.out]
        exact⟨(HDF.out.m1.mv (Qaw _ _ _) zY).m,⟨_,HDF.out.m2.mv (Qaw _ _ _) zY⟩,⟨_,HDF.out.m3.mv (Qaw _ _ _) zY⟩⟩
       go_wp2_with (refine wpList_store_row rfl 172 (.tmp 2) (.tmp 71) rfl (w§+1) #[.map (some (w§+2)),.map (some (w§+3)),.map (some (w§+4))] rfl rfl 172 zn HDF.out.res Kj rfl (by simp [Value.oneCell']) ?_)
       exact bodyPost_ret (Qi (p:=2) (u:=3) (ty:=172) rfl _ _ (w§+1) 172 #[.map (some (w§+2)),.map (some (w§+3)),.map (some (w§+4))] (0,0) _ rfl (setRow_heap _ _ _ _ _ _ HDF.out.res) underlying172 rfl Kj) rfl (.inr ⟨_,_,_,HNN.out,rfl,HKN.out,Qn HDF.out.bel (Nat.le_succ _) _⟩)
theorem Qgt {h:Hd}{l:Nat}(e:fitB h l=true):l≤3:=by
 unfold fitB at e
 repeat' split at e
 all_goals (simp at e;try omega)
theorem Qgu {h:Hd}{l:Nat}(e:fitB h l=true) (hk:h.k=3):0≤h.f∧h.f < 7:=by
 unfold fitB at e
 simp [hk] at e
 omega
theorem KX:∀ (l:List Nd),Q1 l=true→∀ k ∈ l,Qw k=true:=by
 intro l
 induction l with
 | nil=>intro _ k hk;cases hk
 | cons x l ih =>
  intro h k hk
  simp only [Q1,Bool.and_eq_true] at h
  rcases List.mem_cons.1 hk with e | e
  ·rw [e];exact h.1
  ·exact ih h.2 k e
theorem P7:∀ (m:Nd),Qw m=true→OkT m:=by
 refine Nd.ind fun h a c ks ih hf=>?_
 simp only [Qw,oneH,Bool.and_eq_true] at hf
 exact .mk h a c ks (Qgt hf.1.2) (Qgu hf.1.2) (fun k hk=>ih k hk (KX ks hf.2 k hk))
theorem Qar {m:Nd}(h:cE m=0):OkT m:=by
 apply P7
 unfold cE at h
 cases e:Qw m with
 | true=>rfl
 | false=>rw [e] at h;simp at h
theorem QdH (r:Qg) (w:yW) (hl:Qr w r):Calls zG 62 #[.agg r.vals] w fun e w'=>∃ b,e=.returned (.map (some b))∧w§≤b∧RgM w' b (regL r.rs)∧yD w w':=by
 have hb1:=Qb w (.cells r.vals 26)
 have hn1:=Qc w (.cells r.vals 26)
 have hs1:=Qe w (.cells r.vals 26)
 obtain⟨W1,e1⟩:∃ W,w.alloc (.cells r.vals 26)=W:=jV
 have E1:=zH e1
 rw [e1] at hb1 hn1 hs1
 have hb2:=Qb W1 (.map #[] 0)
 have hm2:=RgN.made W1
 have hk2:=(hb2.block _ (zJ hn1).1).trans hn1
 have hbw:=Qd hb1 hb2
 rw [hs1] at hm2
 have HS1:=zH hs1
 obtain⟨W2,e2⟩:∃ W,W1.alloc (.map #[] 0)=W:=jV
 have E2:=zH e2
 rw [e2] at hm2 hk2 hbw
 have HSL:=zH hl.1
 have HRL:Hid (∀ d ∈ r.rs,RegL w d):=hl.2.1
 have HM2:=zH hm2
 have HBW:=zH hbw
 obtain⟨ds,eds⟩:∃ ds,r.rs=ds:=jV
 have q1:zQ W2 w§¢1 (.slice r.ra ds.length r.rc):=by rw [← eds];exact Qa hk2 1
 rw [eds] at HSL HRL ⊢
 obtain⟨ra,era⟩:∃ q,r.ra=q:=jV
 rw [era] at HSL q1
 clear hb1 hn1 hs1 hb2 hm2 hk2 hbw e1 e2 eds era hl
 have hmk:∀ w:yW,Sem.run zG (Instr.makeMap 139 none) w=.ok (.map (some w§)) (w.alloc (.map #[] 0)):=fun w=>by first | rfl | exact run_makeMap _ _ _ | simp [run_makeMap]
 go_enter func62,ntmps62
 go_upto_region 2 with fail
 try rw [E1.out]
 try rw [HS1.out]
 try rw [E2.out]
 go_wp2_with fail
 clear E1 E2 HS1
 go_loopw [5,6,7,12] (fun t5 t6 t7 t wr=>∃ i:Nat,i≤ds.length∧t=zI i∧yD w wr∧Hid (RgN wr (w§+1) i (regL (ds.take i)))) (fun t5 t6 t7 t _=>ds.length - (intOf t).toNat)
 case atStart=>exact⟨0,by omega,rfl,HBW.out,HM2.out⟩
 case round =>
  obtain⟨i,hi,rfl,hbr,HR⟩:=hrel
  have HBR:=zH hbr
  clear hbr
  by_cases hlt:i < ds.length
  ·have hlt':(i:Int) < (ds.length:Int):=by omega
   have hlen:ds.length≤jX:=by have h1:=HSL.out.1;have h2:=HSL.out.2.1;rw [List.length_map] at h1;omega
   have hmx:(i:Int)+1≤jX:=by omega
   have hn:i < maxLen:=by unfold maxLen;omega
   obtain⟨b,o,ea,hat⟩:=(HSL.out.on (mapz RegM.sz _) HBR.out).2.2 i (by rw [List.length_map];exact hlt)
   simp only [List.getElem_map] at hat
   have HMEM:Hid (ds[i] ∈ ds):=List.getElem_mem hlt
   have HTK:Hid (ds.take (i+1)=ds.take i ++ [ds[i]]):=by show _=_;simp
   obtain⟨d,ed⟩:∃ d,ds[i]=d:=jV
   rw [ed] at hat HTK HMEM
   have HRG:Hid (wr.rangeAt b (o+i * 11) d.vals.toList):=fun j v hv=>by
    have hj:j < 11:=(List.getElem?_eq_some_iff.1 hv).1
    rw [hat j hj,← hv];simp
   have HZ:Hid ((zA wr ze 102).heap[wr§]? = (zC ze 102)):=Qc _ _
   have hbx:yD wr ((zA wr ze 102).setRow wr§ d.vals):=Qn (Qb _ _) (Nat.le_refl _) _
   have HBX:=zH (Qd HBR.out hbx)
   have HNX:Hid (((zA wr ze 102).setRow wr§ d.vals).heap[wr§]? = (zC d.vals 102)):=setRow_heap _ _ _ _ _ _ HZ.out
   have HMX:=zH (HR.out.on hbx)
   obtain⟨A,eA⟩:∃ A,ra=A:=jV
   rw [eA] at ea ⊢
   subst ea
   clear hat ed hbx HR hlen
   go_upto_region 5 with (first | (refine wpList_load_mid rfl 102 (.tmp 14) rfl b (o+i * 11) rfl d.vals.toList _ HRG.out underlying102 rfl (by show _=some 11;exact QO) ?_;rw [Array.toArray_toList]) | (refine wpList_store_row rfl 102 (.tmp 5) (.tmp 15) rfl wr§ d.vals rfl rfl 102 ze HZ.out QO rfl (Uq d) ?_))
   generalize hWX:World.setRow _ _ _=WX
   rw [hWX] at HBX HNX HMX
   clear hWX HZ HRG
   have c0:zQ WX wr§¢0 (.string d.x):=Qa HNX.out 0
   have c1:zQ WX wr§¢1 (zU d.t):=Qa HNX.out 1
   have hrl:=HRL.out d HMEM.out
   have hx:d.x.size≤maxLen:=by have h1:=hrl.2.2.2;unfold SzX at h1;unfold maxLen;omega
   have hwf:(Lit.int .u8 d.t).wf=true:=by have h1:=hrl.2.1;unfold B8 at h1;rw [show (Lit.int .u8 d.t).wf=(decide ((0:Int)≤d.t) && decide (d.t≤255)) from rfl,decide_eq_true h1.1,decide_eq_true h1.2];rfl
   have hkey:=WideMaps.keyOf_string_mk (P:=zG) underlying9 hx
   obtain⟨D,hown,hL⟩:=HMX.out
   have hh:=(hL d.x hx).1
   cases eL:regL (ds.take i) d.x with
   | some t =>
    have HM3:Hid (RgN WX (w§+1) (i+1) (regL (ds.take (i+1)))):=by show RgN _ _ _ _;rw [HTK.out];exact HMX.out.same (by rw [eL];rfl)
    rw [eL] at hh
    simp only [Option.isSome_some] at hh
    clear hL eL hrl
    go_wp2_with (at_lookup;refine wpList_lookup_own_ok_int _ rfl _ _ 139 rfl 9 34 .u8 law9 underlying139 underlying34 (K8 _) (w§+1) i D rfl hown _ _ rfl hkey ?_;intro cc hat hwc)
    exact⟨⟨i+1,hlt,rfl,HBX.out,HM3.out⟩,by simp only [intOf];omega⟩
   | none =>
    rw [eL] at hh
    simp only [Option.isSome_none] at hh
    have HP:Hid (∀ w1:yW,w1.ownsMap zG 9 (plainElem zG 34) (w§+1) (i+1) (D.put (.string d.x.data.toList) (.lit (.int .u8 d.t)))→RgN w1 (w§+1) (i+1) (regL (ds.take (i+1)))):=fun w1 h1=>by rw [HTK.out];exact RgN.put hown hL eL h1
    clear hL eL hrl
    go_wp2_with (first | (at_lookup;refine wpList_lookup_own_ok_int _ rfl _ _ 139 rfl 9 34 .u8 law9 underlying139 underlying34 (K8 _) (w§+1) i D rfl hown _ _ rfl hkey ?_;intro cc hat hwc) | (at_mapUpdate;refine wpList_mapUpdate_own _ rfl _ _ _ 139 rfl 9 34 law9 underlying139 _ (w§+1) i D rfl hown hn _ _ _ rfl rfl hkey _ [] (plainElem_int underlying34 hwf) ?_;intro w1 hown1 hgrow1))
    exact⟨⟨i+1,hlt,rfl,HBX.out.grown hgrow1 HBX.out.size (fun k hk=>by cases hk;omega),HP.out w1 hown1⟩,by simp only [intOf];omega⟩
  ·obtain rfl:i=ds.length:=by omega
   have hnot:¬ (ds.length:Int) < (ds.length:Int):=by omega
   have HM:Hid (RgM wr (w§+1) (regL ds)):=by have h1:=HR.out;rw [List.take_length] at h1;exact h1.m
   clear HR
   go_wp2
   go_ret
   exact⟨_,rfl,by omega,HM.out,HBR.out⟩
def ofE (r:Qg) (m:Nd):Except (Int × Int) Int:=if cE m=0 then tyR (regL r.rs) m else .error (0,cE m)
theorem Qh5 (r:Qg) (m:Nd) (w:yW) (hl:Qr w r) (hm:Lies w m) (hz:size m≤1000000000000) (ht:Tab w) (hf:FTab w):Calls zG 32 #[.agg r.vals,.agg m.vals] w (OutT w (ofE r m)):=by
 have hb1:=Qb w (.cells #[.string r.x,.slice r.ra r.rs.length r.rc,.slice r.sa r.ss.length r.sc,.slice r.ta r.ts.length r.tc] 26)
 have hn1:=Qc w (.cells #[.string r.x,.slice r.ra r.rs.length r.rc,.slice r.sa r.ss.length r.sc,.slice r.ta r.ts.length r.tc] 26)
 have hs1:=Qe w (.cells #[.string r.x,.slice r.ra r.rs.length r.rc,.slice r.sa r.ss.length r.sc,.slice r.ta r.ts.length r.tc] 26)
 obtain⟨W1,e1⟩:∃ W,w.alloc (.cells #[.string r.x,.slice r.ra r.rs.length r.rc,.slice r.sa r.ss.length r.sc,.slice r.ta r.ts.length r.tc] 26)=W:=jV
 have E1:Hid (w.alloc (.cells #[.string r.x,.slice r.ra r.rs.length r.rc,.slice r.sa r.ss.length r.sc,.slice r.ta r.ts.length r.tc] 26)=W1):=e1
 rw [e1] at hb1 hn1 hs1
 have hb2:=Qb W1 (.cells (zV m) 38)
 have hn2:=Qc W1 (.cells (zV m) 38)
 have hk2:=(hb2.block _ (zJ hn1).1).trans hn1
 have hbw:=Qd hb1 hb2
 rw [hs1] at hn2
 have HS1:Hid (W1§=w§+1):=hs1
 obtain⟨W2,e2⟩:∃ W,W1.alloc (.cells (zV m) 38)=W:=jV
 have E2:Hid (W1.alloc (.cells (zV m) 38)=W2):=e2
 rw [e2] at hn2 hk2 hbw
 have HB:Hid (yD w W2):=hbw
 have HK:Hid (W2.heap[w§]? = (zC #[.string r.x,.slice r.ra r.rs.length r.rc,.slice r.sa r.ss.length r.sc,.slice r.ta r.ts.length r.tc] 26)):=hk2
 have HN:Hid (W2.heap[w§+1]? = (zC (zV m) 38)):=hn2
 have HH:Hid (Qr w r∧Lies w m∧FTab w):=⟨hl,hm,hf⟩
 have cC:Calls zG 60 #[.agg (zV m)] W2 fun e w'=>e=.returned (zI (cE m))∧yD W2 w':=VH m W2 (hm.on hbw) hz (ht.on hbw)
 obtain⟨c0,c1,c2,c3,c4,c5,c6,c7⟩:=cl8 hn2
 obtain⟨E,eE⟩:∃ E,cE m=E:=jV
 have HE:Hid (cE m=E):=eE
 rw [eE] at cC
 clear hb1 hn1 hs1 hb2 hk2 hn2 hbw hl hm ht hf e1 e2 eE hz
 show Calls zG 32 #[.agg #[.string r.x,.slice r.ra r.rs.length r.rc,.slice r.sa r.ss.length r.sc,.slice r.ta r.ts.length r.tc],.agg (zV m)] w _
 go_enter func32,ntmps32
 go_upto_region 1 with fail
 rw [E1.out,E2.out]
 try rw [HS1.out]
 clear E1 E2 HS1
 go_wp2_with fail
 refine cC.mono ?_
 rintro e w3 ⟨rfl,hb3⟩
 have HB3:Hid (yD w w3):=Qd HB.out hb3
 have HK3:Hid (w3.heap[w§]? = (zC #[.string r.x,.slice r.ra r.rs.length r.rc,.slice r.sa r.ss.length r.sc,.slice r.ta r.ts.length r.tc] 26)):=(hb3.block _ (zJ HK.out).1).trans HK.out
 have HN3:Hid (w3.heap[w§+1]? = (zC (zV m) 38)):=(hb3.block _ (zJ HN.out).1).trans HN.out
 clear cC hb3 c0 c1 c2 c3 c4 c5 c6 c7 HK HN HB
 by_cases h0:E=0
 ·subst h0
  have HF : Hid (ofE r m = tyR (regL r.rs) m) := if_pos HE.out
  have HO:Hid (OkT m):=Qar HE.out
  go_upto_region 4 with fail
  refine wp_region_held_drew (S:=fun v=>yD w3 v) zK ⟨rfl,rfl,rfl,Nat.le_refl _,fun _ _=>rfl⟩ (fun hHeld=>?_)
  refine zTa 0
  rotate_left
  ·(intro v hv;have g:=(hv.block _ (zJ HK3.out).1).trans HK3.out;have t0:=Qa g 0;have t1:=Qa g 1;have t2:=Qa g 2;have t3:=Qa g 3;clear g;go_simp;try (with_reducible rfl))
  try simp [Act.put]
  refine zTa 2
  rotate_left
  ·(intro v hv;have g:=(hv.block _ (zJ HN3.out).1).trans HN3.out;have t0:=Qa g 0;have t1:=Qa g 1;have t2:=Qa g 2;have t3:=Qa g 3;have t4:=Qa g 4;have t5:=Qa g 5;have t6:=Qa g 6;have t7:=Qa g 7;clear g;go_simp;try (with_reducible rfl))
  try simp [Act.put]
  have hb4:yD w3 w3.drew:=⟨rfl,rfl,rfl,Nat.le_refl _,fun _ _=>rfl⟩
  have cR:Calls zG 62 #[.agg #[.string r.x,.slice r.ra r.rs.length r.rc,.slice r.sa r.ss.length r.sc,.slice r.ta r.ts.length r.tc]] w3.drew fun e w'=>∃ b,e=.returned (.map (some b))∧w3.drew§≤b∧RgM w' b (regL r.rs)∧Below w3.drew§ w3.drew w':=QdH r w3.drew (HH.out.1.on (Qd HB3.out hb4))
  have HB4:Hid (yD w3 w3.drew):=hb4
  clear hb4
  refine wpAnyH_ready (rs:=[1]) zK (by simp) ?_
  refine AllReadyH.cons rfl (fun K hK=>?_) AllReadyH.nil
  go_simp
  refine cR.mono ?_
  rintro e w5 ⟨bm,rfl,hle,hrm,hb5⟩
  have HB5:Hid (yD w3 w5):=Qd HB4.out hb5
  have hbw:=Qd HB3.out HB5.out
  have cT:∀ v,yD w5 v→Calls zG 63 #[.map (some bm),.agg (zV m)] v (OutT v (tyR (regL r.rs) m)):=fun v hv=>Hg bm (regL r.rs) m v (hrm.on hv) ((HH.out.2.2.on hbw).on hv) ((HH.out.2.1.on hbw).on hv) HO.out
  clear hle hrm hb5 hbw cR
  refine hK.out _ _ HB5.out (fun hHeld=>?_)
  clear hK K
  try simp [Act.put]
  refine wpAnyH_ready (rs:=[3]) zK (by simp) ?_
  refine AllReadyH.cons rfl (fun K hK=>?_) AllReadyH.nil
  go_simp
  refine (cT _ (by first | exact Below.refl _ _ | exact⟨rfl,rfl,rfl,Nat.le_refl _,fun _ _=>rfl⟩)).mono ?_
  rintro e w6 (⟨t,h1,rfl,hb6⟩ | ⟨p,no,b5,h1,rfl,h3,h4,hb6⟩)
  ·have HB6:Hid (yD w w6):=Qd (Qd HB3.out HB5.out) hb6
   have HR:Hid (ofE r m=.ok t):=HF.out.trans h1
   refine hK.out _ _ (Qd HB5.out hb6) (fun hHeld=>?_)
   clear hK K cT h1 hb6
   try simp [Act.put]
   refine zTa 4
   rotate_left
   ·(intro v hv;go_simp;try (with_reducible rfl))
   try simp [Act.put]
   refine zTa 5
   rotate_left
   ·(intro v hv;go_simp;try (with_reducible rfl))
   try simp [Act.put]
   refine zTa 6
   rotate_left
   ·(intro v hv;go_simp;try (with_reducible rfl))
   try simp [Act.put]
   refine zTa 7
   rotate_left
   ·(intro v hv;go_simp;try (with_reducible rfl))
   try simp [Act.put]
   refine wpAnyH_done zK ?_ _
   go_wp2
   go_ret2
   exact .inl ⟨t,HR.out,rfl,by have h1:=HB6.out;exact⟨h1.os,h1.tape,h1.output,h1.size,h1.block⟩⟩
  ·have HB6:Hid (yD w w6∧FlAt w6 b5 Zf p no∧w§≤b5):=⟨Qd (Qd HB3.out HB5.out) hb6,h4,by have h1:=HB3.out.size;have h2:=HB5.out.size;omega⟩
   have HR:Hid (ofE r m=.error (p,no)):=HF.out.trans h1
   refine hK.out _ _ (Qd HB5.out hb6) (fun hHeld=>?_)
   clear hK K cT h1 h3 h4 hb6
   try simp [Act.put]
   refine zTa 4
   rotate_left
   ·(intro v hv;go_simp;try (with_reducible rfl))
   try simp [Act.put]
   refine zTa 5
   rotate_left
   ·(intro v hv;go_simp;try (with_reducible rfl))
   try simp [Act.put]
   refine zTa 6
   rotate_left
   ·(intro v hv;go_simp;try (with_reducible rfl))
   try simp [Act.put]
   refine zTa 7
   rotate_left
   ·(intro v hv;go_simp;try (with_reducible rfl))
   try simp [Act.put]
   refine wpAnyH_done zK ?_ _
   go_wp2
   go_ret2
   exact .inr ⟨p,no,b5,HR.out,rfl,HB6.out.2.2,HB6.out.2.1,by have h1:=HB6.out.1;exact⟨h1.os,h1.tape,h1.output,h1.size,h1.block⟩⟩
 ·have h1:(E == 0)=false:=by simpa using h0
  have HF:Hid (ofE r m=.error (0,E)):=by show _=_;unfold ofE;rw [HE.out,if_neg h0]
  clear h0
  go_wp2_with fail
  refine (Xb _ _ _).mono ?_
  rintro e w7 ⟨rfl,hf7,hb7⟩
  have HB7:Hid (yD w w7∧FlAt w7 w3§ Zf 0 E∧w§≤w3§):=⟨Qd HB3.out hb7,hf7,HB3.out.size⟩
  clear hb7 hf7
  go_wp2
  go_ret2
  exact .inr ⟨0,E,w3§,HF.out,rfl,HB7.out.2.2,HB7.out.2.1,HB7.out.1⟩
end Go.Proofs.YtfbjofnaghjmeaaGreatDoor
