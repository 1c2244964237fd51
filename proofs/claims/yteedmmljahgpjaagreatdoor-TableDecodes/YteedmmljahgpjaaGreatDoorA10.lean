import Derived.Test.YteedmmljahgpjaaGreatDoorA0
import Derived.Test.YteedmmljahgpjaaGreatDoorA9
namespace Go.Proofs.YteedmmljahgpjaaGreatDoor
set_option maxRecDepth 100000
set_option maxHeartbeats 4000000
open Go.RowKit
set_option linter.unusedVariables false
set_option linter.unusedSimpArgs false
def sp0:Sp:=⟨0,0⟩
def sp8 (a b c d:Sp):Array Value:=#[zI a.f,zI a.t,zI b.f,zI b.t,zI c.f,zI c.t,zI d.f,zI d.t]
def spsR:List Bool→RS→List UInt8→Int→Option (List Sp × RS × Int)
 | [],q,_,p=>some ([],q,p)
 | b :: l,q,s,p=>if b then (lenR q s p).bind fun d=>(spsR l d.2.1 s d.2.2).map fun r=>(d.1 :: r.1,r.2) else (spsR l q s p).map fun r=>(sp0 :: r.1,r.2)
def Qr (k o i:Int) (l:List Sp):RowM:=⟨k,o,i,l.getD 0 sp0,l.getD 1 sp0,l.getD 2 sp0,l.getD 3 sp0⟩
def rowR (q:RS) (l:List UInt8) (p:Int):Option (RowM × RS × Int) :=
 (Qh 6 l p).bind fun k=>(Qh 5 l k.2).bind fun o=>(Qh 12 l o.2).bind fun i=>(spsR (prts (Qn k.1 o.1)) q l i.2).map fun r=>(Qr k.1 o.1 i.1 r.1,r.2)
theorem zero4:∀ j,0≤j→j < 4→([sp0,sp0,sp0,sp0]:List Sp).getD j sp0=sp0:=by
 intro j _ h2
 obtain rfl | rfl | rfl | rfl:j=0∨j=1∨j=2∨j=3:=by omega
 all_goals rfl
theorem p4_ix (p:P4) (i:Nat) (hi:i < 4) (w:World):Sem.run Tryz.prog (Instr.index 216 (.agg p.vals) (zI i)) w=.ok (.bool ((prts p).getD i false)) w:=by
 obtain rfl | rfl | rfl | rfl:i=0∨i=1∨i=2∨i=3:=by omega
 ·kernel_rfl
 ·kernel_rfl
 ·kernel_rfl
 ·kernel_rfl
theorem len_no {mz:Nat}{R:Nat}{bs:List (Nat × Nat × Array Value)}{q:RS}{s:ByteArray}{p:Int}{w w0:World}(h:Rd w0 mz w R bs q s p) (hs:s.size≤1099511627776) (hq:0≤q.sp∧q.sp≤1000000000000) (hn:lenR q s.data.toList p=none):Calls zG 149 #[zP R] w fun e w'=>e=pan pf∧Below w0§ w0 w':=by
 have c:=rlength_any R bs q s p w w0 h hs hq
 rw [hn] at c
 exact c
theorem len_ok {mz:Nat}{d:Sp}{q2:RS}{p2:Int}{R:Nat}{bs:List (Nat × Nat × Array Value)}{q:RS}{s:ByteArray}{p:Int}{w w0:World}(h:Rd w0 mz w R bs q s p) (hs:s.size≤1099511627776) (hq:0≤q.sp∧q.sp≤1000000000000) (hn:lenR q s.data.toList p=some (d,q2,p2)):Calls zG 149 #[zP R] w fun e w'=>e=.returned (.agg d.vals)∧Rd w0 mz w' R bs q2 s p2:=by
 have c:=rlength_any R bs q s p w w0 h hs hq
 rw [hn] at c
 exact c
theorem lenR_bd {q q2:RS}{l:List UInt8}{p p2:Int}{d:Sp}(h:lenR q l p=some (d,q2,p2)):q.sp≤q2.sp∧q2.sp≤q.sp+4096:=by
 unfold lenR at h
 obtain⟨⟨n,m⟩,h1,h2⟩:=Option.map_eq_some_iff.1 h
 obtain⟨h3,h4⟩:=Qo h1
 have h5:spR q n=q2:=by injection h2 with a b; injection b
 rw [← h5]
 unfold spR
 simp only
 omega
theorem Rd.cell2 {mz:Nat}{w0 V:World}{R g t j:Nat}{cs cs':Array Value}{bs:List (Nat × Nat × Array Value)}{q:RS}{s:ByteArray}{p:Int}(h:Rd w0 mz V R ((g,t,cs) :: bs) q s p) (hg:w0§≤g) (u v:Value) (hN:∀ b ∈ bs,b.1≠g) (e:(cs.setIfInBounds j u).setIfInBounds (j+1) v=cs'):Rd w0 mz ((V.setCell ⟨g,j,none⟩ u).setCell ⟨g,j+1,none⟩ v) R ((g,t,cs') :: bs) q s p:=by
 obtain⟨hK,hR⟩:=h.K _ (List.mem_cons_self ..)
 have h1:=Hs0 (j:=j) u hK
 have h2:=Hs0 (j:=j+1) v h1
 rw [e] at h2
 refine⟨(heap_setCell_other _ _ _ _ (Ne.symm hR)).trans ((heap_setCell_other _ _ _ _ (Ne.symm hR)).trans h.H),(h.B.setCell hg _).setCell hg _,h.G,fun b hb=>?_,fun b hb=>?_,by rw [World.size_setCell,World.size_setCell]; exact h.M⟩
 rotate_left
 ·rcases List.mem_cons.1 hb with rfl | hb
  ·exact hg
  ·exact h.L b (List.mem_cons_of_mem _ hb)
 rcases List.mem_cons.1 hb with rfl | hb
 ·exact⟨h2,hR⟩
 ·obtain⟨r1,r2⟩:=h.K b (List.mem_cons_of_mem _ hb)
  exact⟨(heap_setCell_other _ _ _ _ (hN b hb)).trans ((heap_setCell_other _ _ _ _ (hN b hb)).trans r1),r2⟩
theorem rrow_any {mz:Nat}(R:Nat) (bs:List (Nat × Nat × Array Value)) (q:RS) (s:ByteArray) (p:Int) (w:World) (w0:World) (h:Rd w0 mz w R bs q s p) (hs:s.size≤1099511627776) (hq:0≤q.sp∧q.sp≤500000000000):Calls zG 152 #[zP R] w fun e w'=>OutQ w0 mz R bs s ((rowR q s.data.toList p).map fun d=>(.agg d.1.vals,d.2.1,d.2.2)) e w':=by
 have hw:=h.lt
 have HR1:Hid (Rd w0 mz (w.alloc (.cells zA1 85)) R ((w§,85,zA1) :: bs) q s p):=h.add (Bn _ _) _ _ _ (Nat.le_refl _) (Hn _ _)
 have HG:Hid (w0§≤w§):=h.B.size
 have HFR:Hid (∀ b ∈ bs,b.1≠w§):=h.fresh
 obtain⟨W1,e1⟩:∃ W,w.alloc (.cells zA1 85)=W:=⟨_,rfl⟩
 have E1:Hid (w.alloc (.cells zA1 85)=W1):=e1
 rw [e1] at HR1
 unfold rowR
 clear h e1 hw
 cases hk:Qh 6 s.data.toList p with
 | none =>
  have cK:=Jw HR1.out hs (by omega) hk
  show Calls zG 152 #[zP R] w (fun e w'=>e=pan pf∧Below w0§ w0 w')
  go_enter Tryz.func152,Tryz.ntmps152
  go_upto_region 1 with fail
  rw [E1.out]
  clear E1
  go_wp2_with fail
  refine cK.mono ?_
  rintro e w2 ⟨rfl,hb⟩
  exact⟨rfl,rfl,hb⟩
 | some kp =>
  obtain⟨k,p1⟩:=kp
  have cK:=Jd HR1.out hs (by omega) hk
  obtain⟨hk0,hk6⟩:=Qo hk
  have hkm:k % 256=k:=by omega
  show Calls zG 152 #[zP R] w (OutQ w0 mz R bs s (Option.map _ (Option.bind (Qh 5 s.data.toList p1) _)))
  cases ho:Qh 5 s.data.toList p1 with
  | none =>
   show Calls zG 152 #[zP R] w (fun e w'=>e=pan pf∧Below w0§ w0 w')
   clear hk
   go_enter Tryz.func152,Tryz.ntmps152
   go_upto_region 1 with fail
   rw [E1.out]
   clear E1
   go_wp2_with fail
   refine cK.mono ?_
   rintro e w2 ⟨rfl,hr⟩
   have cO:=Jw hr hs (by omega) ho
   clear cK hr
   go_wp2_with fail
   refine cO.mono ?_
   rintro e w3 ⟨rfl,hb⟩
   exact⟨rfl,rfl,hb⟩
  | some op =>
   obtain⟨o,p2⟩:=op
   obtain⟨ho0,ho5⟩:=Qo ho
   have hom:o % 256=o:=by omega
   show Calls zG 152 #[zP R] w (OutQ w0 mz R bs s (Option.map _ (Option.bind (Qh 12 s.data.toList p2) _)))
   cases hi:Qh 12 s.data.toList p2 with
   | none =>
    show Calls zG 152 #[zP R] w (fun e w'=>e=pan pf∧Below w0§ w0 w')
    clear hk
    go_enter Tryz.func152,Tryz.ntmps152
    go_upto_region 1 with fail
    rw [E1.out]
    clear E1
    go_wp2_with fail
    refine cK.mono ?_
    rintro e w2 ⟨rfl,hr⟩
    have cO:=Jd hr hs (by omega) ho
    clear cK hr
    go_wp2_with fail
    refine cO.mono ?_
    rintro e w3 ⟨rfl,hr⟩
    have cI:=Jw hr hs (by omega) hi
    clear cO hr
    go_wp2_with fail
    refine cI.mono ?_
    rintro e w4 ⟨rfl,hb⟩
    exact⟨rfl,rfl,hb⟩
   | some ip =>
    obtain⟨ix,p3⟩:=ip
    obtain⟨hi0,hi12⟩:=Qo hi
    obtain⟨P,eP⟩:∃ P,Qn k o=P:=⟨_,rfl⟩
    obtain⟨T,eT⟩:∃ T,spsR (prts P) q s.data.toList p3=T:=⟨_,rfl⟩
    show Calls zG 152 #[zP R] w (OutQ w0 mz R bs s (Option.map (fun d=>(.agg d.1.vals,d.2.1,d.2.2)) (Option.map (fun r=>(Qr k o ix r.1,r.2)) (spsR (prts (Qn k o)) q s.data.toList p3))))
    rw [eP,eT]
    have HT0:Hid (T=(spsR ((prts P).drop 0) q s.data.toList p3).map fun r=>(([sp0,sp0,sp0,sp0]:List Sp).take 0 ++ r.1,r.2)):=by
     show _=_
     rw [← eT]
     rw [List.drop_zero]
     cases spsR (prts P) q s.data.toList p3 with
     | none=>rfl
     | some r=>rfl
    have HPP:Hid (Qn k o=P):=eP
    clear hk eT eP
    go_enter Tryz.func152,Tryz.ntmps152
    go_upto_region 1 with fail
    rw [E1.out]
    clear E1
    go_wp2_with fail
    refine cK.mono ?_
    rintro e w2 ⟨rfl,hr⟩
    have cO:=Jd hr hs (by omega) ho
    clear cK hr
    go_wp2_with fail
    refine cO.mono ?_
    rintro e w3 ⟨rfl,hr⟩
    have cI:=Jd hr hs (by omega) hi
    clear cO hr
    go_wp2_with fail
    refine cI.mono ?_
    rintro e w4 ⟨rfl,hr⟩
    have HR4:Hid (Rd w0 mz (w4.alloc (.cells (sp8 sp0 sp0 sp0 sp0) 219)) R ((w4§,219,sp8 sp0 sp0 sp0 sp0) :: (w§,85,zA1) :: bs) q s p3):=hr.add (Bn _ _) _ _ _ (Nat.le_refl _) (Hn _ _)
    have hf4:=hr.fresh
    obtain⟨g2,eg2⟩:∃ g,w4§=g:=⟨_,rfl⟩
    rw [eg2] at HR4 hf4
    have HG2:Hid (w0§≤g2∧∀ b ∈ ((w§,85,zA1) :: bs:List (Nat × Nat × Array Value)),b.1≠g2):=⟨by rw [← eg2]; exact hr.B.size,hf4⟩
    have HEG:Hid (w4§=g2):=eg2
    obtain⟨W5,e5⟩:∃ W,w4.alloc (.cells (sp8 sp0 sp0 sp0 sp0) 219)=W:=⟨_,rfl⟩
    have E5:Hid (w4.alloc (.cells zA2 219)=W5):=e5
    rw [e5] at HR4
    have cP:=Ko k o W5
    rw [HPP.out] at cP
    clear cI hr hf4 eg2 e5
    go_upto_region 5 with fail
    rw [E5.out, HEG.out]
    clear E5 HEG
    go_wp2_with fail
    refine cP.mono ?_
    rintro e w6 ⟨rfl,hb6⟩
    have HR6:Hid (Rd w0 mz w6 R ((g2,219,sp8 sp0 sp0 sp0 sp0) :: (w§,85,zA1) :: bs) q s p3):=HR4.out.on hb6
    clear cP hb6 HR4
    go_wp2_with fail
    go_loopw [20] (fun t wr=>∃ (i:Nat) (x0 x1 x2 x3:Sp) (q:RS) (p:Int),i≤4∧t=zI i∧(∀ j,i≤j→j < 4→([x0,x1,x2,x3]:List Sp).getD j sp0=sp0)∧(0≤q.sp∧q.sp≤500000000000+4096 * i)∧Hid (Rd w0 mz wr R ((g2,219,sp8 x0 x1 x2 x3) :: (w§,85,zA1) :: bs) q s p)∧Hid (T=(spsR ((prts P).drop i) q s.data.toList p).map fun r=>(([x0,x1,x2,x3]:List Sp).take i ++ r.1,r.2))) (fun t _=>4 - (intOf t).toNat)
    case atStart=>exact⟨0,sp0,sp0,sp0,sp0,q,p3,by omega,rfl,zero4,⟨hq.1,by have:=hq.2; omega⟩,HR6,HT0⟩
    case round =>
     clear hq HT0 HR6
     obtain⟨i,x0,x1,x2,x3,q,p,hi4,rfl,hz,hq,HRR,HTR⟩:=hrel
     by_cases hlt:i < 4
     ·obtain rfl | rfl | rfl | rfl:i=0∨i=1∨i=2∨i=3:=by omega
      ·have hxi:x0=sp0:=hz 0 (by omega) (by omega)
       have cI:=p4_ix P 0 (by omega)
       have HT1:Hid (T=(spsR (((prts P).getD 0 false) :: (prts P).drop 1) q s.data.toList p).map fun r=>([] ++ r.1,r.2)):=HTR.out
       have hlt4:((0:Nat):Int) < 4:=by decide
       have HIX:Hid (∀ w,Sem.run Tryz.prog (Instr.index 216 (.agg P.vals) (zI (0:Nat))) w=.ok (.bool ((prts P).getD 0 false)) w):=cI
       clear cI HTR
       cases hb:(prts P).getD 0 false with
       | false =>
        rw [hb] at HIX HT1
        have HT2:Hid (T=(spsR ((prts P).drop 1) q s.data.toList p).map fun r=>([x0,x1,x2,x3].take 1 ++ r.1,r.2)):=by
         show _=_
         rw [HT1.out,hxi]
         show Option.map _ (if false=true then _ else _)=_
         rw [if_neg (by decide),Option.map_map]
         congr 1
        go_wp2_with (refine Qu rfl 216 (.tmp 19) (.tmp 20) rfl _ (zI (0:Nat)) _ rfl rfl HIX.out ?_)
        exact⟨⟨0+1,x0,x1,x2,x3,q,p,by omega,rfl,fun j h1 h2=>hz j (by omega) h2,⟨hq.1,by have:=hq.2; omega⟩,HRR,HT2⟩,by simp only [intOf]; omega⟩
       | true =>
        rw [hb] at HIX HT1
        have hq2:0≤q.sp∧q.sp≤1000000000000:=by omega
        cases hL:lenR q s.data.toList p with
        | none =>
         have HT2:Hid (T=none):=by
          show _=_
          rw [HT1.out]
          show Option.map _ (if true=true then _ else _)=_
          rw [if_pos rfl,hL]; rfl
         have cL:=len_no HRR.out hs hq2 hL
         go_wp2_with (refine Qu rfl 216 (.tmp 19) (.tmp 20) rfl _ (zI (0:Nat)) _ rfl rfl HIX.out ?_)
         refine cL.mono ?_
         rintro e w5 ⟨rfl,hb5⟩
         exact⟨rfl,by rw [HT2.out]; exact⟨rfl,hb5⟩⟩
        | some dq =>
         obtain⟨d,q2,p2⟩:=dq
         have hbd:=lenR_bd hL
         have hzn:∀ j,0+1≤j→j < 4→([d,x1,x2,x3]:List Sp).getD j sp0=sp0:=by
          intro j h1 h2
          have hj:=hz j (by omega) h2
          obtain rfl | rfl | rfl | rfl:j=0∨j=1∨j=2∨j=3:=by omega
          all_goals first | omega | exact hj
         have HT2:Hid (T=(spsR ((prts P).drop 1) q2 s.data.toList p2).map fun r=>([d,x1,x2,x3].take 1 ++ r.1,r.2)):=by
          show _=_
          rw [HT1.out]
          show Option.map _ (if true=true then _ else _)=_
          rw [if_pos rfl,hL]
          rw [Option.bind_some,Option.map_map]
          congr 1
         have cL:=len_ok HRR.out hs hq2 hL
         go_wp2_with (refine Qu rfl 216 (.tmp 19) (.tmp 20) rfl _ (zI (0:Nat)) _ rfl rfl HIX.out ?_)
         refine cL.mono ?_
         rintro e w5 ⟨rfl,hr5⟩
         have HR5:Hid (Rd w0 mz w5 R ((g2,219,sp8 x0 x1 x2 x3) :: (w§,85,zA1) :: bs) q2 s p2):=hr5
         have m0:w5.cell? ⟨g2,0,none⟩=some (zI x0.f):=Co hr5.box 0
         have m1:w5.cell? ⟨g2,1,none⟩=some (zI x0.t):=Co hr5.box 1
         have f0:w5.frozen? ⟨g2,0,none⟩=false:=Fo hr5.box 0
         have f1:w5.frozen? ⟨g2,1,none⟩=false:=Fo hr5.box 1
         have HR6:Hid (Rd w0 mz ((w5.setCell ⟨g2,0,none⟩ (zI d.f)).setCell ⟨g2,1,none⟩ (zI d.t)) R ((g2,219,sp8 d x1 x2 x3) :: (w§,85,zA1) :: bs) q2 s p2):=HR5.out.cell2 (j:=0) HG2.out.1 _ _ HG2.out.2 rfl
         unfold Sp.vals
         clear cL hr5 HR5 HRR HT1 HIX hL
         go_upto_region 10 with fail
         generalize (w5.setCell ⟨g2,0,none⟩ (zI d.f)).setCell ⟨g2,1,none⟩ (zI d.t)=W6 at HR6 ⊢
         clear m0 m1 f0 f1
         go_wp2_with fail
         exact⟨⟨0+1,d,x1,x2,x3,q2,p2,by omega,rfl,hzn,⟨by omega,by omega⟩,HR6,HT2⟩,by simp only [intOf]; omega⟩
      ·have hxi:x1=sp0:=hz 1 (by omega) (by omega)
       have cI:=p4_ix P 1 (by omega)
       have HT1:Hid (T=(spsR (((prts P).getD 1 false) :: (prts P).drop 2) q s.data.toList p).map fun r=>([x0] ++ r.1,r.2)):=HTR.out
       have hlt4:((1:Nat):Int) < 4:=by decide
       have HIX:Hid (∀ w,Sem.run Tryz.prog (Instr.index 216 (.agg P.vals) (zI (1:Nat))) w=.ok (.bool ((prts P).getD 1 false)) w):=cI
       clear cI HTR
       cases hb:(prts P).getD 1 false with
       | false =>
        rw [hb] at HIX HT1
        have HT2:Hid (T=(spsR ((prts P).drop 2) q s.data.toList p).map fun r=>([x0,x1,x2,x3].take 2 ++ r.1,r.2)):=by
         show _=_
         rw [HT1.out,hxi]
         show Option.map _ (if false=true then _ else _)=_
         rw [if_neg (by decide),Option.map_map]
         congr 1
        go_wp2_with (refine Qu rfl 216 (.tmp 19) (.tmp 20) rfl _ (zI (1:Nat)) _ rfl rfl HIX.out ?_)
        exact⟨⟨1+1,x0,x1,x2,x3,q,p,by omega,rfl,fun j h1 h2=>hz j (by omega) h2,⟨hq.1,by have:=hq.2; omega⟩,HRR,HT2⟩,by simp only [intOf]; omega⟩
       | true =>
        rw [hb] at HIX HT1
        have hq2:0≤q.sp∧q.sp≤1000000000000:=by omega
        cases hL:lenR q s.data.toList p with
        | none =>
         have HT2:Hid (T=none):=by
          show _=_
          rw [HT1.out]
          show Option.map _ (if true=true then _ else _)=_
          rw [if_pos rfl,hL]; rfl
         have cL:=len_no HRR.out hs hq2 hL
         go_wp2_with (refine Qu rfl 216 (.tmp 19) (.tmp 20) rfl _ (zI (1:Nat)) _ rfl rfl HIX.out ?_)
         refine cL.mono ?_
         rintro e w5 ⟨rfl,hb5⟩
         exact⟨rfl,by rw [HT2.out]; exact⟨rfl,hb5⟩⟩
        | some dq =>
         obtain⟨d,q2,p2⟩:=dq
         have hbd:=lenR_bd hL
         have hzn:∀ j,1+1≤j→j < 4→([x0,d,x2,x3]:List Sp).getD j sp0=sp0:=by
          intro j h1 h2
          have hj:=hz j (by omega) h2
          obtain rfl | rfl | rfl | rfl:j=0∨j=1∨j=2∨j=3:=by omega
          all_goals first | omega | exact hj
         have HT2:Hid (T=(spsR ((prts P).drop 2) q2 s.data.toList p2).map fun r=>([x0,d,x2,x3].take 2 ++ r.1,r.2)):=by
          show _=_
          rw [HT1.out]
          show Option.map _ (if true=true then _ else _)=_
          rw [if_pos rfl,hL]
          rw [Option.bind_some,Option.map_map]
          congr 1
         have cL:=len_ok HRR.out hs hq2 hL
         go_wp2_with (refine Qu rfl 216 (.tmp 19) (.tmp 20) rfl _ (zI (1:Nat)) _ rfl rfl HIX.out ?_)
         refine cL.mono ?_
         rintro e w5 ⟨rfl,hr5⟩
         have HR5:Hid (Rd w0 mz w5 R ((g2,219,sp8 x0 x1 x2 x3) :: (w§,85,zA1) :: bs) q2 s p2):=hr5
         have m0:w5.cell? ⟨g2,2,none⟩=some (zI x1.f):=Co hr5.box 2
         have m1:w5.cell? ⟨g2,3,none⟩=some (zI x1.t):=Co hr5.box 3
         have f0:=Fo hr5.box 2
         have f1:=Fo hr5.box 3
         have HR6:Hid (Rd w0 mz ((w5.setCell ⟨g2,2,none⟩ (zI d.f)).setCell ⟨g2,3,none⟩ (zI d.t)) R ((g2,219,sp8 x0 d x2 x3) :: (w§,85,zA1) :: bs) q2 s p2):=HR5.out.cell2 (j:=2) HG2.out.1 _ _ HG2.out.2 rfl
         unfold Sp.vals
         clear cL hr5 HR5 HRR HT1 HIX hL
         go_upto_region 10 with fail
         generalize (w5.setCell ⟨g2,2,none⟩ (zI d.f)).setCell ⟨g2,3,none⟩ (zI d.t)=W6 at HR6 ⊢
         clear m0 m1 f0 f1
         go_wp2_with fail
         exact⟨⟨1+1,x0,d,x2,x3,q2,p2,by omega,rfl,hzn,⟨by omega,by omega⟩,HR6,HT2⟩,by simp only [intOf]; omega⟩
      ·have hxi:x2=sp0:=hz 2 (by omega) (by omega)
       have cI:=p4_ix P 2 (by omega)
       have HT1:Hid (T=(spsR (((prts P).getD 2 false) :: (prts P).drop 3) q s.data.toList p).map fun r=>([x0,x1] ++ r.1,r.2)):=HTR.out
       have hlt4:((2:Nat):Int) < 4:=by decide
       have HIX:Hid (∀ w,Sem.run Tryz.prog (Instr.index 216 (.agg P.vals) (zI (2:Nat))) w=.ok (.bool ((prts P).getD 2 false)) w):=cI
       clear cI HTR
       cases hb:(prts P).getD 2 false with
       | false =>
        rw [hb] at HIX HT1
        have HT2:Hid (T=(spsR ((prts P).drop 3) q s.data.toList p).map fun r=>([x0,x1,x2,x3].take 3 ++ r.1,r.2)):=by
         show _=_
         rw [HT1.out,hxi]
         show Option.map _ (if false=true then _ else _)=_
         rw [if_neg (by decide),Option.map_map]
         congr 1
        go_wp2_with (refine Qu rfl 216 (.tmp 19) (.tmp 20) rfl _ (zI (2:Nat)) _ rfl rfl HIX.out ?_)
        exact⟨⟨2+1,x0,x1,x2,x3,q,p,by omega,rfl,fun j h1 h2=>hz j (by omega) h2,⟨hq.1,by have:=hq.2; omega⟩,HRR,HT2⟩,by simp only [intOf]; omega⟩
       | true =>
        rw [hb] at HIX HT1
        have hq2:0≤q.sp∧q.sp≤1000000000000:=by omega
        cases hL:lenR q s.data.toList p with
        | none =>
         have HT2:Hid (T=none):=by
          show _=_
          rw [HT1.out]
          show Option.map _ (if true=true then _ else _)=_
          rw [if_pos rfl,hL]; rfl
         have cL:=len_no HRR.out hs hq2 hL
         go_wp2_with (refine Qu rfl 216 (.tmp 19) (.tmp 20) rfl _ (zI (2:Nat)) _ rfl rfl HIX.out ?_)
         refine cL.mono ?_
         rintro e w5 ⟨rfl,hb5⟩
         exact⟨rfl,by rw [HT2.out]; exact⟨rfl,hb5⟩⟩
        | some dq =>
         obtain⟨d,q2,p2⟩:=dq
         have hbd:=lenR_bd hL
         have hzn:∀ j,2+1≤j→j < 4→([x0,x1,d,x3]:List Sp).getD j sp0=sp0:=by
          intro j h1 h2
          have hj:=hz j (by omega) h2
          obtain rfl | rfl | rfl | rfl:j=0∨j=1∨j=2∨j=3:=by omega
          all_goals first | omega | exact hj
         have HT2:Hid (T=(spsR ((prts P).drop 3) q2 s.data.toList p2).map fun r=>([x0,x1,d,x3].take 3 ++ r.1,r.2)):=by
          show _=_
          rw [HT1.out]
          show Option.map _ (if true=true then _ else _)=_
          rw [if_pos rfl,hL]
          rw [Option.bind_some,Option.map_map]
          congr 1
         have cL:=len_ok HRR.out hs hq2 hL
         go_wp2_with (refine Qu rfl 216 (.tmp 19) (.tmp 20) rfl _ (zI (2:Nat)) _ rfl rfl HIX.out ?_)
         refine cL.mono ?_
         rintro e w5 ⟨rfl,hr5⟩
         have HR5:Hid (Rd w0 mz w5 R ((g2,219,sp8 x0 x1 x2 x3) :: (w§,85,zA1) :: bs) q2 s p2):=hr5
         have m0:w5.cell? ⟨g2,4,none⟩=some (zI x2.f):=Co hr5.box 4
         have m1:w5.cell? ⟨g2,5,none⟩=some (zI x2.t):=Co hr5.box 5
         have f0:=Fo hr5.box 4
         have f1:=Fo hr5.box 5
         have HR6:Hid (Rd w0 mz ((w5.setCell ⟨g2,4,none⟩ (zI d.f)).setCell ⟨g2,5,none⟩ (zI d.t)) R ((g2,219,sp8 x0 x1 d x3) :: (w§,85,zA1) :: bs) q2 s p2):=HR5.out.cell2 (j:=4) HG2.out.1 _ _ HG2.out.2 rfl
         unfold Sp.vals
         clear cL hr5 HR5 HRR HT1 HIX hL
         go_upto_region 10 with fail
         generalize (w5.setCell ⟨g2,4,none⟩ (zI d.f)).setCell ⟨g2,5,none⟩ (zI d.t)=W6 at HR6 ⊢
         clear m0 m1 f0 f1
         go_wp2_with fail
         exact⟨⟨2+1,x0,x1,d,x3,q2,p2,by omega,rfl,hzn,⟨by omega,by omega⟩,HR6,HT2⟩,by simp only [intOf]; omega⟩
      ·have hxi:x3=sp0:=hz 3 (by omega) (by omega)
       have cI:=p4_ix P 3 (by omega)
       have HT1:Hid (T=(spsR (((prts P).getD 3 false) :: (prts P).drop 4) q s.data.toList p).map fun r=>([x0,x1,x2] ++ r.1,r.2)):=HTR.out
       have hlt4:((3:Nat):Int) < 4:=by decide
       have HIX:Hid (∀ w,Sem.run Tryz.prog (Instr.index 216 (.agg P.vals) (zI (3:Nat))) w=.ok (.bool ((prts P).getD 3 false)) w):=cI
       clear cI HTR
       cases hb:(prts P).getD 3 false with
       | false =>
        rw [hb] at HIX HT1
        have HT2:Hid (T=(spsR ((prts P).drop 4) q s.data.toList p).map fun r=>([x0,x1,x2,x3].take 4 ++ r.1,r.2)):=by
         show _=_
         rw [HT1.out,hxi]
         show Option.map _ (if false=true then _ else _)=_
         rw [if_neg (by decide),Option.map_map]
         congr 1
        go_wp2_with (refine Qu rfl 216 (.tmp 19) (.tmp 20) rfl _ (zI (3:Nat)) _ rfl rfl HIX.out ?_)
        exact⟨⟨3+1,x0,x1,x2,x3,q,p,by omega,rfl,fun j h1 h2=>hz j (by omega) h2,⟨hq.1,by have:=hq.2; omega⟩,HRR,HT2⟩,by simp only [intOf]; omega⟩
       | true =>
        rw [hb] at HIX HT1
        have hq2:0≤q.sp∧q.sp≤1000000000000:=by omega
        cases hL:lenR q s.data.toList p with
        | none =>
         have HT2:Hid (T=none):=by
          show _=_
          rw [HT1.out]
          show Option.map _ (if true=true then _ else _)=_
          rw [if_pos rfl,hL]; rfl
         have cL:=len_no HRR.out hs hq2 hL
         go_wp2_with (refine Qu rfl 216 (.tmp 19) (.tmp 20) rfl _ (zI (3:Nat)) _ rfl rfl HIX.out ?_)
         refine cL.mono ?_
         rintro e w5 ⟨rfl,hb5⟩
         exact⟨rfl,by rw [HT2.out]; exact⟨rfl,hb5⟩⟩
        | some dq =>
         obtain⟨d,q2,p2⟩:=dq
         have hbd:=lenR_bd hL
         have hzn:∀ j,3+1≤j→j < 4→([x0,x1,x2,d]:List Sp).getD j sp0=sp0:=by
          intro j h1 h2
          have hj:=hz j (by omega) h2
          obtain rfl | rfl | rfl | rfl:j=0∨j=1∨j=2∨j=3:=by omega
          all_goals first | omega | exact hj
         have HT2:Hid (T=(spsR ((prts P).drop 4) q2 s.data.toList p2).map fun r=>([x0,x1,x2,d].take 4 ++ r.1,r.2)):=by
          show _=_
          rw [HT1.out]
          show Option.map _ (if true=true then _ else _)=_
          rw [if_pos rfl,hL]
          rw [Option.bind_some,Option.map_map]
          congr 1
         have cL:=len_ok HRR.out hs hq2 hL
         go_wp2_with (refine Qu rfl 216 (.tmp 19) (.tmp 20) rfl _ (zI (3:Nat)) _ rfl rfl HIX.out ?_)
         refine cL.mono ?_
         rintro e w5 ⟨rfl,hr5⟩
         have HR5:Hid (Rd w0 mz w5 R ((g2,219,sp8 x0 x1 x2 x3) :: (w§,85,zA1) :: bs) q2 s p2):=hr5
         have m0:w5.cell? ⟨g2,6,none⟩=some (zI x3.f):=Co hr5.box 6
         have m1:w5.cell? ⟨g2,7,none⟩=some (zI x3.t):=Co hr5.box 7
         have f0:=Fo hr5.box 6
         have f1:=Fo hr5.box 7
         have HR6:Hid (Rd w0 mz ((w5.setCell ⟨g2,6,none⟩ (zI d.f)).setCell ⟨g2,7,none⟩ (zI d.t)) R ((g2,219,sp8 x0 x1 x2 d) :: (w§,85,zA1) :: bs) q2 s p2):=HR5.out.cell2 (j:=6) HG2.out.1 _ _ HG2.out.2 rfl
         unfold Sp.vals
         clear cL hr5 HR5 HRR HT1 HIX hL
         go_upto_region 10 with fail
         generalize (w5.setCell ⟨g2,6,none⟩ (zI d.f)).setCell ⟨g2,7,none⟩ (zI d.t)=W6 at HR6 ⊢
         clear m0 m1 f0 f1
         go_wp2_with fail
         exact⟨⟨3+1,x0,x1,x2,d,q2,p2,by omega,rfl,hzn,⟨by omega,by omega⟩,HR6,HT2⟩,by simp only [intOf]; omega⟩
     ·obtain rfl:i=4:=by omega
      have hnot:¬ ((4:Nat):Int) < 4:=by omega
      have HT2:Hid (T=some ([x0,x1,x2,x3],q,p)):=HTR.out
      obtain⟨a0,a1,a2,a3,a4,a5,a6,a7⟩:=cl8 HRR.out.box
      have HN3:Hid (wr.heap[w§]? = some (.cells zA1 85 (0,0))):=HRR.out.less.box
      have HRS:Hid (Rd w0 mz (wr.setRow w§ (RowM.vals (Qr k o ix [x0,x1,x2,x3]))) R bs q s p):=HRR.out.less.row HG.out _ HFR.out
      have HNS:Hid ((wr.setRow w§ (RowM.vals (Qr k o ix [x0,x1,x2,x3]))).heap[w§]? = some (.cells (RowM.vals (Qr k o ix [x0,x1,x2,x3])) 85 (0,0))):=setRow_heap _ _ _ _ _ _ HN3.out
      clear hz hq HRR HTR
      go_wp2_with (refine wpList_store_row rfl 85 (.tmp 2) (.tmp 41) rfl w§ (RowM.vals (Qr k o ix [x0,x1,x2,x3])) rfl rfl 85 zA1 HN3.out Qi rfl (QQ _) ?_)
      refine bodyPost_ret (results_cell_row rfl _ _ w§ 85 (RowM.vals (Qr k o ix [x0,x1,x2,x3])) (0,0) _ rfl HNS.out Tryz.underlying85 rfl Qi) rfl ?_
      rw [HT2.out]
      exact⟨rfl,HRS.out⟩
end Go.Proofs.YteedmmljahgpjaaGreatDoor
