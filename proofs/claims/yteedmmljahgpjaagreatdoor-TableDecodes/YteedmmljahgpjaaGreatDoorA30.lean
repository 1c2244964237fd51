import Derived.Test.YteedmmljahgpjaaGreatDoorA0
import Derived.Test.YteedmmljahgpjaaGreatDoorA28
import Derived.Test.YteedmmljahgpjaaGreatDoorA29
import Derived.Test.YteedmmljahgpjaaGreatDoorA27
import Derived.Test.YteedmmljahgpjaaGreatDoorA21
import Derived.Test.YteedmmljahgpjaaGreatDoorA22
namespace Go.Proofs.YteedmmljahgpjaaGreatDoor
set_option maxRecDepth 100000
set_option maxHeartbeats 16000000
open Go.RowKit
set_option linter.unusedVariables false
set_option linter.unusedSimpArgs false
def tV (x:ByteArray) (v1:Value) (sl:Int) (v3 v4 v5:Value):Array Value:=#[.string x,v1,zI sl,v3,v4,v5]
theorem RdS.below {w V:World}{R:Nat}{s:ByteArray}{st:Option Int}{bs:List Bx}(h:RdS w V R s st bs):Below w§ w V:=by
 obtain⟨p,b,hB,k⟩:=h.bs
 exact hB.B
theorem RdS.mid {w V:World}{R:Nat}{s:ByteArray}{st:Option Int}{nb bs:List Bx}{X t:Nat}{cs:Array Value}(h:RdS w V R s st (nb ++ ((X,t,cs) :: bs))) (j:Nat) (v:Value):RdS w (V.setCell ⟨X,j,none⟩ v) R s st ((X,t,cs.setIfInBounds j v) :: (nb ++ bs)):=(h.perm List.perm_middle).set j v
theorem rdecode_any (b:ByteArray) (w:World) (hs:b.size≤1099511627776):Calls zG 19 #[.string b] w fun e w'=>OutD w (decP b) e w':=by
 obtain⟨RR,eRR⟩:∃ q,decP b=q:=⟨_,rfl⟩
 rw [eRR]
 have hn1:=Hn w (.cells tb0 26)
 have hb1:=Bn w (.cells tb0 26)
 obtain⟨W1,e1⟩:∃ W,w.alloc (.cells tb0 26)=W:=⟨_,rfl⟩
 have E1:Hid (w.alloc (.cells zA3 26)=W1):=e1
 rw [e1] at hn1 hb1
 have cU:=W.runframe_any b 0 hs W1
 obtain⟨E,eE⟩:∃ q:Nat,W.unE b.data.toList 0=q:=⟨_,rfl⟩
 obtain⟨P,eP⟩:∃ q:Int,W.unP b.data.toList 0=q:=⟨_,rfl⟩
 obtain⟨l,el⟩:∃ q,W.unS b.data.toList 0=q:=⟨_,rfl⟩
 unfold decP at eRR
 rw [eE,eP,el] at cU eRR
 have hll:l.length≤65536:=by
  rw [← el]
  by_cases h0:W.unE b.data.toList 0=0
  ·exact (W.un_one h0).2.2.2.1
  ·rw [W.unS_no h0]; exact Nat.zero_le _
 have HB1:Hid (Below w§ w W1):=hb1
 have HN1:Hid (W1.heap[w§]? = some (.cells tb0 26 (0,0))):=hn1
 have hBs:Bs w W1 [(w§,26,tb0)]:=⟨hb1,fun p hp=>by rw [List.mem_singleton.1 hp]; exact⟨hn1,Nat.le_refl _⟩,by simp⟩
 have HBs:Hid (Bs w W1 [(w§,26,tb0)]):=hBs
 clear e1 hn1 hb1 hBs eE eP el hs
 go_enter Tryz.func19,Tryz.ntmps19
 go_upto_region 1 with fail
 rw [E1.out]
 clear E1
 go_wp2_with fail
 refine cU.mono ?_
 rintro e W2 ⟨rfl,hb2⟩
 have HB2:Hid (Below w§ w W2):=Qa HB1.out hb2
 have HN2:Hid (W2.heap[w§]? = some (.cells tb0 26 (0,0))):=(hb2.block _ (Qy HN1.out)).trans HN1.out
 have HBs2:Hid (Bs w W2 [(w§,26,tb0)]):=HBs.out.on hb2
 clear cU hb2 HB1 HN1 HBs
 by_cases hE:E=0
 ·subst hE
  rw [if_pos rfl] at eRR
  by_cases hP:P=(b.size:Int)
  ·have hP0:(P != (b.size:Int))=false:=by simp [hP]
   rw [if_pos (by simpa using hP)] at eRR
   clear hP
   obtain⟨S,eS⟩:∃ q,W.bytes l=q:=⟨_,rfl⟩
   have hSl:S.data.toList=l:=by rw [← eS]; exact W.bytes_list l
   have hSs:S.size=l.length:=by rw [← eS]; exact W.bytes_size l
   rw [eS]
   have hSz:S.size≤1099511627776:=by omega
   have HSZ:Hid (S.size≤1099511627776):=hSz
   have HSL:Hid (S.data.toList=l∧S.size=l.length):=⟨hSl,hSs⟩
   have cT:=fun v=>W.rtakeText_any S 0 hSz v
   rw [hSl] at cT
   have hq3:=Hn W2 (.cells tb0 26)
   have hB3:=HBs2.out.new (Bn W2 (.cells tb0 26)) (Nat.le_refl _) hq3
   have HZ3:Hid ((W2.alloc (.cells tb0 26)).heap[W2§]? = some (.cells tb0 26 (0,0))):=hq3
   have HB3:Hid (Bs w ((W2.alloc (.cells tb0 26)).setRow W2§ tb0) ((W2§,26,tb0) :: [(w§,26,tb0)])):=hB3.row tb0
   clear hq3 hB3 eS hSl hSs hSz hll
   go_upto_region 5 with (refine wpList_store_row rfl 26 (.tmp 7) (.tmp 30) rfl W2§ tb0 rfl rfl 26 tb0 HZ3.out Qe rfl Q6 ?_)
   rw [show (W2.alloc (.cells zA3 26))=W2.alloc (.cells tb0 26) from rfl]
   generalize World.setRow _ _ _=W3 at HB3 ⊢
   generalize W2§=X at HB3 ⊢
   clear HZ3 HBs2 HN2 HB2
   obtain⟨E2,eE2⟩:∃ q:Nat,W.textE l 0=q:=⟨_,rfl⟩
   obtain⟨p0,ep0⟩:∃ q:Int,W.textP l 0=q:=⟨_,rfl⟩
   obtain⟨x,ex⟩:∃ q,W.bytes (W.textS l 0)=q:=⟨_,rfl⟩
   rw [eE2,ep0,ex] at cT
   have hTX:txtR l 0=if E2=0 then some (x,p0) else none:=by unfold txtR; rw [eE2,ep0,ex]
   have HXZ:Hid (E2=0→SzX x):=fun h0=>by
    rw [if_pos h0] at hTX
    have:=HSL.out.1
    rw [← this] at hTX
    exact txtR_X HSZ.out hTX
   rw [hTX] at eRR
   clear eE2 ep0 ex hTX
   go_wp2_with fail
   refine (cT W3).mono ?_
   rintro e W3' ⟨rfl,rfl⟩
   clear cT
   by_cases hE2:E2=0
   ·subst hE2
    rw [if_pos rfl,Option.bind_some] at eRR
    have hq4:=Hn W3' (.cells (rdV S p0 false) 102)
    have hB4:=HB3.out.new (Bn W3' (.cells (rdV S p0 false) 102)) (Nat.le_refl _) hq4
    obtain⟨W4,e4⟩:∃ W,W3'.alloc (.cells (rdV S p0 false) 102)=W:=⟨_,rfl⟩
    have E4:Hid (W3'.alloc (.cells #[.string S,zI p0,.bool false] 102)=W4):=e4
    rw [e4] at hB4
    have HR4:Hid (RdS w W4 W3'§ S (some p0) ((X,26,tV ⟨#[]⟩ (.slice none 0 0) 0 (.slice none 0 0) (.slice none 0 0) (.slice none 0 0)) :: [(w§,26,tb0)])):=hB4
    clear hq4 hB4 e4 HB3
    go_upto_region 9 with fail
    rw [E4.out]
    clear E4
    generalize W3'§=R at HR4 ⊢
    have hXm:=HR4.out.heap (List.mem_cons_self ..)
    have z0:W4.cell? ⟨X,0,none⟩=some (.string ⟨#[]⟩):=Co hXm 0
    have y0:=Fo hXm 0
    have HR5:Hid (RdS w (W4.setCell ⟨X,0,none⟩ (.string x)) R S (some p0) ((X,26,tV x (.slice none 0 0) 0 (.slice none 0 0) (.slice none 0 0) (.slice none 0 0)) :: [(w§,26,tb0)])):=HR4.out.set 0 (.string x)
    clear hXm HR4
    go_upto_region 10 with fail
    generalize World.setCell W4 _ _=W5 at HR5 ⊢
    clear z0 y0
    have cA:=rsignS HR5.out 12 (by decide) HSZ.out
    rw [HSL.out.1] at cA
    obtain⟨r1,er1⟩:∃ q,sgnS 12 l (some p0)=q:=⟨_,rfl⟩
    have hI1:=sgnS_I 12 l (some p0)
    rw [er1] at cA hI1
    unfold JE at eRR
    simp only [er1] at eRR
    obtain⟨rs,st1⟩:=r1
    simp only at eRR hI1
    have HI1:Hid (∀ z ∈ rs,I64 z):=hI1
    clear er1 hI1
    go_wp2_with fail
    refine cA.mono ?_
    rintro e W6 ⟨nbr,ra,rc,rfl,hx,_,hLr⟩
    have hx:RdS w W6 R S st1 (nbr ++ ((X,26,tV x (.slice none 0 0) 0 (.slice none 0 0) (.slice none 0 0) (.slice none 0 0)) :: [(w§,26,tb0)])):=hx
    have hXm:=hx.heap (x:=(X,26,tV x (.slice none 0 0) 0 (.slice none 0 0) (.slice none 0 0) (.slice none 0 0))) (by simp)
    have z1:W6.cell? ⟨X,1,none⟩=some (.slice none 0 0):=Co hXm 1
    have y1:=Fo hXm 1
    have HR6:Hid (RdS w (W6.setCell ⟨X,1,none⟩ (.slice ra rs.length rc)) R S st1 ((X,26,tV x (.slice ra rs.length rc) 0 (.slice none 0 0) (.slice none 0 0) (.slice none 0 0)) :: (nbr ++ [(w§,26,tb0)]))):=hx.mid 1 (.slice ra rs.length rc)
    have HLr:Hid (Keep nbr (fun U=>SlAt U 1 ra rc (rs.map QF))):=hLr
    clear hXm hx hLr cA HR5
    go_upto_region 11 with fail
    generalize World.setCell W6 _ _=W7 at HR6 ⊢
    clear z1 y1
    have cB:=Q7 HR6.out 4 (by decide) HSZ.out
    rw [HSL.out.1] at cB
    have hI2:=numS_I 4 (by decide) l st1
    obtain⟨r2,er2⟩:∃ q,numS 4 l st1=q:=⟨_,rfl⟩
    rw [er2] at cB hI2
    simp only [er2] at eRR
    obtain⟨sl,st2⟩:=r2
    simp only at eRR hI2 cB
    have HI2:Hid (I64 sl):=hI2
    clear er2 hI2
    go_wp2_with fail
    refine cB.mono ?_
    rintro e W8 ⟨rfl,hx⟩
    have hXm:=hx.heap (List.mem_cons_self ..)
    have z2:W8.cell? ⟨X,2,none⟩=some (zI 0):=Co hXm 2
    have y2:=Fo hXm 2
    have HR8:Hid (RdS w (W8.setCell ⟨X,2,none⟩ (zI sl)) R S st2 ((X,26,tV x (.slice ra rs.length rc) sl (.slice none 0 0) (.slice none 0 0) (.slice none 0 0)) :: (nbr ++ [(w§,26,tb0)]))):=hx.set 2 (zI sl)
    clear hXm hx cB HR6
    go_upto_region 12 with fail
    generalize World.setCell W8 _ _=W9 at HR8 ⊢
    clear z2 y2
    have cA:=rsignS HR8.out 1024 (by decide) HSZ.out
    rw [HSL.out.1] at cA
    obtain⟨r3,er3⟩:∃ q,sgnS 1024 l st2=q:=⟨_,rfl⟩
    have hI3:=sgnS_I 1024 l st2
    rw [er3] at cA hI3
    simp only [er3] at eRR
    obtain⟨cs,st3⟩:=r3
    simp only at eRR hI3
    have HI3:Hid (∀ z ∈ cs,I64 z):=hI3
    clear er3 hI3
    go_wp2_with fail
    refine cA.mono ?_
    rintro e W10 ⟨nbc,ca,cc,rfl,hx,_,hLc⟩
    have hx:RdS w W10 R S st3 (nbc ++ ((X,26,tV x (.slice ra rs.length rc) sl (.slice none 0 0) (.slice none 0 0) (.slice none 0 0)) :: (nbr ++ [(w§,26,tb0)]))):=hx
    have hXm:=hx.heap (x:=(X,26,tV x (.slice ra rs.length rc) sl (.slice none 0 0) (.slice none 0 0) (.slice none 0 0))) (by simp)
    have z3:W10.cell? ⟨X,3,none⟩=some (.slice none 0 0):=Co hXm 3
    have y3:=Fo hXm 3
    have HR10:Hid (RdS w (W10.setCell ⟨X,3,none⟩ (.slice ca cs.length cc)) R S st3 ((X,26,tV x (.slice ra rs.length rc) sl (.slice ca cs.length cc) (.slice none 0 0) (.slice none 0 0)) :: (nbc ++ (nbr ++ [(w§,26,tb0)])))):=hx.mid 3 (.slice ca cs.length cc)
    have HLc:Hid (Keep nbc (fun U=>SlAt U 1 ca cc (cs.map QF))):=hLc
    clear hXm hx hLc cA HR8
    go_upto_region 13 with fail
    generalize World.setCell W10 _ _=W11 at HR10 ⊢
    clear z3 y3
    have cB:=Q7 HR10.out 4096 (by decide) HSZ.out
    rw [HSL.out.1] at cB
    have hm:=Qk 4096 (by decide) l st3
    have hI4:=codeS_I l st3
    obtain⟨TC,eTC⟩:∃ q,codeS l st3=q:=⟨_,rfl⟩
    rw [eTC] at hI4
    simp only [eTC] at eRR
    have HI4:Hid (∀ d ∈ TC.1,B8 d.k∧I64 d.a):=hI4
    unfold codeS at eTC
    obtain⟨r4,er4⟩:∃ q,numS 4096 l st3=q:=⟨_,rfl⟩
    rw [er4] at cB hm eTC
    obtain⟨mc,st4⟩:=r4
    simp only at cB hm eTC
    obtain⟨Mc,eMc⟩:∃ M:Nat,mc=(M:Int):=⟨mc.toNat,by omega⟩
    subst eMc
    rw [Int.toNat_natCast] at eTC
    have HMc:Hid (Mc≤4096):=by show _≤_; omega
    have HTC:Hid ((([]:List InM) ++ (Qm (cdS l) (Mc - 0) 0 st4).1,(Qm (cdS l) (Mc - 0) 0 st4).2)=TC):=by
     show _=_
     rw [← eTC,Nat.sub_zero,List.nil_append]
    clear eTC er4 hm hI4
    obtain⟨bD,ebD⟩:∃ q,nbc ++ (nbr ++ [(w§,26,tb0)])=q:=⟨_,rfl⟩
    have HbD:Hid (nbc ++ (nbr ++ [(w§,26,tb0)])=bD):=ebD
    rw [ebD] at cB
    clear ebD HR10
    have HRR:Hid ((if (QZ l TC.2.2).2.2=some (l.length:Int) then some (mkTb ⟨x,rs,sl,cs,TC.1,(QZ l TC.2.2).1⟩) else none)=RR):=eRR
    clear eRR
    go_wp2_with fail
    refine cB.mono ?_
    rintro e W12 ⟨rfl,hx⟩
    have HR12:Hid (RdS w W12 R S st4 (([]:List Bx) ++ ((X,26,tV x (.slice ra rs.length rc) sl (.slice ca cs.length cc) (.slice none 0 0) (.slice none 0 0)) :: bD))):=hx
    clear cB hx
    go_wp2_with fail
    go_loopw [12] (fun q wr=>∃ (i:Nat) (st:Option Int) (ds:List InM) (nb:List Bx) (a:Option Addr) (c:Nat),i≤Mc∧q=zI i∧Hid (RdS w wr R S st (nb ++ ((X,26,tV x (.slice ra rs.length rc) sl (.slice ca cs.length cc) (.slice a ds.length c) (.slice none 0 0)) :: bD)))∧Hid (Lst w nb 61 2 (.slice a ds.length c) (ds.map InM.vals))∧Hid (ds.length=i)∧Hid ((ds ++ (Qm (cdS l) (Mc - i) 0 st).1,(Qm (cdS l) (Mc - i) 0 st).2)=TC)) (fun q _=>Mc - (intOf q).toNat)
    case atStart=>exact⟨0,st4,[],[],none,0,Nat.zero_le _,rfl,HR12,Lst.nil _ _ _,rfl,HTC⟩
    case round =>
     obtain⟨i,st,ds,nbd,da,dc,hi,rfl,HRr,HLd,HAd,HTd⟩:=hrel
     cases st with
     | none =>
      have cb:=HRr.out.bad
      have hTC:=Jt (.inl rfl) HTd.out
      have HTE:Hid (TC=(ds,0,none)):=hTC
      clear hTC HTd
      by_cases hlt:i < Mc
      ·have hlt':(i:Int) < (Mc:Int):=by omega
       obtain⟨p9,b9,hO9,hN9,k9⟩:=HRr.out.own HLd.out
       obtain⟨nbe,da2,dc2,ev9,hR9,_,hLB9⟩:=hO9.rds hN9 k9
       rw [List.length_map] at ev9
       injection ev9 with ev1 _ ev3
       subst ev1 ev3
       have HLd2:Hid (Keep nbe (fun U=>SlAt U 2 da dc (ds.map InM.vals))):=hLB9.keep
       have cS:=rstatesS hR9 HSZ.out
       rw [HSL.out.1] at cS
       have hI5:=statesS_I l none
       obtain⟨sts,est⟩:∃ q,QZ l none=q:=⟨_,rfl⟩
       rw [est] at cS hI5
       have HI5:Hid (∀ gs ∈ sts.1,∀ g ∈ gs,GdI g):=hI5
       have HRR2:Hid ((if sts.2.2=some (l.length:Int) then some (mkTb ⟨x,rs,sl,cs,ds,sts.1⟩) else none)=RR):=by
        have:=HRR.out
        rw [HTE.out] at this
        simp only [est] at this
        exact this
       have HI4':Hid (∀ d ∈ ds,B8 d.k∧I64 d.a):=by have:=HI4.out; rw [HTE.out] at this; exact this
       clear hO9 hN9 k9 hR9 hLB9 est hI5 HRr HLd
       go_wp2_with fail
       refine cS.mono ?_
       rintro e W20 ⟨nbt,nbs,xs,ta,tc,rfl,hx,hLt,hRel,hxl⟩
       obtain⟨ts0,hxs0,hts0,_⟩:=relsD_S hRel HI5.out
       have hn0:sts.1.length=ts0.length:=by rw [← hts0,List.length_map]
       rw [hn0]
       have hXm:=hx.heap (x:=(X,26,tV x (.slice ra rs.length rc) sl (.slice ca cs.length cc) (.slice da ds.length dc) (.slice none 0 0))) (by simp)
       have z5:W20.cell? ⟨X,5,none⟩=some (.slice none 0 0):=Co hXm 5
       have y5:=Fo hXm 5
       have hx2:RdS w W20 R S sts.2.2 ((nbt ++ (nbs ++ nbe)) ++ ((X,26,tV x (.slice ra rs.length rc) sl (.slice ca cs.length cc) (.slice da ds.length dc) (.slice none 0 0)) :: bD)):=by
        rw [List.append_assoc,List.append_assoc]; exact hx
       have HR20:Hid (RdS w (W20.setCell ⟨X,5,none⟩ (.slice ta ts0.length tc)) R S sts.2.2 ((X,26,tV x (.slice ra rs.length rc) sl (.slice ca cs.length cc) (.slice da ds.length dc) (.slice ta ts0.length tc)) :: ((nbt ++ (nbs ++ nbe)) ++ bD))):=hx2.mid 5 (.slice ta ts0.length tc)
       have HLt:Hid (JD nbt 69 1 ta tc xs):=hLt
       have HRel:Hid (Rels JC sts.1 xs nbs):=hRel
       have HN0:Hid (ts0.length=sts.1.length∧xs.length=ts0.length):=⟨hn0.symm,by rw [hxs0,List.length_map]⟩
       clear hXm hx hx2 cS hLt hRel cb hlt' hxs0 hts0 hn0 hxl
       go_upto_region 21 with fail
       generalize World.setCell W20 _ _=W21 at HR20 ⊢
       clear z5 y5
       have HDD:Hid (W21.heap[w§]? = some (.cells tb0 26 (0,0))):=HR20.out.heap (x:=(w§,26,tb0)) (by rw [← HbD.out]; simp)
       have HBB:Hid (Below w§ w W21):=HR20.out.below
       obtain⟨st5,est5⟩:∃ q,sts.2.2=q:=⟨_,rfl⟩
       rw [est5] at HR20 HRR2
       clear est5
       cases st5 with
       | none =>
        have cb:=HR20.out.bad
        have HNO:Hid (RR=none):=by have:=HRR2.out; rw [if_neg (by simp)] at this; exact this.symm
        have HNF:Hid ((W21.setRow w§ tb0).heap[w§]? = some (.cells tb0 26 (0,0))):=setRow_heap _ _ _ _ _ _ HDD.out
        have HBF:Hid (Below w§ w (W21.setRow w§ tb0)):=Qc HBB.out (Nat.le_refl _) _
        go_wp2_with (refine wpList_store_row rfl 26 (.tmp 2) (.tmp 98) rfl w§ tb0 rfl rfl 26 tb0 HDD.out Qe rfl Q6 ?_)
        rw [HNO.out]
        exact bodyPost_ret (Rt2 rfl _ _ w§ 26 tb0 (0,0) _ rfl HNF.out Tryz.underlying26 rfl Qe) rfl ⟨rfl,HBF.out⟩
       | some p5 =>
        have cb:=HR20.out.good
        have hRh:=(Bs.K HR20.out _ (List.mem_cons_self ..)).1
        have c1:W21.cell? ⟨R,1,none⟩=some (zI p5):=Co hRh 1
        clear hRh
        by_cases hp5:p5=(l.length:Int)
        ·have hp0:(p5 != (S.size:Int))=false:=by rw [hp5,HSL.out.2]; simp
         have HRR3:Hid (RR=some (mkTb ⟨x,rs,sl,cs,ds,sts.1⟩)):=by have:=HRR2.out; rw [if_pos (by rw [hp5])] at this; exact this.symm
         have HXX:Hid (W21.heap[X]? = some (.cells (TbM.vals ⟨x,ra,rc,rs,sl,ca,cc,cs,da,dc,ds,ta,tc,ts0⟩) 26 (0,0))):=HR20.out.heap (List.mem_cons_self ..)
         have hBm:Bs w W21 (nbt ++ (nbs ++ ((R,102,rdV S p5 false) :: (X,26,TbM.vals ⟨x,ra,rc,rs,sl,ca,cc,cs,da,dc,ds,ta,tc,ts0⟩) :: (nbe ++ bD)))):=Bs.perm HR20.out (QV (fun _ z=>by simp only [List.count_cons,List.count_append,tV,TbM.vals]; omega))
         have cM:=rmasks (⟨x,ra,rc,rs,sl,ca,cc,cs,da,dc,ds,ta,tc,ts0⟩:TbM) hBm (fun U hU=>HLd2.out U (fun q hq=>hU q (by simp [hq]))) HLt.out HRel.out HN0.out.1
         obtain⟨tvs,etv⟩:∃ q,TbM.vals ⟨x,ra,rc,rs,sl,ca,cc,cs,da,dc,ds,ta,tc,ts0⟩=q:=⟨_,rfl⟩
         have htall:tvs.all (·.oneCell')=true:=by rw [← etv]; exact JN _
         have htsz:tvs.size=6:=by rw [← etv]; rfl
         have HTV:Hid (TbM.vals ⟨x,ra,rc,rs,sl,ca,cc,cs,da,dc,ds,ta,tc,ts0⟩=tvs):=etv
         have HTA:Hid (tvs.all (·.oneCell')=true):=htall
         have HTZ:Hid ((Tryz.prog.info? 26).map (·.size)=some tvs.size):=by rw [htsz]; exact Qe
         rw [etv] at HXX cM
         clear hBm hp5 HR20 HRR2 HRR etv htall htsz
         go_upto_region 23 with fail
         clear cb c1 hp0
         go_wp2_with (refine wpList_load_row rfl 26 (.tmp 7) rfl X rfl 26 tvs (0,0) _ HXX.out Tryz.underlying26 rfl HTZ.out ?_)
         refine cM.mono ?_
         rintro e W30 ⟨rfl,nbs2,hB30,hRel2⟩
         obtain⟨ts1,hxs1,hts1,hK1⟩:=relsD_S hRel2 (fun gs hgs g hg=>by
          obtain⟨gs0,h0,rfl⟩:=List.mem_map.1 hgs
          obtain⟨g0,hg0,rfl⟩:=List.mem_map.1 hg
          exact mkG_I ds (HI5.out gs0 h0 g0 hg0))
         have hn1:ts1.length=ts0.length:=by rw [← HN0.out.2,hxs1,List.length_map]
         have hv1:TbM.vals ⟨x,ra,rc,rs,sl,ca,cc,cs,da,dc,ds,ta,tc,ts1⟩=tvs:=by rw [← HTV.out]; simp only [TbM.vals,hn1]
         have hXb:W30.heap[X]? = some (.cells tvs 26 (0,0)):=(hB30.K (X,26,tvs) (by simp)).1
         have HXb:Hid (W30.heap[X]? = some (.cells tvs 26 (0,0))):=hXb
         have hB31:Bs w (W30.setRow X tvs) ((X,26,tvs) :: (nbt ++ (nbs2 ++ ((R,102,rdV S p5 false) :: (nbe ++ bD))))):=Bs.row (cs:=tvs) (hB30.perm (QV (fun _ z=>by simp only [List.count_cons,List.count_append]; omega))) tvs
         have HB31:Hid (Bs w (W30.setRow X tvs) ((X,26,tvs) :: (nbt ++ (nbs2 ++ ((R,102,rdV S p5 false) :: (nbe ++ bD)))))):=hB31
         have HKT:Hid (Keep (nbt ++ (nbs2 ++ (nbe ++ (nbc ++ nbr)))) (fun U=>TbL U ⟨x,ra,rc,rs,sl,ca,cc,cs,da,dc,ds,ta,tc,ts1⟩)):=fun U hU=>by
          have k1:=HLr.out U (fun q hq=>hU q (by simp [hq]))
          have k2:=HLc.out U (fun q hq=>hU q (by simp [hq]))
          have k3:=HLd2.out U (fun q hq=>hU q (by simp [hq]))
          have k4:=HLt.out.keep U (fun q hq=>hU q (by simp [hq]))
          have k5:=hK1 U (fun q hq=>hU q (by simp [hq]))
          rw [hxs1] at k4
          exact⟨k1,HI1.out,HI2.out,k2,HI3.out,k3,HI4'.out,k4,k5,HXZ.out (by first | exact rfl | trivial)⟩
         have HIS:Hid (Is (mkTb ⟨x,rs,sl,cs,ds,sts.1⟩) ⟨x,ra,rc,rs,sl,ca,cc,cs,da,dc,ds,ta,tc,ts1⟩):=⟨rfl,rfl,rfl,rfl,rfl,hts1⟩
         have HV1:Hid (TbM.vals ⟨x,ra,rc,rs,sl,ca,cc,cs,da,dc,ds,ta,tc,ts1⟩=tvs):=hv1
         clear cM hB30 hRel2 hxs1 hts1 hK1 hn1 hv1 hXb hB31 HXX HDD HBB HLt HRel
         go_upto_region 24 with (refine wpList_store_row rfl 26 (.tmp 7) (.tmp 100) rfl X tvs rfl rfl 26 tvs HXb.out HTZ.out rfl HTA.out ?_)
         generalize World.setRow _ _ _=W31 at HB31 ⊢
         clear HXb
         have HX31:Hid (W31.heap[X]? = some (.cells tvs 26 (0,0))):=(HB31.out.K _ (List.mem_cons_self ..)).1
         have cK:=rcheck_any (⟨x,ra,rc,rs,sl,ca,cc,cs,da,dc,ds,ta,tc,ts1⟩:TbM) W31 (HKT.out W31 (fun q hq=>(HB31.out.K q (by
          rw [← HbD.out]
          simp only [List.mem_cons,List.mem_append] at hq ⊢
          rcases hq with h | h | h | h | h
          ·exact .inr (.inl h)
          ·exact .inr (.inr (.inl h))
          ·exact .inr (.inr (.inr (.inr (.inl h))))
          ·exact .inr (.inr (.inr (.inr (.inr (.inl h)))))
          ·exact .inr (.inr (.inr (.inr (.inr (.inr (.inl h)))))))).1))
         rw [HV1.out] at cK
         obtain⟨Ec,eEc⟩:∃ q,Qp ⟨x,ra,rc,rs,sl,ca,cc,cs,da,dc,ds,ta,tc,ts1⟩=q:=⟨_,rfl⟩
         rw [eEc] at cK
         have HEc:Hid (Qp ⟨x,ra,rc,rs,sl,ca,cc,cs,da,dc,ds,ta,tc,ts1⟩=Ec):=eEc
         clear eEc
         go_wp2_with (refine wpList_load_row rfl 26 (.tmp 7) rfl X rfl 26 tvs (0,0) _ HX31.out Tryz.underlying26 rfl HTZ.out ?_)
         refine cK.mono ?_
         rintro e W32 ⟨rfl,hb32⟩
         have HB32:Hid (Bs w W32 ((w§,26,tb0) :: (X,26,tvs) :: (nbt ++ (nbs2 ++ ((R,102,rdV S p5 false) :: (nbe ++ (nbc ++ nbr))))))):=(HB31.out.on hb32).perm (QV (fun _ z=>by rw [← HbD.out]; simp only [List.count_cons,List.count_append,List.count_nil]; omega))
         have HX32:Hid (W32.heap[X]? = some (.cells tvs 26 (0,0))):=(HB32.out.K (X,26,tvs) (by simp)).1
         have HD32:Hid (W32.heap[w§]? = some (.cells tb0 26 (0,0))):=(HB32.out.K _ (List.mem_cons_self ..)).1
         clear cK hb32 HB31 HX31
         by_cases hEc:Ec=0
         ·have hE0:(Ec != 0)=false:=by rw [hEc]; rfl
          have HNF:Hid ((W32.setRow w§ tvs).heap[w§]? = some (.cells tvs 26 (0,0))):=setRow_heap _ _ _ _ _ _ HD32.out
          have HOUT:Hid (∀ e,e=Ending.returned (.tuple #[.agg tvs,zI 0])→OutD w RR e (W32.setRow w§ tvs)):=by
           rintro e rfl
           have hBf:=HB32.out.row tvs
           rw [HRR3.out]
           refine⟨_,nbt ++ (nbs2 ++ (nbe ++ (nbc ++ nbr))),HIS.out,?_,hBf.B⟩
           rw [HEc.out,hEc]
           refine⟨by rw [HV1.out],HKT.out,fun q hq=>?_⟩
           exact hBf.K q (by
            simp only [List.mem_cons,List.mem_append] at hq ⊢
            rcases hq with h | h | h | h | h
            ·exact .inr (.inr (.inl h))
            ·exact .inr (.inr (.inr (.inl h)))
            ·exact .inr (.inr (.inr (.inr (.inr (.inl h)))))
            ·exact .inr (.inr (.inr (.inr (.inr (.inr (.inl h))))))
            ·exact .inr (.inr (.inr (.inr (.inr (.inr (.inr h)))))))
          clear hEc
          go_wp2_with (first | (refine wpList_load_row rfl 26 (.tmp 7) rfl X rfl 26 tvs (0,0) _ HX32.out Tryz.underlying26 rfl HTZ.out ?_) | (refine wpList_store_row rfl 26 (.tmp 2) (.tmp 105) rfl w§ tvs rfl rfl 26 tb0 HD32.out HTZ.out (by rw [show tvs.size=6 by have:=HTZ.out; rw [Qe] at this; injection this with this; exact this.symm]; rfl) HTA.out ?_))
          exact bodyPost_ret (Rt2 rfl _ _ w§ 26 tvs (0,0) _ rfl HNF.out Tryz.underlying26 rfl HTZ.out) rfl (HOUT.out _ rfl)
         ·have hE0:(Ec != 0)=true:=bne_iff_ne.2 hEc
          have HNF:Hid ((W32.setRow w§ tb0).heap[w§]? = some (.cells tb0 26 (0,0))):=setRow_heap _ _ _ _ _ _ HD32.out
          have HOUT:Hid (∀ e,e=Ending.returned (.tuple #[.agg tb0,zI 194])→OutD w RR e (W32.setRow w§ tb0)):=by
           rintro e rfl
           have hBf:=HB32.out.row tb0
           rw [HRR3.out]
           refine⟨_,[],HIS.out,?_,hBf.B⟩
           rw [HEc.out,if_neg (by simpa using hEc)]
          clear hEc
          go_wp2_with (refine wpList_store_row rfl 26 (.tmp 2) (.tmp 104) rfl w§ tb0 rfl rfl 26 tb0 HD32.out Qe rfl Q6 ?_)
          exact bodyPost_ret (Rt2 rfl _ _ w§ 26 tb0 (0,0) _ rfl HNF.out Tryz.underlying26 rfl Qe) rfl (HOUT.out _ rfl)
        ·have hp0:(p5 != (S.size:Int))=true:=by rw [HSL.out.2]; exact bne_iff_ne.2 hp5
         have HNO:Hid (RR=none):=by have:=HRR2.out; rw [if_neg (by simp; exact hp5)] at this; exact this.symm
         clear hp5
         have HNF:Hid ((W21.setRow w§ tb0).heap[w§]? = some (.cells tb0 26 (0,0))):=setRow_heap _ _ _ _ _ _ HDD.out
         have HBF:Hid (Below w§ w (W21.setRow w§ tb0)):=Qc HBB.out (Nat.le_refl _) _
         go_wp2_with (refine wpList_store_row rfl 26 (.tmp 2) (.tmp 98) rfl w§ tb0 rfl rfl 26 tb0 HDD.out Qe rfl Q6 ?_)
         rw [HNO.out]
         exact bodyPost_ret (Rt2 rfl _ _ w§ 26 tb0 (0,0) _ rfl HNF.out Tryz.underlying26 rfl Qe) rfl ⟨rfl,HBF.out⟩
      ·have hlt':¬ (i:Int) < (Mc:Int):=by omega
       obtain⟨p9,b9,hO9,hN9,k9⟩:=HRr.out.own HLd.out
       obtain⟨nbe,da2,dc2,ev9,hR9,_,hLB9⟩:=hO9.rds hN9 k9
       rw [List.length_map] at ev9
       injection ev9 with ev1 _ ev3
       subst ev1 ev3
       have HLd2:Hid (Keep nbe (fun U=>SlAt U 2 da dc (ds.map InM.vals))):=hLB9.keep
       have cS:=rstatesS hR9 HSZ.out
       rw [HSL.out.1] at cS
       have hI5:=statesS_I l none
       obtain⟨sts,est⟩:∃ q,QZ l none=q:=⟨_,rfl⟩
       rw [est] at cS hI5
       have HI5:Hid (∀ gs ∈ sts.1,∀ g ∈ gs,GdI g):=hI5
       have HRR2:Hid ((if sts.2.2=some (l.length:Int) then some (mkTb ⟨x,rs,sl,cs,ds,sts.1⟩) else none)=RR):=by
        have:=HRR.out
        rw [HTE.out] at this
        simp only [est] at this
        exact this
       have HI4':Hid (∀ d ∈ ds,B8 d.k∧I64 d.a):=by have:=HI4.out; rw [HTE.out] at this; exact this
       clear hO9 hN9 k9 hR9 hLB9 est hI5 HRr HLd
       go_wp2_with fail
       refine cS.mono ?_
       rintro e W20 ⟨nbt,nbs,xs,ta,tc,rfl,hx,hLt,hRel,hxl⟩
       obtain⟨ts0,hxs0,hts0,_⟩:=relsD_S hRel HI5.out
       have hn0:sts.1.length=ts0.length:=by rw [← hts0,List.length_map]
       rw [hn0]
       have hXm:=hx.heap (x:=(X,26,tV x (.slice ra rs.length rc) sl (.slice ca cs.length cc) (.slice da ds.length dc) (.slice none 0 0))) (by simp)
       have z5:W20.cell? ⟨X,5,none⟩=some (.slice none 0 0):=Co hXm 5
       have y5:=Fo hXm 5
       have hx2:RdS w W20 R S sts.2.2 ((nbt ++ (nbs ++ nbe)) ++ ((X,26,tV x (.slice ra rs.length rc) sl (.slice ca cs.length cc) (.slice da ds.length dc) (.slice none 0 0)) :: bD)):=by
        rw [List.append_assoc,List.append_assoc]; exact hx
       have HR20:Hid (RdS w (W20.setCell ⟨X,5,none⟩ (.slice ta ts0.length tc)) R S sts.2.2 ((X,26,tV x (.slice ra rs.length rc) sl (.slice ca cs.length cc) (.slice da ds.length dc) (.slice ta ts0.length tc)) :: ((nbt ++ (nbs ++ nbe)) ++ bD))):=hx2.mid 5 (.slice ta ts0.length tc)
       have HLt:Hid (JD nbt 69 1 ta tc xs):=hLt
       have HRel:Hid (Rels JC sts.1 xs nbs):=hRel
       have HN0:Hid (ts0.length=sts.1.length∧xs.length=ts0.length):=⟨hn0.symm,by rw [hxs0,List.length_map]⟩
       clear hXm hx hx2 cS hLt hRel cb hlt' hxs0 hts0 hn0 hxl
       go_upto_region 21 with fail
       generalize World.setCell W20 _ _=W21 at HR20 ⊢
       clear z5 y5
       have HDD:Hid (W21.heap[w§]? = some (.cells tb0 26 (0,0))):=HR20.out.heap (x:=(w§,26,tb0)) (by rw [← HbD.out]; simp)
       have HBB:Hid (Below w§ w W21):=HR20.out.below
       obtain⟨st5,est5⟩:∃ q,sts.2.2=q:=⟨_,rfl⟩
       rw [est5] at HR20 HRR2
       clear est5
       cases st5 with
       | none =>
        have cb:=HR20.out.bad
        have HNO:Hid (RR=none):=by have:=HRR2.out; rw [if_neg (by simp)] at this; exact this.symm
        have HNF:Hid ((W21.setRow w§ tb0).heap[w§]? = some (.cells tb0 26 (0,0))):=setRow_heap _ _ _ _ _ _ HDD.out
        have HBF:Hid (Below w§ w (W21.setRow w§ tb0)):=Qc HBB.out (Nat.le_refl _) _
        go_wp2_with (refine wpList_store_row rfl 26 (.tmp 2) (.tmp 98) rfl w§ tb0 rfl rfl 26 tb0 HDD.out Qe rfl Q6 ?_)
        rw [HNO.out]
        exact bodyPost_ret (Rt2 rfl _ _ w§ 26 tb0 (0,0) _ rfl HNF.out Tryz.underlying26 rfl Qe) rfl ⟨rfl,HBF.out⟩
       | some p5 =>
        have cb:=HR20.out.good
        have hRh:=(Bs.K HR20.out _ (List.mem_cons_self ..)).1
        have c1:W21.cell? ⟨R,1,none⟩=some (zI p5):=Co hRh 1
        clear hRh
        by_cases hp5:p5=(l.length:Int)
        ·have hp0:(p5 != (S.size:Int))=false:=by rw [hp5,HSL.out.2]; simp
         have HRR3:Hid (RR=some (mkTb ⟨x,rs,sl,cs,ds,sts.1⟩)):=by have:=HRR2.out; rw [if_pos (by rw [hp5])] at this; exact this.symm
         have HXX:Hid (W21.heap[X]? = some (.cells (TbM.vals ⟨x,ra,rc,rs,sl,ca,cc,cs,da,dc,ds,ta,tc,ts0⟩) 26 (0,0))):=HR20.out.heap (List.mem_cons_self ..)
         have hBm:Bs w W21 (nbt ++ (nbs ++ ((R,102,rdV S p5 false) :: (X,26,TbM.vals ⟨x,ra,rc,rs,sl,ca,cc,cs,da,dc,ds,ta,tc,ts0⟩) :: (nbe ++ bD)))):=Bs.perm HR20.out (QV (fun _ z=>by simp only [List.count_cons,List.count_append,tV,TbM.vals]; omega))
         have cM:=rmasks (⟨x,ra,rc,rs,sl,ca,cc,cs,da,dc,ds,ta,tc,ts0⟩:TbM) hBm (fun U hU=>HLd2.out U (fun q hq=>hU q (by simp [hq]))) HLt.out HRel.out HN0.out.1
         obtain⟨tvs,etv⟩:∃ q,TbM.vals ⟨x,ra,rc,rs,sl,ca,cc,cs,da,dc,ds,ta,tc,ts0⟩=q:=⟨_,rfl⟩
         have htall:tvs.all (·.oneCell')=true:=by rw [← etv]; exact JN _
         have htsz:tvs.size=6:=by rw [← etv]; rfl
         have HTV:Hid (TbM.vals ⟨x,ra,rc,rs,sl,ca,cc,cs,da,dc,ds,ta,tc,ts0⟩=tvs):=etv
         have HTA:Hid (tvs.all (·.oneCell')=true):=htall
         have HTZ:Hid ((Tryz.prog.info? 26).map (·.size)=some tvs.size):=by rw [htsz]; exact Qe
         rw [etv] at HXX cM
         clear hBm hp5 HR20 HRR2 HRR etv htall htsz
         go_upto_region 23 with fail
         clear cb c1 hp0
         go_wp2_with (refine wpList_load_row rfl 26 (.tmp 7) rfl X rfl 26 tvs (0,0) _ HXX.out Tryz.underlying26 rfl HTZ.out ?_)
         refine cM.mono ?_
         rintro e W30 ⟨rfl,nbs2,hB30,hRel2⟩
         obtain⟨ts1,hxs1,hts1,hK1⟩:=relsD_S hRel2 (fun gs hgs g hg=>by
          obtain⟨gs0,h0,rfl⟩:=List.mem_map.1 hgs
          obtain⟨g0,hg0,rfl⟩:=List.mem_map.1 hg
          exact mkG_I ds (HI5.out gs0 h0 g0 hg0))
         have hn1:ts1.length=ts0.length:=by rw [← HN0.out.2,hxs1,List.length_map]
         have hv1:TbM.vals ⟨x,ra,rc,rs,sl,ca,cc,cs,da,dc,ds,ta,tc,ts1⟩=tvs:=by rw [← HTV.out]; simp only [TbM.vals,hn1]
         have hXb:W30.heap[X]? = some (.cells tvs 26 (0,0)):=(hB30.K (X,26,tvs) (by simp)).1
         have HXb:Hid (W30.heap[X]? = some (.cells tvs 26 (0,0))):=hXb
         have hB31:Bs w (W30.setRow X tvs) ((X,26,tvs) :: (nbt ++ (nbs2 ++ ((R,102,rdV S p5 false) :: (nbe ++ bD))))):=Bs.row (cs:=tvs) (hB30.perm (QV (fun _ z=>by simp only [List.count_cons,List.count_append]; omega))) tvs
         have HB31:Hid (Bs w (W30.setRow X tvs) ((X,26,tvs) :: (nbt ++ (nbs2 ++ ((R,102,rdV S p5 false) :: (nbe ++ bD)))))):=hB31
         have HKT:Hid (Keep (nbt ++ (nbs2 ++ (nbe ++ (nbc ++ nbr)))) (fun U=>TbL U ⟨x,ra,rc,rs,sl,ca,cc,cs,da,dc,ds,ta,tc,ts1⟩)):=fun U hU=>by
          have k1:=HLr.out U (fun q hq=>hU q (by simp [hq]))
          have k2:=HLc.out U (fun q hq=>hU q (by simp [hq]))
          have k3:=HLd2.out U (fun q hq=>hU q (by simp [hq]))
          have k4:=HLt.out.keep U (fun q hq=>hU q (by simp [hq]))
          have k5:=hK1 U (fun q hq=>hU q (by simp [hq]))
          rw [hxs1] at k4
          exact⟨k1,HI1.out,HI2.out,k2,HI3.out,k3,HI4'.out,k4,k5,HXZ.out (by first | exact rfl | trivial)⟩
         have HIS:Hid (Is (mkTb ⟨x,rs,sl,cs,ds,sts.1⟩) ⟨x,ra,rc,rs,sl,ca,cc,cs,da,dc,ds,ta,tc,ts1⟩):=⟨rfl,rfl,rfl,rfl,rfl,hts1⟩
         have HV1:Hid (TbM.vals ⟨x,ra,rc,rs,sl,ca,cc,cs,da,dc,ds,ta,tc,ts1⟩=tvs):=hv1
         clear cM hB30 hRel2 hxs1 hts1 hK1 hn1 hv1 hXb hB31 HXX HDD HBB HLt HRel
         go_upto_region 24 with (refine wpList_store_row rfl 26 (.tmp 7) (.tmp 100) rfl X tvs rfl rfl 26 tvs HXb.out HTZ.out rfl HTA.out ?_)
         generalize World.setRow _ _ _=W31 at HB31 ⊢
         clear HXb
         have HX31:Hid (W31.heap[X]? = some (.cells tvs 26 (0,0))):=(HB31.out.K _ (List.mem_cons_self ..)).1
         have cK:=rcheck_any (⟨x,ra,rc,rs,sl,ca,cc,cs,da,dc,ds,ta,tc,ts1⟩:TbM) W31 (HKT.out W31 (fun q hq=>(HB31.out.K q (by
          rw [← HbD.out]
          simp only [List.mem_cons,List.mem_append] at hq ⊢
          rcases hq with h | h | h | h | h
          ·exact .inr (.inl h)
          ·exact .inr (.inr (.inl h))
          ·exact .inr (.inr (.inr (.inr (.inl h))))
          ·exact .inr (.inr (.inr (.inr (.inr (.inl h)))))
          ·exact .inr (.inr (.inr (.inr (.inr (.inr (.inl h)))))))).1))
         rw [HV1.out] at cK
         obtain⟨Ec,eEc⟩:∃ q,Qp ⟨x,ra,rc,rs,sl,ca,cc,cs,da,dc,ds,ta,tc,ts1⟩=q:=⟨_,rfl⟩
         rw [eEc] at cK
         have HEc:Hid (Qp ⟨x,ra,rc,rs,sl,ca,cc,cs,da,dc,ds,ta,tc,ts1⟩=Ec):=eEc
         clear eEc
         go_wp2_with (refine wpList_load_row rfl 26 (.tmp 7) rfl X rfl 26 tvs (0,0) _ HX31.out Tryz.underlying26 rfl HTZ.out ?_)
         refine cK.mono ?_
         rintro e W32 ⟨rfl,hb32⟩
         have HB32:Hid (Bs w W32 ((w§,26,tb0) :: (X,26,tvs) :: (nbt ++ (nbs2 ++ ((R,102,rdV S p5 false) :: (nbe ++ (nbc ++ nbr))))))):=(HB31.out.on hb32).perm (QV (fun _ z=>by rw [← HbD.out]; simp only [List.count_cons,List.count_append,List.count_nil]; omega))
         have HX32:Hid (W32.heap[X]? = some (.cells tvs 26 (0,0))):=(HB32.out.K (X,26,tvs) (by simp)).1
         have HD32:Hid (W32.heap[w§]? = some (.cells tb0 26 (0,0))):=(HB32.out.K _ (List.mem_cons_self ..)).1
         clear cK hb32 HB31 HX31
         by_cases hEc:Ec=0
         ·have hE0:(Ec != 0)=false:=by rw [hEc]; rfl
          have HNF:Hid ((W32.setRow w§ tvs).heap[w§]? = some (.cells tvs 26 (0,0))):=setRow_heap _ _ _ _ _ _ HD32.out
          have HOUT:Hid (∀ e,e=Ending.returned (.tuple #[.agg tvs,zI 0])→OutD w RR e (W32.setRow w§ tvs)):=by
           rintro e rfl
           have hBf:=HB32.out.row tvs
           rw [HRR3.out]
           refine⟨_,nbt ++ (nbs2 ++ (nbe ++ (nbc ++ nbr))),HIS.out,?_,hBf.B⟩
           rw [HEc.out,hEc]
           refine⟨by rw [HV1.out],HKT.out,fun q hq=>?_⟩
           exact hBf.K q (by
            simp only [List.mem_cons,List.mem_append] at hq ⊢
            rcases hq with h | h | h | h | h
            ·exact .inr (.inr (.inl h))
            ·exact .inr (.inr (.inr (.inl h)))
            ·exact .inr (.inr (.inr (.inr (.inr (.inl h)))))
            ·exact .inr (.inr (.inr (.inr (.inr (.inr (.inl h))))))
            ·exact .inr (.inr (.inr (.inr (.inr (.inr (.inr h)))))))
          clear hEc
          go_wp2_with (first | (refine wpList_load_row rfl 26 (.tmp 7) rfl X rfl 26 tvs (0,0) _ HX32.out Tryz.underlying26 rfl HTZ.out ?_) | (refine wpList_store_row rfl 26 (.tmp 2) (.tmp 105) rfl w§ tvs rfl rfl 26 tb0 HD32.out HTZ.out (by rw [show tvs.size=6 by have:=HTZ.out; rw [Qe] at this; injection this with this; exact this.symm]; rfl) HTA.out ?_))
          exact bodyPost_ret (Rt2 rfl _ _ w§ 26 tvs (0,0) _ rfl HNF.out Tryz.underlying26 rfl HTZ.out) rfl (HOUT.out _ rfl)
         ·have hE0:(Ec != 0)=true:=bne_iff_ne.2 hEc
          have HNF:Hid ((W32.setRow w§ tb0).heap[w§]? = some (.cells tb0 26 (0,0))):=setRow_heap _ _ _ _ _ _ HD32.out
          have HOUT:Hid (∀ e,e=Ending.returned (.tuple #[.agg tb0,zI 194])→OutD w RR e (W32.setRow w§ tb0)):=by
           rintro e rfl
           have hBf:=HB32.out.row tb0
           rw [HRR3.out]
           refine⟨_,[],HIS.out,?_,hBf.B⟩
           rw [HEc.out,if_neg (by simpa using hEc)]
          clear hEc
          go_wp2_with (refine wpList_store_row rfl 26 (.tmp 2) (.tmp 104) rfl w§ tb0 rfl rfl 26 tb0 HD32.out Qe rfl Q6 ?_)
          exact bodyPost_ret (Rt2 rfl _ _ w§ 26 tb0 (0,0) _ rfl HNF.out Tryz.underlying26 rfl Qe) rfl (HOUT.out _ rfl)
        ·have hp0:(p5 != (S.size:Int))=true:=by rw [HSL.out.2]; exact bne_iff_ne.2 hp5
         have HNO:Hid (RR=none):=by have:=HRR2.out; rw [if_neg (by simp; exact hp5)] at this; exact this.symm
         clear hp5
         have HNF:Hid ((W21.setRow w§ tb0).heap[w§]? = some (.cells tb0 26 (0,0))):=setRow_heap _ _ _ _ _ _ HDD.out
         have HBF:Hid (Below w§ w (W21.setRow w§ tb0)):=Qc HBB.out (Nat.le_refl _) _
         go_wp2_with (refine wpList_store_row rfl 26 (.tmp 2) (.tmp 98) rfl w§ tb0 rfl rfl 26 tb0 HDD.out Qe rfl Q6 ?_)
         rw [HNO.out]
         exact bodyPost_ret (Rt2 rfl _ _ w§ 26 tb0 (0,0) _ rfl HNF.out Tryz.underlying26 rfl Qe) rfl ⟨rfl,HBF.out⟩
     | some pc =>
      by_cases hlt:i < Mc
      ·have hlt':(i:Int) < (Mc:Int):=by omega
       have hmx:(i:Int)+1≤9223372036854775807:=by have:=HMc.out; omega
       have cb:=HRr.out.good
       have HTJ:Hid (((ds ++ [(cdS l 0 (some pc)).1]) ++ (Qm (cdS l) (Mc - (i+1)) (cdS l 0 (some pc)).2.1 (cdS l 0 (some pc)).2.2).1,(Qm (cdS l) (Mc - (i+1)) (cdS l 0 (some pc)).2.1 (cdS l 0 (some pc)).2.2).2)=TC):=Ke hlt HTd.out
       have c1:=Q7 HRr.out 9 (by decide) HSZ.out
       rw [HSL.out.1] at c1
       have hk:=Qk 9 (by decide) l (some pc)
       obtain⟨kk,ek⟩:∃ q,(numS 9 l (some pc)).1=q:=⟨_,rfl⟩
       obtain⟨sk,esk⟩:∃ q,(numS 9 l (some pc)).2=q:=⟨_,rfl⟩
       rw [ek,esk] at c1
       rw [ek] at hk
       have HC2:Hid (∀ v bs,RdS w v R S sk bs→Calls zG 46 #[zP R,.int .u64 4096] v fun e V'=>e=.returned (zI (numS 4096 l sk).1)∧RdS w V' R S (numS 4096 l sk).2 bs):=fun v bs hv=>by have:=Q7 hv 4096 (by decide) HSZ.out; rw [HSL.out.1] at this; exact this
       obtain⟨aa,ea⟩:∃ q,(numS 4096 l sk).1=q:=⟨_,rfl⟩
       obtain⟨sa,esa⟩:∃ q,(numS 4096 l sk).2=q:=⟨_,rfl⟩
       rw [ea,esa] at HC2
       unfold cdS at HTJ
       simp only [ek,esk,ea,esa] at HTJ
       have HKB:Hid (0≤kk∧kk≤9):=hk
       clear ek esk ea esa HTd hk
       go_wp2_with fail
       refine c1.mono ?_
       rintro e W13 ⟨rfl,hx⟩
       have c2:=HC2.out W13 _ hx
       clear c1 hx cb HRr
       go_wp2_with fail
       refine c2.mono ?_
       rintro e W14 ⟨rfl,hx⟩
       have hXm:=hx.heap (x:=(X,26,tV x (.slice ra rs.length rc) sl (.slice ca cs.length cc) (.slice da ds.length dc) (.slice none 0 0))) (by simp)
       have z4:W14.cell? ⟨X,4,none⟩=some (.slice da ds.length dc):=Co hXm 4
       obtain⟨p8,b8,hO8,hN8,k8⟩:=hx.own HLd.out
       have HO:Hid (OwnK w W14 ((R,102,rdV S p8 b8) :: ((X,26,tV x (.slice ra rs.length rc) sl (.slice ca cs.length cc) (.slice da ds.length dc) (.slice none 0 0)) :: bD)) 61 2 (.slice da ds.length dc) (ds.map InM.vals)):=hO8
       have HND:Hid ((((R,102,rdV S p8 b8) :: ((X,26,tV x (.slice ra rs.length rc) sl (.slice ca cs.length cc) (.slice da ds.length dc) (.slice none 0 0)) :: bD):List Bx).map (·.1)).Nodup∧(sa=some p8∧b8=false∨sa=none∧b8=true)):=⟨hN8,k8⟩
       have HLL:Hid ((ds.map InM.vals).length≤1000000):=by have h1:=HAd.out; have h2:=HMc.out; show _≤_; rw [List.length_map]; omega
       have b1:0≤kk:=HKB.out.1
       have b2:kk≤255:=by have:=HKB.out.2; omega
       clear hx hXm hO8 hN8 k8 c2 HC2
       go_wp2_with (first | (refine QO rfl 23 61 (.tmp 78) rfl #[zU kk,zI aa] rfl 2 _ Tryz.underlying23 16 inf61 rfl rfl (by decide) (by decide) ?_) | (refine Je HO.out 23 #[zU kk,zI aa] rfl (by simp [Value.oneCell']) _ 16 Tryz.underlying23 inf61 rfl (by decide) HLL.out (by decide) rfl (.tmp 74) (.tmp 79) rfl rfl rfl ?_; intro g7 cap7 w7 HO7; have xg:w7.cell? ⟨X,4,none⟩=some (.slice da ds.length dc):=Co (HO7.less.box) 4; have yg:w7.frozen? ⟨X,4,none⟩=false:=Fo (HO7.less.box) 4))
       obtain⟨nb6,a6,c6,ev6,hR6,hL6,_⟩:=OwnK.rds HO7 HND.out.1 HND.out.2
       rw [List.length_map] at hL6
       have hR9:=(hR6.mid 4 (.slice (some ⟨g7,0,none⟩) (ds.length+1) cap7)).perm (List.perm_middle.symm:((X,26,_) :: (nb6 ++ bD)).Perm (nb6 ++ ((X,26,_) :: bD)))
       exact⟨⟨i+1,sa,ds ++ [⟨kk,aa⟩],nb6,some ⟨g7,0,none⟩,cap7,hlt,rfl,by rw [List.length_append,List.length_singleton]; exact hR9,by rw [List.length_append,List.length_singleton,List.map_append]; exact hL6,by show _=_; rw [List.length_append,List.length_singleton,HAd.out],HTJ⟩,by simp only [intOf]; omega⟩
      ·have hlt':¬ (i:Int) < (Mc:Int):=by omega
       have cb:=HRr.out.good
       have hTC:=Jt (.inr (by omega)) HTd.out
       have HTE:Hid (TC=(ds,0,some pc)):=hTC
       clear hTC HTd
       obtain⟨p9,b9,hO9,hN9,k9⟩:=HRr.out.own HLd.out
       obtain⟨nbe,da2,dc2,ev9,hR9,_,hLB9⟩:=hO9.rds hN9 k9
       rw [List.length_map] at ev9
       injection ev9 with ev1 _ ev3
       subst ev1 ev3
       have HLd2:Hid (Keep nbe (fun U=>SlAt U 2 da dc (ds.map InM.vals))):=hLB9.keep
       have cS:=rstatesS hR9 HSZ.out
       rw [HSL.out.1] at cS
       have hI5:=statesS_I l (some pc)
       obtain⟨sts,est⟩:∃ q,QZ l (some pc)=q:=⟨_,rfl⟩
       rw [est] at cS hI5
       have HI5:Hid (∀ gs ∈ sts.1,∀ g ∈ gs,GdI g):=hI5
       have HRR2:Hid ((if sts.2.2=some (l.length:Int) then some (mkTb ⟨x,rs,sl,cs,ds,sts.1⟩) else none)=RR):=by
        have:=HRR.out
        rw [HTE.out] at this
        simp only [est] at this
        exact this
       have HI4':Hid (∀ d ∈ ds,B8 d.k∧I64 d.a):=by have:=HI4.out; rw [HTE.out] at this; exact this
       clear hO9 hN9 k9 hR9 hLB9 est hI5 HRr HLd
       go_wp2_with fail
       refine cS.mono ?_
       rintro e W20 ⟨nbt,nbs,xs,ta,tc,rfl,hx,hLt,hRel,hxl⟩
       obtain⟨ts0,hxs0,hts0,_⟩:=relsD_S hRel HI5.out
       have hn0:sts.1.length=ts0.length:=by rw [← hts0,List.length_map]
       rw [hn0]
       have hXm:=hx.heap (x:=(X,26,tV x (.slice ra rs.length rc) sl (.slice ca cs.length cc) (.slice da ds.length dc) (.slice none 0 0))) (by simp)
       have z5:W20.cell? ⟨X,5,none⟩=some (.slice none 0 0):=Co hXm 5
       have y5:=Fo hXm 5
       have hx2:RdS w W20 R S sts.2.2 ((nbt ++ (nbs ++ nbe)) ++ ((X,26,tV x (.slice ra rs.length rc) sl (.slice ca cs.length cc) (.slice da ds.length dc) (.slice none 0 0)) :: bD)):=by
        rw [List.append_assoc,List.append_assoc]; exact hx
       have HR20:Hid (RdS w (W20.setCell ⟨X,5,none⟩ (.slice ta ts0.length tc)) R S sts.2.2 ((X,26,tV x (.slice ra rs.length rc) sl (.slice ca cs.length cc) (.slice da ds.length dc) (.slice ta ts0.length tc)) :: ((nbt ++ (nbs ++ nbe)) ++ bD))):=hx2.mid 5 (.slice ta ts0.length tc)
       have HLt:Hid (JD nbt 69 1 ta tc xs):=hLt
       have HRel:Hid (Rels JC sts.1 xs nbs):=hRel
       have HN0:Hid (ts0.length=sts.1.length∧xs.length=ts0.length):=⟨hn0.symm,by rw [hxs0,List.length_map]⟩
       clear hXm hx hx2 cS hLt hRel cb hlt' hxs0 hts0 hn0 hxl
       go_upto_region 21 with fail
       generalize World.setCell W20 _ _=W21 at HR20 ⊢
       clear z5 y5
       have HDD:Hid (W21.heap[w§]? = some (.cells tb0 26 (0,0))):=HR20.out.heap (x:=(w§,26,tb0)) (by rw [← HbD.out]; simp)
       have HBB:Hid (Below w§ w W21):=HR20.out.below
       obtain⟨st5,est5⟩:∃ q,sts.2.2=q:=⟨_,rfl⟩
       rw [est5] at HR20 HRR2
       clear est5
       cases st5 with
       | none =>
        have cb:=HR20.out.bad
        have HNO:Hid (RR=none):=by have:=HRR2.out; rw [if_neg (by simp)] at this; exact this.symm
        have HNF:Hid ((W21.setRow w§ tb0).heap[w§]? = some (.cells tb0 26 (0,0))):=setRow_heap _ _ _ _ _ _ HDD.out
        have HBF:Hid (Below w§ w (W21.setRow w§ tb0)):=Qc HBB.out (Nat.le_refl _) _
        go_wp2_with (refine wpList_store_row rfl 26 (.tmp 2) (.tmp 98) rfl w§ tb0 rfl rfl 26 tb0 HDD.out Qe rfl Q6 ?_)
        rw [HNO.out]
        exact bodyPost_ret (Rt2 rfl _ _ w§ 26 tb0 (0,0) _ rfl HNF.out Tryz.underlying26 rfl Qe) rfl ⟨rfl,HBF.out⟩
       | some p5 =>
        have cb:=HR20.out.good
        have hRh:=(Bs.K HR20.out _ (List.mem_cons_self ..)).1
        have c1:W21.cell? ⟨R,1,none⟩=some (zI p5):=Co hRh 1
        clear hRh
        by_cases hp5:p5=(l.length:Int)
        ·have hp0:(p5 != (S.size:Int))=false:=by rw [hp5,HSL.out.2]; simp
         have HRR3:Hid (RR=some (mkTb ⟨x,rs,sl,cs,ds,sts.1⟩)):=by have:=HRR2.out; rw [if_pos (by rw [hp5])] at this; exact this.symm
         have HXX:Hid (W21.heap[X]? = some (.cells (TbM.vals ⟨x,ra,rc,rs,sl,ca,cc,cs,da,dc,ds,ta,tc,ts0⟩) 26 (0,0))):=HR20.out.heap (List.mem_cons_self ..)
         have hBm:Bs w W21 (nbt ++ (nbs ++ ((R,102,rdV S p5 false) :: (X,26,TbM.vals ⟨x,ra,rc,rs,sl,ca,cc,cs,da,dc,ds,ta,tc,ts0⟩) :: (nbe ++ bD)))):=Bs.perm HR20.out (QV (fun _ z=>by simp only [List.count_cons,List.count_append,tV,TbM.vals]; omega))
         have cM:=rmasks (⟨x,ra,rc,rs,sl,ca,cc,cs,da,dc,ds,ta,tc,ts0⟩:TbM) hBm (fun U hU=>HLd2.out U (fun q hq=>hU q (by simp [hq]))) HLt.out HRel.out HN0.out.1
         obtain⟨tvs,etv⟩:∃ q,TbM.vals ⟨x,ra,rc,rs,sl,ca,cc,cs,da,dc,ds,ta,tc,ts0⟩=q:=⟨_,rfl⟩
         have htall:tvs.all (·.oneCell')=true:=by rw [← etv]; exact JN _
         have htsz:tvs.size=6:=by rw [← etv]; rfl
         have HTV:Hid (TbM.vals ⟨x,ra,rc,rs,sl,ca,cc,cs,da,dc,ds,ta,tc,ts0⟩=tvs):=etv
         have HTA:Hid (tvs.all (·.oneCell')=true):=htall
         have HTZ:Hid ((Tryz.prog.info? 26).map (·.size)=some tvs.size):=by rw [htsz]; exact Qe
         rw [etv] at HXX cM
         clear hBm hp5 HR20 HRR2 HRR etv htall htsz
         go_upto_region 23 with fail
         clear cb c1 hp0
         go_wp2_with (refine wpList_load_row rfl 26 (.tmp 7) rfl X rfl 26 tvs (0,0) _ HXX.out Tryz.underlying26 rfl HTZ.out ?_)
         refine cM.mono ?_
         rintro e W30 ⟨rfl,nbs2,hB30,hRel2⟩
         obtain⟨ts1,hxs1,hts1,hK1⟩:=relsD_S hRel2 (fun gs hgs g hg=>by
          obtain⟨gs0,h0,rfl⟩:=List.mem_map.1 hgs
          obtain⟨g0,hg0,rfl⟩:=List.mem_map.1 hg
          exact mkG_I ds (HI5.out gs0 h0 g0 hg0))
         have hn1:ts1.length=ts0.length:=by rw [← HN0.out.2,hxs1,List.length_map]
         have hv1:TbM.vals ⟨x,ra,rc,rs,sl,ca,cc,cs,da,dc,ds,ta,tc,ts1⟩=tvs:=by rw [← HTV.out]; simp only [TbM.vals,hn1]
         have hXb:W30.heap[X]? = some (.cells tvs 26 (0,0)):=(hB30.K (X,26,tvs) (by simp)).1
         have HXb:Hid (W30.heap[X]? = some (.cells tvs 26 (0,0))):=hXb
         have hB31:Bs w (W30.setRow X tvs) ((X,26,tvs) :: (nbt ++ (nbs2 ++ ((R,102,rdV S p5 false) :: (nbe ++ bD))))):=Bs.row (cs:=tvs) (hB30.perm (QV (fun _ z=>by simp only [List.count_cons,List.count_append]; omega))) tvs
         have HB31:Hid (Bs w (W30.setRow X tvs) ((X,26,tvs) :: (nbt ++ (nbs2 ++ ((R,102,rdV S p5 false) :: (nbe ++ bD)))))):=hB31
         have HKT:Hid (Keep (nbt ++ (nbs2 ++ (nbe ++ (nbc ++ nbr)))) (fun U=>TbL U ⟨x,ra,rc,rs,sl,ca,cc,cs,da,dc,ds,ta,tc,ts1⟩)):=fun U hU=>by
          have k1:=HLr.out U (fun q hq=>hU q (by simp [hq]))
          have k2:=HLc.out U (fun q hq=>hU q (by simp [hq]))
          have k3:=HLd2.out U (fun q hq=>hU q (by simp [hq]))
          have k4:=HLt.out.keep U (fun q hq=>hU q (by simp [hq]))
          have k5:=hK1 U (fun q hq=>hU q (by simp [hq]))
          rw [hxs1] at k4
          exact⟨k1,HI1.out,HI2.out,k2,HI3.out,k3,HI4'.out,k4,k5,HXZ.out (by first | exact rfl | trivial)⟩
         have HIS:Hid (Is (mkTb ⟨x,rs,sl,cs,ds,sts.1⟩) ⟨x,ra,rc,rs,sl,ca,cc,cs,da,dc,ds,ta,tc,ts1⟩):=⟨rfl,rfl,rfl,rfl,rfl,hts1⟩
         have HV1:Hid (TbM.vals ⟨x,ra,rc,rs,sl,ca,cc,cs,da,dc,ds,ta,tc,ts1⟩=tvs):=hv1
         clear cM hB30 hRel2 hxs1 hts1 hK1 hn1 hv1 hXb hB31 HXX HDD HBB HLt HRel
         go_upto_region 24 with (refine wpList_store_row rfl 26 (.tmp 7) (.tmp 100) rfl X tvs rfl rfl 26 tvs HXb.out HTZ.out rfl HTA.out ?_)
         generalize World.setRow _ _ _=W31 at HB31 ⊢
         clear HXb
         have HX31:Hid (W31.heap[X]? = some (.cells tvs 26 (0,0))):=(HB31.out.K _ (List.mem_cons_self ..)).1
         have cK:=rcheck_any (⟨x,ra,rc,rs,sl,ca,cc,cs,da,dc,ds,ta,tc,ts1⟩:TbM) W31 (HKT.out W31 (fun q hq=>(HB31.out.K q (by
          rw [← HbD.out]
          simp only [List.mem_cons,List.mem_append] at hq ⊢
          rcases hq with h | h | h | h | h
          ·exact .inr (.inl h)
          ·exact .inr (.inr (.inl h))
          ·exact .inr (.inr (.inr (.inr (.inl h))))
          ·exact .inr (.inr (.inr (.inr (.inr (.inl h)))))
          ·exact .inr (.inr (.inr (.inr (.inr (.inr (.inl h)))))))).1))
         rw [HV1.out] at cK
         obtain⟨Ec,eEc⟩:∃ q,Qp ⟨x,ra,rc,rs,sl,ca,cc,cs,da,dc,ds,ta,tc,ts1⟩=q:=⟨_,rfl⟩
         rw [eEc] at cK
         have HEc:Hid (Qp ⟨x,ra,rc,rs,sl,ca,cc,cs,da,dc,ds,ta,tc,ts1⟩=Ec):=eEc
         clear eEc
         go_wp2_with (refine wpList_load_row rfl 26 (.tmp 7) rfl X rfl 26 tvs (0,0) _ HX31.out Tryz.underlying26 rfl HTZ.out ?_)
         refine cK.mono ?_
         rintro e W32 ⟨rfl,hb32⟩
         have HB32:Hid (Bs w W32 ((w§,26,tb0) :: (X,26,tvs) :: (nbt ++ (nbs2 ++ ((R,102,rdV S p5 false) :: (nbe ++ (nbc ++ nbr))))))):=(HB31.out.on hb32).perm (QV (fun _ z=>by rw [← HbD.out]; simp only [List.count_cons,List.count_append,List.count_nil]; omega))
         have HX32:Hid (W32.heap[X]? = some (.cells tvs 26 (0,0))):=(HB32.out.K (X,26,tvs) (by simp)).1
         have HD32:Hid (W32.heap[w§]? = some (.cells tb0 26 (0,0))):=(HB32.out.K _ (List.mem_cons_self ..)).1
         clear cK hb32 HB31 HX31
         by_cases hEc:Ec=0
         ·have hE0:(Ec != 0)=false:=by rw [hEc]; rfl
          have HNF:Hid ((W32.setRow w§ tvs).heap[w§]? = some (.cells tvs 26 (0,0))):=setRow_heap _ _ _ _ _ _ HD32.out
          have HOUT:Hid (∀ e,e=Ending.returned (.tuple #[.agg tvs,zI 0])→OutD w RR e (W32.setRow w§ tvs)):=by
           rintro e rfl
           have hBf:=HB32.out.row tvs
           rw [HRR3.out]
           refine⟨_,nbt ++ (nbs2 ++ (nbe ++ (nbc ++ nbr))),HIS.out,?_,hBf.B⟩
           rw [HEc.out,hEc]
           refine⟨by rw [HV1.out],HKT.out,fun q hq=>?_⟩
           exact hBf.K q (by
            simp only [List.mem_cons,List.mem_append] at hq ⊢
            rcases hq with h | h | h | h | h
            ·exact .inr (.inr (.inl h))
            ·exact .inr (.inr (.inr (.inl h)))
            ·exact .inr (.inr (.inr (.inr (.inr (.inl h)))))
            ·exact .inr (.inr (.inr (.inr (.inr (.inr (.inl h))))))
            ·exact .inr (.inr (.inr (.inr (.inr (.inr (.inr h)))))))
          clear hEc
          go_wp2_with (first | (refine wpList_load_row rfl 26 (.tmp 7) rfl X rfl 26 tvs (0,0) _ HX32.out Tryz.underlying26 rfl HTZ.out ?_) | (refine wpList_store_row rfl 26 (.tmp 2) (.tmp 105) rfl w§ tvs rfl rfl 26 tb0 HD32.out HTZ.out (by rw [show tvs.size=6 by have:=HTZ.out; rw [Qe] at this; injection this with this; exact this.symm]; rfl) HTA.out ?_))
          exact bodyPost_ret (Rt2 rfl _ _ w§ 26 tvs (0,0) _ rfl HNF.out Tryz.underlying26 rfl HTZ.out) rfl (HOUT.out _ rfl)
         ·have hE0:(Ec != 0)=true:=bne_iff_ne.2 hEc
          have HNF:Hid ((W32.setRow w§ tb0).heap[w§]? = some (.cells tb0 26 (0,0))):=setRow_heap _ _ _ _ _ _ HD32.out
          have HOUT:Hid (∀ e,e=Ending.returned (.tuple #[.agg tb0,zI 194])→OutD w RR e (W32.setRow w§ tb0)):=by
           rintro e rfl
           have hBf:=HB32.out.row tb0
           rw [HRR3.out]
           refine⟨_,[],HIS.out,?_,hBf.B⟩
           rw [HEc.out,if_neg (by simpa using hEc)]
          clear hEc
          go_wp2_with (refine wpList_store_row rfl 26 (.tmp 2) (.tmp 104) rfl w§ tb0 rfl rfl 26 tb0 HD32.out Qe rfl Q6 ?_)
          exact bodyPost_ret (Rt2 rfl _ _ w§ 26 tb0 (0,0) _ rfl HNF.out Tryz.underlying26 rfl Qe) rfl (HOUT.out _ rfl)
        ·have hp0:(p5 != (S.size:Int))=true:=by rw [HSL.out.2]; exact bne_iff_ne.2 hp5
         have HNO:Hid (RR=none):=by have:=HRR2.out; rw [if_neg (by simp; exact hp5)] at this; exact this.symm
         clear hp5
         have HNF:Hid ((W21.setRow w§ tb0).heap[w§]? = some (.cells tb0 26 (0,0))):=setRow_heap _ _ _ _ _ _ HDD.out
         have HBF:Hid (Below w§ w (W21.setRow w§ tb0)):=Qc HBB.out (Nat.le_refl _) _
         go_wp2_with (refine wpList_store_row rfl 26 (.tmp 2) (.tmp 98) rfl w§ tb0 rfl rfl 26 tb0 HDD.out Qe rfl Q6 ?_)
         rw [HNO.out]
         exact bodyPost_ret (Rt2 rfl _ _ w§ 26 tb0 (0,0) _ rfl HNF.out Tryz.underlying26 rfl Qe) rfl ⟨rfl,HBF.out⟩
   ·have hE0:(((E2:Nat):Int) != 0)=true:=bne_iff_ne.2 (by omega)
    rw [if_neg hE2] at eRR
    have HNO:Hid (RR=none):=eRR.symm
    have hDm:((w§,26,tb0):Bx) ∈ ((X,26,tb0) :: [(w§,26,tb0)]:List Bx):=by simp
    have HDD:Hid (W3'.heap[w§]? = some (.cells tb0 26 (0,0))):=(HB3.out.K _ hDm).1
    have HBB:Hid (Below w§ w W3'):=HB3.out.B
    clear eRR hE2 hDm
    have HNF:Hid ((W3'.setRow w§ tb0).heap[w§]? = some (.cells tb0 26 (0,0))):=setRow_heap _ _ _ _ _ _ HDD.out
    have HBF:Hid (Below w§ w (W3'.setRow w§ tb0)):=Qc HBB.out (Nat.le_refl _) _
    go_wp2_with (refine wpList_store_row rfl 26 (.tmp 2) (.tmp 39) rfl w§ tb0 rfl rfl 26 tb0 HDD.out Qe rfl Q6 ?_)
    rw [HNO.out]
    exact bodyPost_ret (Rt2 rfl _ _ w§ 26 tb0 (0,0) _ rfl HNF.out Tryz.underlying26 rfl Qe) rfl ⟨rfl,HBF.out⟩
  ·have hP0:(P != (b.size:Int))=true:=bne_iff_ne.2 hP
   rw [if_neg (by simpa using hP)] at eRR
   have HNO:Hid (RR=none):=eRR.symm
   clear eRR hP
   have HNF:Hid ((W2.setRow w§ tb0).heap[w§]? = some (.cells tb0 26 (0,0))):=setRow_heap _ _ _ _ _ _ HN2.out
   have HBF:Hid (Below w§ w (W2.setRow w§ tb0)):=Qc HB2.out (Nat.le_refl _) _
   go_wp2_with (refine wpList_store_row rfl 26 (.tmp 2) (.tmp 29) rfl w§ tb0 rfl rfl 26 tb0 HN2.out Qe rfl Q6 ?_)
   rw [HNO.out]
   exact bodyPost_ret (Rt2 rfl _ _ w§ 26 tb0 (0,0) _ rfl HNF.out Tryz.underlying26 rfl Qe) rfl ⟨rfl,HBF.out⟩
 ·have hE0:(((E:Nat):Int) != 0)=true:=bne_iff_ne.2 (by omega)
  rw [if_neg hE] at eRR
  have HNO:Hid (RR=none):=eRR.symm
  clear eRR hE
  have HNF:Hid ((W2.setRow w§ tb0).heap[w§]? = some (.cells tb0 26 (0,0))):=setRow_heap _ _ _ _ _ _ HN2.out
  have HBF:Hid (Below w§ w (W2.setRow w§ tb0)):=Qc HB2.out (Nat.le_refl _) _
  go_wp2_with (refine wpList_store_row rfl 26 (.tmp 2) (.tmp 29) rfl w§ tb0 rfl rfl 26 tb0 HN2.out Qe rfl Q6 ?_)
  rw [HNO.out]
  exact bodyPost_ret (Rt2 rfl _ _ w§ 26 tb0 (0,0) _ rfl HNF.out Tryz.underlying26 rfl Qe) rfl ⟨rfl,HBF.out⟩
namespace O
def t0:TbM:=⟨⟨#[]⟩,none,0,[],0,none,0,[],none,0,[],none,0,[]⟩
theorem t0_l (w:World):TbL w t0 :=
 ⟨⟨by simp [t0],by simp [t0],fun i hi=>by simp [t0] at hi⟩,by simp [t0],⟨by simp [t0],by simp [t0]⟩,⟨by simp [t0],by simp [t0],fun i hi=>by simp [t0] at hi⟩,by simp [t0],⟨by simp [t0],by simp [t0],fun i hi=>by simp [t0] at hi⟩,by simp [t0],⟨by simp [t0],by simp [t0],fun i hi=>by simp [t0] at hi⟩,by simp [t0],by unfold SzX t0; decide⟩
theorem t0_o:OwT [] t0 :=
 ⟨⟨fun V _=>.inl ⟨rfl,rfl⟩,fun g hg=>by cases hg⟩,⟨fun V _=>.inl ⟨rfl,rfl⟩,fun g hg=>by cases hg⟩,⟨fun V _=>.inl ⟨rfl,rfl⟩,fun g hg=>by cases hg⟩,⟨fun V _=>.inl ⟨rfl,rfl⟩,fun g hg=>by cases hg⟩,⟨fun V _=>by simp [t0],by simp [t0],List.Pairwise.nil,by simp [t0]⟩,⟨rfl,rfl,rfl,rfl⟩,fun g hg=>by cases hg⟩
def Bd (t:TbM):Prop:=t.rs.length≤12∧t.cs.length≤1024∧t.ds.length≤4096∧t.ts.length≤12∧∀ s ∈ t.ts,s.gs.length≤12∧∀ g ∈ s.gs,g.rs.length≤100000000
theorem bd_of {t:TbM}(h:Qp t=0):Bd t:=by
 have hf:QG t=true:=by
  cases hc:QG t with
  | true=>rfl
  | false=>unfold Qp at h; rw [hc] at h; simp at h
 obtain⟨⟨f1,f2,f3⟩,_⟩:=form_w hf
 obtain⟨_,_,f4⟩:=form_i hf
 refine⟨f1,f2,f3,f4,fun s hs=>⟨(form_b hf s hs).1,fun g hg=>?_⟩⟩
 have:=(form_b hf s hs).2 g hg
 have h8:=this.2.1
 omega
theorem dec_two (b:ByteArray) (hs:b.size≤1099511627776):∃ (cd:Int) (Tx:TbM→Prop),(∀ t u,Tx t→Tx u→JU t u)∧(∀ t,Tx t→Bd t) ∧
  (∀ w,Tab w→Calls zG 18 #[.string b] w fun e w'=>∃ t nb,e=.returned (.tuple #[.agg t.vals,zI cd])∧Tx t∧Bxs w w' t nb∧OwT nb t∧Below w§ w w') ∧
  (∀ w,Calls zG 19 #[.string b] w fun e w'=>∃ t nb,e=.returned (.tuple #[.agg t.vals,zI cd])∧Tx t∧Bxs w w' t nb∧Below w§ w w'):=by
 by_cases h:∃ T,unR b=some T∧∃ t,Is T t∧Qp t=0
 ·obtain⟨T,hT,t1,i1,c1⟩:=h
  have hc:∀ t,Is T t→Qp t=0:=fun t k=>(check_s (is_two k i1)).trans c1
  have hd:decP b=some T:=by
   rcases dec_un b with h | ⟨h,_⟩
   ·rw [h,hT]
   ·rw [hT] at h; cases h
  refine⟨0,Is T,fun t u a c=>is_two a c,fun t k=>bd_of (hc t k),fun w hw=>(Kh b w hs hw).mono ?_,fun w=>(rdecode_any b w hs).mono ?_⟩
  ·intro e w' ho
   rw [hT] at ho
   obtain⟨t,nb,k1,k2,k3,k4⟩:=ho
   rw [if_pos (by rw [hc t k1]; rfl)] at k2
   exact⟨t,nb,k2.1,k1,k2.2,k4,k3⟩
  ·intro e w' ho
   rw [hd] at ho
   obtain⟨t,nb,k1,k2,k3⟩:=ho
   rw [if_pos (by rw [hc t k1]; rfl)] at k2
   exact⟨t,nb,k2.1,k1,k2.2,k3⟩
 ·have hu:∀ T,unR b=some T→∀ t,Is T t→Qp t≠0:=fun T hT t ht h0=>h ⟨T,hT,t,ht,h0⟩
  have hd:∀ T,decP b=some T→∀ t,Is T t→Qp t≠0:=by
   intro T hT
   rcases dec_un b with h1 | ⟨_,T',h2,h3⟩
   ·exact hu T (h1.symm.trans hT)
   ·rw [h2] at hT
    injection hT with e1
    rw [← e1]
    exact h3
  have nob:∀ w w':World,Bxs w w' t0 []:=fun w w'=>⟨fun V _=>t0_l V,by simp⟩
  refine⟨194,fun t=>t=t0,?_,?_,fun w hw=>(Kh b w hs hw).mono ?_,fun w=>(rdecode_any b w hs).mono ?_⟩
  ·rintro t u rfl rfl
   exact⟨rfl,rfl,rfl,rfl,rfl,rfl,fun i h1=>absurd h1 (by simp [t0])⟩
  ·rintro t rfl
   exact⟨by simp [t0],by simp [t0],by simp [t0],by simp [t0],by simp [t0]⟩
  ·intro e w' ho
   cases hU:unR b with
   | none =>
    rw [hU] at ho
    exact⟨t0,[],ho.1,rfl,nob _ _,t0_o,ho.2⟩
   | some T =>
    rw [hU] at ho
    obtain⟨t,nb,k1,k2,k3,k4⟩:=ho
    rw [if_neg (by simpa using hu T hU t k1)] at k2
    exact⟨t0,[],k2,rfl,nob _ _,t0_o,k3⟩
  ·intro e w' ho
   cases hU:decP b with
   | none =>
    rw [hU] at ho
    exact⟨t0,[],ho.1,rfl,nob _ _,ho.2⟩
   | some T =>
    rw [hU] at ho
    obtain⟨t,nb,k1,k2,k3⟩:=ho
    rw [if_neg (by simpa using hd T hU t k1)] at k2
    exact⟨t0,[],k2,rfl,nob _ _,k3⟩
end O
namespace O
def X3 (b c:ByteArray) (i:Nat):ByteArray:=if i=1 then c else b
def BI (w w0:World) (bk lb:Nat) (b c:ByteArray) (i:Nat) (v:World):Prop :=
 ∃ w1 U A NI NR NG NW NL lI lR lG lW lL,TBs w0 w1 bk U A NI NR NG NW NL v lI lR lG lW lL∧U lb∧(∀ q,U q→w§≤q)∧(NI≤i∧NR≤144 * i∧NG≤12 * i∧NW≤i∧NL≤2 * i)∧v.heap[lb]? = some (.cells #[.string b,.string c,.string b] 9 (0,0))
theorem BI.hid {w w0:World}{bk lb:Nat}{b c:ByteArray}{i:Nat}{v:World}(h:BI w w0 bk lb b c i v):Hid (BI w w0 bk lb b c i v):=h
theorem BI.below {w w0:World}{bk lb:Nat}{b c:ByteArray}{i:Nat}{v:World}(h:BI w w0 bk lb b c i v):Below w0§ w0 v:=by
 obtain⟨w1,U,A,NI,NR,NG,NW,NL,lI,lR,lG,lW,lL,h1,_⟩:=h
 exact h1.B0
theorem BI.cell {w w0:World}{bk lb:Nat}{b c:ByteArray}{i:Nat}{v:World}(h:BI w w0 bk lb b c i v) (hi:i < 3):v.cell? ⟨lb,i,none⟩=some (.string (X3 b c i)):=by
 obtain⟨w1,U,A,NI,NR,NG,NW,NL,lI,lR,lG,lW,lL,_,_,_,_,h2⟩:=h
 rw [Co h2]
 rcases i with _ | _ | _ | i
 ·rfl
 ·rfl
 ·rfl
 ·omega
def cnW (t:TbM):Nat→Nat
 | 0=>0
 | i+1=>cnW t i+nW t i
theorem nW_le {t:TbM}(h:Bd t) (i:Nat):nW t i≤12:=by
 by_cases hi:i < t.ts.length
 ·rw [nW_at hi]; exact (h.2.2.2.2 _ (List.getElem_mem hi)).1
 ·unfold nW; rw [List.getElem?_eq_none (Nat.le_of_not_lt hi)]; simp
theorem cnW_le {t:TbM}(h:Bd t):∀ i,cnW t i≤12 * i
 | 0=>by simp [cnW]
 | i+1=>by
  have h1:=cnW_le h i
  have h2:=nW_le h i
  show cnW t i+nW t i≤_
  omega
theorem BI.next {w w0:World}{bk lb:Nat}{b c:ByteArray}{i:Nat}{v v':World}{t:TbM}{nb:List Bx}(h:BI w w0 bk lb b c i v) (hi:i < 3) (hw:w§≤w0§) (k:Below v§ v v') (hd:Bd t) (ho:OwT nb t) (hb:∀ q ∈ nb,v'.heap[q.1]? = some (.cells q.2.2 q.2.1 (0,0))∧v§≤q.1) :
  Calls zG 20 #[zP bk,.agg t.vals] v' fun e w'=>(∃ r,e=.returned r)∧BI w w0 bk lb b c (i+1) w':=by
 obtain⟨w1,U,A,NI,NR,NG,NW,NL,lI,lR,lG,lW,lL,h1,hl,hU,⟨n1,n2,n3,n4,n5⟩,h2⟩:=h
 obtain⟨d1,d2,d3,d4,d5⟩:=hd
 have hd:Bd t:=⟨d1,d2,d3,d4,d5⟩
 have ht:=to_of (V:=v') ho (fun q hq=>(hb q hq).1) (by omega) (by omega) (by omega) (by omega) (fun s hs=>⟨by have:=(d5 s hs).1; omega,(d5 s hs).2⟩)
 have hc:=cnW_le hd
 have hn:=nW_le hd
 refine (book_table w0 w1 v v' bk U A _ NI NR NG NW NL lI lR lG lW lL t.x t.sl _ _ _ _ t.ts.length (stW t) (nW t) (rwW t) (cnW t) h1 k (fun q hq=>?_) ht rfl (fun i _=>rfl) (fun i hi=>?_) (by omega)).mono ?_
 ·obtain⟨x,hx,rfl⟩:=hq
  obtain⟨q1,q2⟩:=hb x hx
  exact⟨q2,Qy q1⟩
 ·have:=hc i
  have:=hn i
  omega
 ·rintro e w' ⟨r,w1',U',A',lI,lR,lG,lW,lL,g1,g2,g3⟩
  have:=hc t.ts.length
  have hsz:=h1.B0.size
  refine⟨r,w1',U',A',_,_,_,_,_,lI,lR,lG,lW,lL,g3,(g1 lb hl).1,fun q hq=>?_,⟨by omega,by omega,by omega,by omega,by omega⟩,(g1 lb hl).2.trans ((k.block lb (Qy h2)).trans h2)⟩
  rcases g2 q hq with hq | hq
  ·exact hU q hq
  ·omega
theorem BI.own {w w0:World}{bk lb:Nat}{b c:ByteArray}{v:World}(h:BI w w0 bk lb b c 3 v) (hw:Below w§ w v):Calls zG 21 #[zP bk] v fun e w'=>e=.returned (.bool true)∧Below w§ w w':=by
 obtain⟨w1,U,A,NI,NR,NG,NW,NL,lI,lR,lG,lW,lL,h1,hl,hU,⟨n1,n2,n3,n4,n5⟩,h2⟩:=h
 refine (h1.own ⟨by omega,by omega,by omega,by omega,by omega⟩).mono ?_
 rintro e w' ⟨g1,g2⟩
 exact⟨g1,hw.trans (g2.below hw.size (fun q hq=>hU q (h1.sub q hq)))⟩
end O
end Go.Proofs.YteedmmljahgpjaaGreatDoor
