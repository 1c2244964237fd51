import Derived.Test.YteedmmljahgpjaaGreatDoorA0
import Derived.Test.YteedmmljahgpjaaGreatDoorA16
import Derived.Test.YteedmmljahgpjaaGreatDoorA3
namespace Go.Proofs.YteedmmljahgpjaaGreatDoor
set_option maxRecDepth 100000
set_option maxHeartbeats 8000000
open Go.RowKit
set_option linter.unusedVariables false
set_option linter.unusedSimpArgs false
theorem infL66:(Tryz.prog.info? 66).map (fun i=>(i.zero,i.size,i.bytes))=some (some (.slice none 0 0),1,24):=by kernel_rfl
def cmTR (C:Nat→Nat→Value) (i k:Nat) (j q:Nat):Value:=if q % 11=2∧(j < i∨(j=i∧q / 11 < k)) then zI (spI j (q / 11)) else C j q
def mkTR (C:Nat→Nat→Value) (j q:Nat):Value:=if q % 11=2 then zI (spI j (q / 11)) else C j q
def nwTR (m:Int):Array Value:=#[zU 0,zU 0,zI m,zI 0,zI 0,zI 0,zI 0,zI 0,zI 0,zI 0,zI 0]
def apTR (C:Nat→Nat→Value) (n:Nat→Nat) (j q:Nat):Value:=if q < n j * 11 then mkTR C j q else (nwTR (bhI j (q / 11 - n j))).getD (q % 11) (zI 0)
theorem apTR_in {C:Nat→Nat→Value}{n:Nat→Nat}{j q:Nat}(h:q < n j * 11):apTR C n j q=mkTR C j q:=if_pos h
theorem apTR_out {C:Nat→Nat→Value}{n:Nat→Nat}{j k:Nat}:apTR C n j ((n j+k) * 11+2)=zI (bhI j k):=by
 unfold apTR
 rw [if_neg (by omega),show ((n j+k) * 11+2) / 11 - n j=k by omega,show ((n j+k) * 11+2) % 11=2 by omega]
 rfl
theorem nwTR_at (m:Int):∀ j,j < 11→(nwTR m).toList[j]? = some ((fun r=>(nwTR m).getD r (zI 0)) j)
 | 0,_=>rfl
 | 1,_=>rfl
 | 2,_=>rfl
 | 3,_=>rfl
 | 4,_=>rfl
 | 5,_=>rfl
 | 6,_=>rfl
 | 7,_=>rfl
 | 8,_=>rfl
 | 9,_=>rfl
 | 10,_=>rfl
 | _+11,h=>absurd h (by omega)
theorem nwTR_one (m:Int):∀ u ∈ (nwTR m).toList,u.oneCell'=true:=by
 intro u hu
 simp [nwTR] at hu
 rcases hu with rfl | rfl | rfl | rfl | rfl | rfl | rfl | rfl | rfl | rfl | rfl <;> rfl
theorem P1.startTR {w v:World}{g N:Nat}{V:Nat→Value}{n:Nat→Nat}{C:Nat→Nat→Value}(h:P1 85 11 w v g N V n C):P1 85 11 w v g N V n (cmTR C 0 0) :=
 h.congr (fun j _ q _=>by unfold cmTR; rw [if_neg (by omega)])
theorem P1.nextTR {w v:World}{g N:Nat}{V:Nat→Value}{n:Nat→Nat}{C:Nat→Nat→Value}{i:Nat}(h:P1 85 11 w v g N V n (cmTR C i (n i))):P1 85 11 w v g N V n (cmTR C (i+1) 0) :=
 h.congr (fun j _ q hq=>by
  unfold cmTR
  by_cases e:q % 11=2∧(j < i∨(j=i∧q / 11 < n i))
  ·rw [if_pos e,if_pos ⟨e.1,.inl (by omega)⟩]
  ·rw [if_neg e]
   by_cases e2:q % 11=2∧(j < i+1∨(j=i+1∧q / 11 < 0))
   ·exfalso
    apply e
    refine⟨e2.1,?_⟩
    by_cases e3:j < i
    ·exact .inl e3
    ·have e4:j=i:=by omega
     subst e4
     exact .inr ⟨rfl,by omega⟩
   ·rw [if_neg e2])
theorem P1.markTR {w v:World}{g N:Nat}{V:Nat→Value}{n:Nat→Nat}{C:Nat→Nat→Value}(ap:Aprt w g N V) {i k b c:Nat}(h:P1 85 11 w v g N V n (cmTR C i k)) (hi:i < N) (hV:V i=.slice (some ⟨b,0,none⟩) (n i) c) :
  P1 85 11 w (v.setCell ⟨b,k * 11+2,none⟩ (zI (spI i k))) g N V n (cmTR C i (k+1)) :=
 (h.put ap (k * 11+2) hi hV (zI (spI i k))).congr (fun j _ q _=>by
  unfold cmTR
  by_cases e:j=i∧q=k * 11+2
  ·obtain⟨rfl,rfl⟩:=e
   rw [if_pos ⟨rfl,rfl⟩,if_pos ⟨by omega,.inr ⟨rfl,by omega⟩⟩,show (k * 11+2) / 11=k by omega]
  ·rw [if_neg e]
   by_cases e':q % 11=2∧(j < i∨(j=i∧q / 11 < k))
   ·rw [if_pos e',if_pos ⟨e'.1,e'.2.elim (fun h=>.inl h) (fun h=>.inr ⟨h.1,by omega⟩)⟩]
   ·rw [if_neg e',if_neg (by omega)])
theorem P1.doneTR {w v:World}{g N:Nat}{V:Nat→Value}{n:Nat→Nat}{C:Nat→Nat→Value}(h:P1 85 11 w v g N V n (cmTR C N 0)):P1 85 11 w v g N V n (mkTR C) :=
 h.congr (fun j hj q _=>by
  unfold cmTR mkTR
  by_cases e:q % 11=2
  ·rw [if_pos ⟨e,.inl hj⟩,if_pos e]
  ·rw [if_neg (fun h=>e h.1),if_neg e])
theorem append_markTR {w v:World}{g N:Nat}{V:Nat→Value}{n:Nat→Nat}{C:Nat→Nat→Value}{i:Nat}{U:Nat→Value}{lv:Value}{k:Nat}{X:Value}{ops:Array Oper}{rest:List Oper}{o:Oper}{a:Act}{Q:Exit→Act→World→Prop}(hgd:o.guard=none) (d x:Operand)
  (ho:o.op=.call { callee:=.builtin .append,args:=#[d,x],argTypes:=#[66,66] }) (ap:Aprt w g N V) (hi:i < N) (h:P3 85 66 11 8 w v g N V n (mkTR C) (apTR C n) i U lv k X) (hs:a.eval d=X) (hx:a.eval x=.slice (some ⟨v§,0,none⟩) 1 1) (hlen:n i+k≤1000000000)
  (hK:∀ X' v',P3 85 66 11 8 w v' g N V n (mkTR C) (apTR C n) i U lv (k+1) X'→wpList Tryz.prog ops Q rest (a.put o.dst X') v') :
  wpList Tryz.prog ops Q (o :: rest) a (v.alloc (.cells (nwTR (bhI i k)) 85)):=by
 obtain⟨m,em⟩:∃ m:Int,m=bhI i k:=⟨_,rfl⟩
 rw [← em]
 obtain⟨i0,h0,hz0,hz1,hz2⟩:=info_parts inf85
 have h':=h.call ap (Bn v (.cells (nwTR m) 85))
 obtain⟨X',v',r1,r2,r3⟩:=J2 (P:=Tryz.prog) (v.alloc (.cells (nwTR m) 85)) 66 o.type 85 i0 _ 11 80 Tryz.underlying66 h0 hz0 hz1 hz2 rfl (by decide) X (n i+k) _ h'.xrow ⟨v§,0,none⟩ (nwTR m).toList rfl (World.news_of_block (Hn v _)) (nwTR_one m) (by unfold maxLen; omega) (by omega)
 refine wpList_plain hgd fun K hK'=>?_
 unfold Oper.wp execOp
 simp only [ho,resolve,invoke,builtin,Sem.run_bind,Sem.run_pure,Result.andThen_ok,List.map_toArray,List.map_cons,List.map_nil,hs,hx,r1]
 refine hK' _ _ (hK X' v' (h'.app (by decide) ap hi (fun q hq=>apTR_in hq) ?_ r3))
 have hr:=Row.snoc (x:=fun r=>(nwTR m).getD r (zI 0)) r2 rfl (nwTR_at m)
 refine (show RowX v' 85 11 X' (n i+(k+1)) _ from .inl hr).congr fun j hj=>?_
 by_cases e:j < (n i+k) * 11
 ·simp only [e,if_true]
 ·simp only [e,if_false]
  unfold apTR
  rw [if_neg (by omega),show j / 11 - n i=k by omega,show j % 11=j - (n i+k) * 11 by omega,em]
theorem append_longTR {w v:World}{g N:Nat}{V:Nat→Value}{n:Nat→Nat}{M A:Nat→Nat→Value}{i:Nat}{U:Nat→Value}{lv:Value}{X:Value}{ops:Array Oper}{rest:List Oper}{o:Oper}{a:Act}{Q:Exit→Act→World→Prop}(hgd:o.guard=none) (d x:Operand)
  (ho:o.op=.call { callee:=.builtin .append,args:=#[d,x],argTypes:=#[48,48] }) (ap:Aprt w g N V) (h:P3 85 66 11 8 w v g N V n M A i U lv 8 X) (hX1:X.oneCell'=true) (hs:a.eval d=lv) (hx:a.eval x=.slice (some ⟨v§,0,none⟩) 1 1) (hlen:i≤1000000)
  (hK:∀ lv' v',P2 85 66 11 8 w v' g N V n M A (i+1) (fun j=>if j=i then X else U j) lv'→wpList Tryz.prog ops Q rest (a.put o.dst lv') v') :
  wpList Tryz.prog ops Q (o :: rest) a (v.alloc (.cells #[X] 66)):=by
 obtain⟨i0,h0,hz0,hz1,hz2⟩:=info_parts infL66
 have h':=h.call ap (Bn v (.cells #[X] 66))
 refine wpList_append_own_at _ hgd d x 48 ho 0 66 i0 _ 1 24 Tryz.underlying48 h0 hz0 hz1 hz2 rfl (by decide) lv i _ hs h'.long ⟨v§,0,none⟩ 1 1 [X] hx rfl (World.news_of_block (Hn v _)) (by intro u hu; simp at hu; rw [hu]; exact hX1) (by unfold maxLen; omega) (by omega) (Nat.zero_le _) ?_
 intro lv' v' r1 r2 _ r4
 refine hK lv' v' (h'.fin (by decide) ap ?_ r2 r4)
 have hr:=Row.snoc (x:=fun _=>X) r1 rfl (fun j hj=>by obtain rfl:j=0:=(by omega); rfl)
 refine hr.congr fun j hj=>?_
 by_cases e:j < i * 1
 ·rw [if_pos e,if_neg (show ¬ j=i by omega)]
 ·rw [if_neg e,if_pos (show j=i by omega)]
theorem ownTR_any (w:World) (g N c:Nat) (V:Nat→Value) (n:Nat→Nat) (C:Nat→Nat→Value) (hC:∀ j k,j < N→k < n j→∃ p,C j (k * 11+2)=zI p) (hN:N≤1000000) (hn:∀ j,j < N→n j≤100000000) (ap:Aprt w g N V) (h:P1 85 11 w w g N V n C) :
  Calls zG 57 #[.slice (some ⟨g,0,none⟩) N c] w fun e w'=>e=.returned (.bool true)∧Mv w w' (bks N V):=by
 have AP:=ap.hid
 have HFm:Hid (∀ j,j < N→∃ ao c,V j=.slice ao (n j) c∧(0 < n j→∃ b,ao=some ⟨b,0,none⟩)):=fun j hj=>by
  obtain⟨ao,c,e,h1,_⟩:=(h.row j hj).form
  exact⟨ao,c,e,h1⟩
 have H1:=h.startTR.hid
 have HN:=zH hn
 have HC:Hid (∀ i k,∃ p,i < N→k < n i→cmTR C i k i (k * 11+2)=zI p):=fun i k=>by
  by_cases hh:i < N∧k < n i
  ·obtain⟨p,hp⟩:=hC i k hh.1 hh.2
   exact⟨p,fun _ _=>by unfold cmTR; rw [if_neg (by omega),hp]⟩
  ·exact⟨0,fun a b=>absurd ⟨a,b⟩ hh⟩
 clear ap h hn hC
 go_enter Tryz.func57,Tryz.ntmps57
 go_wp2
 go_loopw [4] (fun x wr=>∃ i:Nat,i≤N∧x=zI i∧P1 85 11 w wr g N V n (cmTR C i 0)) (fun x _=>N - (intOf x).toNat)
 case atStart=>exact⟨0,by omega,rfl,H1.out⟩
 case round =>
  obtain⟨i,hiN,rfl,hp⟩:=hrel
  clear H1
  by_cases hi:i < N
  ·have hi':(i:Int) < (N:Int):=by omega
   have hni:=HN.out i hi
   obtain⟨ao,cc,eV,hV0,_⟩:=(hp.row i hi).form
   have HP:=hp.hid
   have HV:=zH eV
   have H0:=zH hV0
   obtain⟨m,em⟩:∃ m,n i=m:=⟨_,rfl⟩
   have hcell:=hp.cell i hi
   rw [eV,em] at hcell
   rw [em] at hni H0
   have HM:Hid (n i=m):=em
   clear hp eV hV0 em
   go_wp2
   go_loopw [5] (fun x wr2=>∃ k:Nat,k≤m∧x=zI k∧P1 85 11 w wr2 g N V n (cmTR C i k)) (fun x _=>m - (intOf x).toNat)
   case atStart=>exact⟨0,by omega,rfl,HP.out⟩
   case round =>
    obtain⟨k,hkm,rfl,hq⟩:=hrel
    clear hcell
    have hcell:=hq.cell i hi
    rw [HV.out,HM.out] at hcell
    have HQ:=hq.hid
    by_cases hk:k < m
    ·have hk':(k:Int) < (m:Int):=by omega
     obtain⟨b,rfl⟩:=H0.out (by omega)
     have hr:=hq.row i hi
     rw [HV.out,HM.out] at hr
     have z4:=hr.cell (j:=k * 11+2) (by omega)
     have f4:=hr.frozen (k * 11+2)
     obtain⟨p,hp⟩:=HC.out i k
     rw [hp hi (by rw [HM.out]; exact hk)] at z4
     have cS:=JR i k (by omega) (by omega)
     obtain⟨sp,esp⟩:∃ sp,spI i k=sp:=⟨_,rfl⟩
     have HSP:Hid (spI i k=sp):=esp
     rw [esp] at cS
     clear hr hq hp esp
     go_wp2_with fail
     go_region_with (go_at_call 91; refine (cS _).mono ?_; rintro _ vv ⟨rfl,q⟩; obtain rfl:=q.symm)
     all_goals go_wp2
     all_goals exact⟨⟨k+1,by omega,by go_num,(by have:=(HQ.out.markTR AP.out hi (k:=k) (by rw [HV.out])).drew; rwa [HSP.out] at this)⟩,by simp only [intOf]; omega⟩
    ·obtain rfl:k=m:=by omega
     clear hq
     go_wp2
     refine⟨⟨i+1,by omega,by go_num,P1.nextTR (by rw [HM.out]; exact HQ.out)⟩,by simp only [intOf]; omega⟩
  ·obtain rfl:N=i:=by omega
   have H2:=(hp.doneTR.done (le:=66) (K:=8) (A:=apTR C n)).hid
   clear hp hiN hi HC
   go_wp2
   go_loopw [3,6] (fun lv x wr3=>∃ (i:Nat) (U:Nat→Value),i≤N∧x=zI i∧P2 85 66 11 8 w wr3 g N V n (mkTR C) (apTR C n) i U lv) (fun _ x _=>N - (intOf x).toNat)
   case atStart=>exact⟨0,_,by omega,rfl,H2.out⟩
   case round =>
    obtain⟨i,U,hiN,rfl,hp⟩:=hrel
    clear H2
    by_cases hi:i < N
    ·have hi':(i:Int) < (N:Int):=by omega
     have hni:=HN.out i hi
     obtain⟨ao,cc,eV,_,_⟩:=(hp.row i (Nat.le_refl _) hi).form
     have hcell:=hp.cell i hi
     rw [eV] at hcell
     have hb:=hp.begin AP.out hi (fun q hq=>(apTR_in hq).symm)
     rw [eV] at hb
     have HP:=hb.hid
     clear hp eV hb
     go_wp2
     go_loopw [7,8] (fun X x wr4=>∃ k:Nat,k≤8∧x=zI k∧P3 85 66 11 8 w wr4 g N V n (mkTR C) (apTR C n) i U u3 k X) (fun _ x _=>8 - (intOf x).toNat)
     case atStart=>exact⟨0,by omega,rfl,HP.out⟩
     case round =>
      obtain⟨k,hk8,rfl,hq⟩:=hrel
      have HQ:=hq.hid
      clear hq hcell HP
      by_cases hk:k < 8
      ·have hk':(k:Int) < 8:=by omega
       have cS:=Jp i k (by omega) (by omega)
       go_wp2_with (first | (go_at_call 92; refine (cS _).mono ?_; rintro _ vv ⟨rfl,q⟩; obtain rfl:=q.symm) | (at_builtin; refine append_markTR rfl (.tmp 52) (.tmp 57) rfl AP.out hi HQ.out rfl rfl (by omega) ?_; intro X' v' hr'; have HR:=hr'.hid; clear hr'))
       exact⟨⟨k+1,by omega,by go_num,HR.out⟩,by simp only [intOf]; omega⟩
      ·obtain rfl:k=8:=by omega
       obtain⟨ax,cx,eX⟩:=HQ.out.form
       subst eX
       go_wp2_with (at_builtin; refine append_longTR rfl (.tmp 59) (.tmp 61) rfl AP.out HQ.out rfl rfl rfl (by omega) ?_; intro lv' v' hr'; have HR:=hr'.hid; clear hr')
       exact⟨⟨i+1,_,by omega,by go_num,HR.out⟩,by simp only [intOf]; omega⟩
    ·obtain rfl:N=i:=by omega
     have H3:=hp.hid
     obtain⟨W,eW⟩:∃ W,W=wr:=⟨_,rfl⟩
     rw [← eW] at H3
     have HMv:Hid (Mv w W (bks N V)):=H3.out.mv
     clear hp hiN hi
     go_wp2
     rw [← eW]
     clear eW
     go_loopw [9] (fun x wz=>∃ i q:Nat,i≤N∧x=zI i∧wz=W.drewN q) (fun x _=>N - (intOf x).toNat)
     case atStart=>exact⟨0,0,by omega,rfl,rfl⟩
     case round =>
      obtain⟨i,nq0,hiN,rfl,rfl⟩:=hrel
      by_cases hi:i < N
      ·have hi':(i:Int) < (N:Int):=by omega
       have hni:=HN.out i hi
       obtain⟨gl,lc,bu,cu,e1,e2,hu,hf⟩:=H3.out.look (by decide) (by decide) hi
       have HF:=zH hf
       have hv:=H3.out.cell i hi
       have HR:=zH (H3.out.rd i hi)
       obtain⟨ao,cc,eV,h0⟩:=HFm.out i hi
       have H0:=zH h0
       have HV:=zH eV
       rw [eV] at hv
       obtain⟨m,em⟩:∃ m,n i=m:=⟨_,rfl⟩
       rw [em] at hv hni hu
       have HM:Hid (n i=m):=em
       obtain⟨m8,em8⟩:∃ m8,m+8=m8:=⟨_,rfl⟩
       rw [em8] at hu
       have HM8:Hid (m+8=m8):=em8
       subst e1
       clear eV em hf h0 e2 em8
       go_wp2
       go_loopw [11] (fun x wz=>∃ k q:Nat,k≤m∧x=zI k∧wz=W.drewN q) (fun x _=>m - (intOf x).toNat)
       case atStart=>exact⟨0,nq0,by omega,rfl,rfl⟩
       case round =>
        obtain⟨k,nq1,hkm,rfl,rfl⟩:=hrel
        by_cases hk:k < m
        ·have hk':(k:Int) < (m:Int):=by omega
         obtain⟨b,c',e3,hx⟩:=HR.out (k * 11+2) (by rw [HM.out]; omega)
         rw [HV.out] at e3
         simp at e3
         obtain⟨rfl,rfl⟩:=e3
         have hy:=HF.out (k * 11+2) (by rw [HM.out]; omega)
         rw [apTR_in (by rw [HM.out]; omega)] at hy
         have em:mkTR C i (k * 11+2)=zI (spI i k):=by unfold mkTR; rw [if_pos (by omega),show (k * 11+2) / 11=k by omega]
         rw [em] at hx hy
         have cS:=JR i k (by omega) (by omega)
         obtain⟨sp,esp⟩:∃ sp,spI i k=sp:=⟨_,rfl⟩
         rw [esp] at cS hx hy
         clear em esp
         have k8':(k:Int) < (m8:Int):=by have:=HM8.out; omega
         obtain⟨Y,eY⟩:∃ Y,W.drewN nq1=Y:=⟨_,rfl⟩
         have hvY:Y.cell? ⟨g,i,none⟩=some (.slice (some ⟨b,0,none⟩) m cc):=by rw [← eY]; exact hv
         have huY:Y.cell? ⟨gl,i,none⟩=some (.slice (some ⟨bu,0,none⟩) m8 cu):=by rw [← eY]; exact hu
         have hxY:Y.cell? ⟨b,k * 11+2,none⟩=some (zI sp):=by rw [← eY]; exact hx
         have hyY:Y.cell? ⟨bu,k * 11+2,none⟩=some (zI sp):=by rw [← eY]; exact hy
         have EY:Hid (W.drewN nq1=Y):=eY
         clear hv hu hx hy
         go_wp2_with fail
         clear eY
         go_quiet ((go_at_call 91; refine Calls.quiet_of_same (cS _)))
         go_wp2_with fail
         exact⟨⟨k+1,nq1+nq,by omega,by go_num,by rw [← EY.out]; exact Jc W nq1 nq⟩,by simp only [intOf]; omega⟩
        ·obtain rfl:m=k:=by omega
         clear hk hkm
         go_wp2
         go_loopw [12] (fun x wz=>∃ k q:Nat,k≤8∧x=zI k∧wz=W.drewN q) (fun x _=>8 - (intOf x).toNat)
         case atStart=>exact⟨0,nq1,by omega,rfl,rfl⟩
         case round =>
          obtain⟨k,nq2,hk8,rfl,rfl⟩:=hrel
          by_cases hk:k < 8
          ·have hk':(k:Int) < 8:=by omega
           have hy:=HF.out ((n i+k) * 11+2) (by omega)
           rw [apTR_out,HM.out] at hy
           have cS:=Jp i k (by omega) (by omega)
           obtain⟨sp,esp⟩:∃ sp,bhI i k=sp:=⟨_,rfl⟩
           rw [esp] at cS hy
           obtain⟨q,eq⟩:∃ q,m+k=q:=⟨_,rfl⟩
           rw [eq] at hy
           have eq':(m:Int)+(k:Int)=(q:Int):=by omega
           have hq':(q:Int) < (m8:Int):=by have:=HM8.out; omega
           have hqb:(q:Int)≤9223372036854775807:=by have:=HM8.out; omega
           obtain⟨Y,eY⟩:∃ Y,W.drewN nq2=Y:=⟨_,rfl⟩
           have huY:Y.cell? ⟨gl,i,none⟩=some (.slice (some ⟨bu,0,none⟩) m8 cu):=by rw [← eY]; exact hu
           have hyY:Y.cell? ⟨bu,q * 11+2,none⟩=some (zI sp):=by rw [← eY]; exact hy
           have EY:Hid (W.drewN nq2=Y):=eY
           clear esp eq hu hy hv
           go_wp2_with fail
           clear eY
           go_quiet ((go_at_call 92; refine Calls.quiet_of_same (cS _)))
           go_wp2_with fail
           exact⟨⟨k+1,nq2+nq,by omega,by go_num,by rw [← EY.out]; exact Jc W nq2 nq⟩,by simp only [intOf]; omega⟩
          ·obtain rfl:k=8:=by omega
           go_wp2
           exact⟨⟨i+1,_,by omega,by go_num,rfl⟩,by simp only [intOf]; omega⟩
      ·go_wp2
       go_ret
       exact⟨rfl,JH HMv.out _⟩
theorem infL22:(Tryz.prog.info? 22).map (fun i=>(i.zero,i.size,i.bytes))=some (some (.slice none 0 0),1,24):=by kernel_rfl
def spN (i k:Nat):Int:=(i:Int) * 1000+(k:Int)
def bhN (i k:Nat):Int:=(-1 - (i:Int)) * 1000 - (k:Int)
def cmTL (C:Nat→Nat→Value) (i k:Nat) (j q:Nat):Value:=if q % 1=0∧(j < i∨(j=i∧q / 1 < k)) then zI (spN j (q / 1)) else C j q
def mkTL (C:Nat→Nat→Value) (j q:Nat):Value:=if q % 1=0 then zI (spN j (q / 1)) else C j q
def nwTL (m:Int):Array Value:=#[zI m]
def apTL (C:Nat→Nat→Value) (n:Nat→Nat) (j q:Nat):Value:=if q < n j * 1 then mkTL C j q else (nwTL (bhN j (q / 1 - n j))).getD (q % 1) (zI 0)
theorem apTL_in {C:Nat→Nat→Value}{n:Nat→Nat}{j q:Nat}(h:q < n j * 1):apTL C n j q=mkTL C j q:=if_pos h
theorem apTL_out {C:Nat→Nat→Value}{n:Nat→Nat}{j k:Nat}:apTL C n j ((n j+k))=zI (bhN j k):=by
 unfold apTL
 rw [if_neg (by omega),show ((n j+k)) / 1 - n j=k by omega,show ((n j+k)) % 1=0 by omega]
 rfl
theorem nwTL_at (m:Int):∀ j,j < 1→(nwTL m).toList[j]? = some ((fun r=>(nwTL m).getD r (zI 0)) j)
 | 0,_=>rfl
 | _+1,h=>absurd h (by omega)
theorem nwTL_one (m:Int):∀ u ∈ (nwTL m).toList,u.oneCell'=true:=by
 intro u hu
 simp [nwTL] at hu
 subst hu
 rfl
theorem P1.startTL {w v:World}{g N:Nat}{V:Nat→Value}{n:Nat→Nat}{C:Nat→Nat→Value}(h:P1 2 1 w v g N V n C):P1 2 1 w v g N V n (cmTL C 0 0) :=
 h.congr (fun j _ q _=>by unfold cmTL; rw [if_neg (by omega)])
theorem P1.nextTL {w v:World}{g N:Nat}{V:Nat→Value}{n:Nat→Nat}{C:Nat→Nat→Value}{i:Nat}(h:P1 2 1 w v g N V n (cmTL C i (n i))):P1 2 1 w v g N V n (cmTL C (i+1) 0) :=
 h.congr (fun j _ q hq=>by
  unfold cmTL
  by_cases e:q % 1=0∧(j < i∨(j=i∧q / 1 < n i))
  ·rw [if_pos e,if_pos ⟨e.1,.inl (by omega)⟩]
  ·rw [if_neg e]
   by_cases e2:q % 1=0∧(j < i+1∨(j=i+1∧q / 1 < 0))
   ·exfalso
    apply e
    refine⟨e2.1,?_⟩
    by_cases e3:j < i
    ·exact .inl e3
    ·have e4:j=i:=by omega
     subst e4
     exact .inr ⟨rfl,by omega⟩
   ·rw [if_neg e2])
theorem P1.markTL {w v:World}{g N:Nat}{V:Nat→Value}{n:Nat→Nat}{C:Nat→Nat→Value}(ap:Aprt w g N V) {i k b c:Nat}(h:P1 2 1 w v g N V n (cmTL C i k)) (hi:i < N) (hV:V i=.slice (some ⟨b,0,none⟩) (n i) c) :
  P1 2 1 w (v.setCell ⟨b,k,none⟩ (zI (spN i k))) g N V n (cmTL C i (k+1)) :=
 (h.put ap (k) hi hV (zI (spN i k))).congr (fun j _ q _=>by
  unfold cmTL
  by_cases e:j=i∧q=k
  ·obtain⟨e1,e2⟩:=e
   rw [if_pos ⟨e1,e2⟩,if_pos ⟨by omega,.inr ⟨e1,by omega⟩⟩,e1,e2,Nat.div_one]
  ·rw [if_neg e]
   by_cases e':q % 1=0∧(j < i∨(j=i∧q / 1 < k))
   ·rw [if_pos e',if_pos ⟨e'.1,e'.2.elim (fun h=>.inl h) (fun h=>.inr ⟨h.1,by omega⟩)⟩]
   ·rw [if_neg e',if_neg (by omega)])
theorem P1.doneTL {w v:World}{g N:Nat}{V:Nat→Value}{n:Nat→Nat}{C:Nat→Nat→Value}(h:P1 2 1 w v g N V n (cmTL C N 0)):P1 2 1 w v g N V n (mkTL C) :=
 h.congr (fun j hj q _=>by
  unfold cmTL mkTL
  by_cases e:q % 1=0
  ·rw [if_pos ⟨e,.inl hj⟩,if_pos e]
  ·rw [if_neg (fun h=>e h.1),if_neg e])
theorem append_markTL {w v:World}{g N:Nat}{V:Nat→Value}{n:Nat→Nat}{C:Nat→Nat→Value}{i:Nat}{U:Nat→Value}{lv:Value}{k:Nat}{X:Value}{ops:Array Oper}{rest:List Oper}{o:Oper}{a:Act}{Q:Exit→Act→World→Prop}(hgd:o.guard=none) (d x:Operand)
  (ho:o.op=.call { callee:=.builtin .append,args:=#[d,x],argTypes:=#[22,22] }) (ap:Aprt w g N V) (hi:i < N) (h:P3 2 22 1 16 w v g N V n (mkTL C) (apTL C n) i U lv k X) (hs:a.eval d=X) (hx:a.eval x=.slice (some ⟨v§,0,none⟩) 1 1) (hlen:n i+k≤1000000000)
  (hK:∀ X' v',P3 2 22 1 16 w v' g N V n (mkTL C) (apTL C n) i U lv (k+1) X'→wpList Tryz.prog ops Q rest (a.put o.dst X') v') :
  wpList Tryz.prog ops Q (o :: rest) a (v.alloc (.cells (nwTL (bhN i k)) 2)):=by
 obtain⟨m,em⟩:∃ m:Int,m=bhN i k:=⟨_,rfl⟩
 rw [← em]
 obtain⟨i0,h0,hz0,hz1,hz2⟩:=info_parts inf2
 have h':=h.call ap (Bn v (.cells (nwTL m) 2))
 obtain⟨X',v',r1,r2,r3⟩:=J2 (P:=Tryz.prog) (v.alloc (.cells (nwTL m) 2)) 22 o.type 2 i0 _ 1 8 Tryz.underlying22 h0 hz0 hz1 hz2 rfl (by decide) X (n i+k) _ h'.xrow ⟨v§,0,none⟩ (nwTL m).toList rfl (World.news_of_block (Hn v _)) (nwTL_one m) (by unfold maxLen; omega) (by omega)
 refine wpList_plain hgd fun K hK'=>?_
 unfold Oper.wp execOp
 simp only [ho,resolve,invoke,builtin,Sem.run_bind,Sem.run_pure,Result.andThen_ok,List.map_toArray,List.map_cons,List.map_nil,hs,hx,r1]
 refine hK' _ _ (hK X' v' (h'.app (by decide) ap hi (fun q hq=>apTL_in hq) ?_ r3))
 have hr:=Row.snoc (x:=fun r=>(nwTL m).getD r (zI 0)) r2 rfl (nwTL_at m)
 refine (show RowX v' 2 1 X' (n i+(k+1)) _ from .inl hr).congr fun j hj=>?_
 by_cases e:j < (n i+k) * 1
 ·simp only [e,if_true]
 ·simp only [e,if_false]
  unfold apTL
  rw [if_neg (by omega),show j / 1 - n i=k by omega,show j % 1=j - (n i+k) * 1 by omega,em]
theorem append_longTL {w v:World}{g N:Nat}{V:Nat→Value}{n:Nat→Nat}{M A:Nat→Nat→Value}{i:Nat}{U:Nat→Value}{lv:Value}{X:Value}{ops:Array Oper}{rest:List Oper}{o:Oper}{a:Act}{Q:Exit→Act→World→Prop}(hgd:o.guard=none) (d x:Operand)
  (ho:o.op=.call { callee:=.builtin .append,args:=#[d,x],argTypes:=#[50,50] }) (ap:Aprt w g N V) (h:P3 2 22 1 16 w v g N V n M A i U lv 16 X) (hX1:X.oneCell'=true) (hs:a.eval d=lv) (hx:a.eval x=.slice (some ⟨v§,0,none⟩) 1 1) (hlen:i≤1000000)
  (hK:∀ lv' v',P2 2 22 1 16 w v' g N V n M A (i+1) (fun j=>if j=i then X else U j) lv'→wpList Tryz.prog ops Q rest (a.put o.dst lv') v') :
  wpList Tryz.prog ops Q (o :: rest) a (v.alloc (.cells #[X] 22)):=by
 obtain⟨i0,h0,hz0,hz1,hz2⟩:=info_parts infL22
 have h':=h.call ap (Bn v (.cells #[X] 22))
 refine wpList_append_own_at _ hgd d x 50 ho 0 22 i0 _ 1 24 Tryz.underlying50 h0 hz0 hz1 hz2 rfl (by decide) lv i _ hs h'.long ⟨v§,0,none⟩ 1 1 [X] hx rfl (World.news_of_block (Hn v _)) (by intro u hu; simp at hu; rw [hu]; exact hX1) (by unfold maxLen; omega) (by omega) (Nat.zero_le _) ?_
 intro lv' v' r1 r2 _ r4
 refine hK lv' v' (h'.fin (by decide) ap ?_ r2 r4)
 have hr:=Row.snoc (x:=fun _=>X) r1 rfl (fun j hj=>by obtain rfl:j=0:=(by omega); rfl)
 refine hr.congr fun j hj=>?_
 by_cases e:j < i * 1
 ·rw [if_pos e,if_neg (show ¬ j=i by omega)]
 ·rw [if_neg e,if_pos (show j=i by omega)]
theorem ownTL_any (w:World) (g N c:Nat) (V:Nat→Value) (n:Nat→Nat) (C:Nat→Nat→Value) (hC:∀ j k,j < N→k < n j→∃ p,C j (k)=zI p) (hN:N≤1000000) (hn:∀ j,j < N→n j≤100000000) (ap:Aprt w g N V) (h:P1 2 1 w w g N V n C) :
  Calls zG 60 #[.slice (some ⟨g,0,none⟩) N c] w fun e w'=>e=.returned (.bool true)∧Mv w w' (bks N V):=by
 have AP:=ap.hid
 have HFm:Hid (∀ j,j < N→∃ ao c,V j=.slice ao (n j) c∧(0 < n j→∃ b,ao=some ⟨b,0,none⟩)):=fun j hj=>by
  obtain⟨ao,c,e,h1,_⟩:=(h.row j hj).form
  exact⟨ao,c,e,h1⟩
 have H1:=h.startTL.hid
 have HN:=zH hn
 have HC:Hid (∀ i k,∃ p,i < N→k < n i→cmTL C i k i (k)=zI p):=fun i k=>by
  by_cases hh:i < N∧k < n i
  ·obtain⟨p,hp⟩:=hC i k hh.1 hh.2
   exact⟨p,fun _ _=>by unfold cmTL; rw [if_neg (by omega),hp]⟩
  ·exact⟨0,fun a b=>absurd ⟨a,b⟩ hh⟩
 clear ap h hn hC
 go_enter Tryz.func60,Tryz.ntmps60
 go_wp2
 go_loopw [3] (fun x wr=>∃ i:Nat,i≤N∧x=zI i∧P1 2 1 w wr g N V n (cmTL C i 0)) (fun x _=>N - (intOf x).toNat)
 case atStart=>exact⟨0,by omega,rfl,H1.out⟩
 case round =>
  obtain⟨i,hiN,rfl,hp⟩:=hrel
  clear H1
  by_cases hi:i < N
  ·have hi':(i:Int) < (N:Int):=by omega
   have hni:=HN.out i hi
   obtain⟨ao,cc,eV,hV0,_⟩:=(hp.row i hi).form
   have HP:=hp.hid
   have HV:=zH eV
   have H0:=zH hV0
   obtain⟨m,em⟩:∃ m,n i=m:=⟨_,rfl⟩
   have hcell:=hp.cell i hi
   rw [eV,em] at hcell
   rw [em] at hni H0
   have HM:Hid (n i=m):=em
   clear hp eV hV0 em
   go_wp2
   go_loopw [4] (fun x wr2=>∃ k:Nat,k≤m∧x=zI k∧P1 2 1 w wr2 g N V n (cmTL C i k)) (fun x _=>m - (intOf x).toNat)
   case atStart=>exact⟨0,by omega,rfl,HP.out⟩
   case round =>
    obtain⟨k,hkm,rfl,hq⟩:=hrel
    clear hcell
    have hcell:=hq.cell i hi
    rw [HV.out,HM.out] at hcell
    have HQ:=hq.hid
    by_cases hk:k < m
    ·have hk':(k:Int) < (m:Int):=by omega
     obtain⟨b,rfl⟩:=H0.out (by omega)
     have hr:=hq.row i hi
     rw [HV.out,HM.out] at hr
     have z4:=hr.cell (j:=k) (by omega)
     have f4:=hr.frozen (k)
     obtain⟨p,hp⟩:=HC.out i k
     rw [hp hi (by rw [HM.out]; exact hk)] at z4
     clear hr hq hp
     go_wp2
     exact⟨⟨k+1,by omega,by go_num,HQ.out.markTL AP.out hi (k:=k) (by rw [HV.out])⟩,by simp only [intOf]; omega⟩
    ·obtain rfl:k=m:=by omega
     clear hq
     go_wp2
     refine⟨⟨i+1,by omega,by go_num,P1.nextTL (by rw [HM.out]; exact HQ.out)⟩,by simp only [intOf]; omega⟩
  ·obtain rfl:N=i:=by omega
   have H2:=(hp.doneTL.done (le:=22) (K:=16) (A:=apTL C n)).hid
   clear hp hiN hi HC
   go_wp2
   go_loopw [5,6] (fun lv x wr3=>∃ (i:Nat) (U:Nat→Value),i≤N∧x=zI i∧P2 2 22 1 16 w wr3 g N V n (mkTL C) (apTL C n) i U lv) (fun _ x _=>N - (intOf x).toNat)
   case atStart=>exact⟨0,_,by omega,rfl,H2.out⟩
   case round =>
    obtain⟨i,U,hiN,rfl,hp⟩:=hrel
    clear H2
    by_cases hi:i < N
    ·have hi':(i:Int) < (N:Int):=by omega
     have hni:=HN.out i hi
     obtain⟨ao,cc,eV,_,_⟩:=(hp.row i (Nat.le_refl _) hi).form
     have hcell:=hp.cell i hi
     rw [eV] at hcell
     have hb:=hp.begin AP.out hi (fun q hq=>(apTL_in hq).symm)
     rw [eV] at hb
     have HP:=hb.hid
     clear hp eV hb
     go_wp2
     go_loopw [7,8] (fun X x wr4=>∃ k:Nat,k≤16∧x=zI k∧P3 2 22 1 16 w wr4 g N V n (mkTL C) (apTL C n) i U u5 k X) (fun _ x _=>16 - (intOf x).toNat)
     case atStart=>exact⟨0,by omega,rfl,HP.out⟩
     case round =>
      obtain⟨k,hk8,rfl,hq⟩:=hrel
      have HQ:=hq.hid
      clear hq hcell HP
      by_cases hk:k < 16
      ·have hk':(k:Int) < 16:=by omega
       go_wp2_with (at_builtin; refine append_markTL rfl (.tmp 52) (.tmp 58) rfl AP.out hi HQ.out rfl rfl (by omega) ?_; intro X' v' hr'; have HR:=hr'.hid; clear hr')
       exact⟨⟨k+1,by omega,by go_num,HR.out⟩,by simp only [intOf]; omega⟩
      ·obtain rfl:k=16:=by omega
       obtain⟨ax,cx,eX⟩:=HQ.out.form
       subst eX
       go_wp2_with (at_builtin; refine append_longTL rfl (.tmp 60) (.tmp 62) rfl AP.out HQ.out rfl rfl rfl (by omega) ?_; intro lv' v' hr'; have HR:=hr'.hid; clear hr')
       exact⟨⟨i+1,_,by omega,by go_num,HR.out⟩,by simp only [intOf]; omega⟩
    ·obtain rfl:N=i:=by omega
     have H3:=hp.hid
     obtain⟨W,eW⟩:∃ W,W=wr:=⟨_,rfl⟩
     rw [← eW] at H3
     have HMv:Hid (Mv w W (bks N V)):=H3.out.mv
     clear hp hiN hi
     go_wp2
     rw [← eW]
     clear eW
     go_loopw [9] (fun x wz=>∃ i:Nat,i≤N∧x=zI i∧wz=W) (fun x _=>N - (intOf x).toNat)
     case atStart=>exact⟨0,by omega,rfl,rfl⟩
     case round =>
      obtain⟨i,hiN,rfl,ew⟩:=hrel; obtain rfl:=ew.symm
      by_cases hi:i < N
      ·have hi':(i:Int) < (N:Int):=by omega
       have hni:=HN.out i hi
       obtain⟨gl,lc,bu,cu,e1,e2,hu,hf⟩:=H3.out.look (by decide) (by decide) hi
       have HF:=zH hf
       have hv:=H3.out.cell i hi
       have HR:=zH (H3.out.rd i hi)
       obtain⟨ao,cc,eV,h0⟩:=HFm.out i hi
       have H0:=zH h0
       have HV:=zH eV
       rw [eV] at hv
       obtain⟨m,em⟩:∃ m,n i=m:=⟨_,rfl⟩
       rw [em] at hv hni hu
       have HM:Hid (n i=m):=em
       obtain⟨m8,em8⟩:∃ m8,m+16=m8:=⟨_,rfl⟩
       rw [em8] at hu
       have HM8:Hid (m+16=m8):=em8
       subst e1
       clear eV em hf h0 e2 em8
       go_wp2
       go_loopw [11] (fun x wz=>∃ k:Nat,k≤m∧x=zI k∧wz=W) (fun x _=>m - (intOf x).toNat)
       case atStart=>exact⟨0,by omega,rfl,rfl⟩
       case round =>
        obtain⟨k,hkm,rfl,ew⟩:=hrel; obtain rfl:=ew.symm
        by_cases hk:k < m
        ·have hk':(k:Int) < (m:Int):=by omega
         obtain⟨b,c',e3,hx⟩:=HR.out (k) (by rw [HM.out]; omega)
         rw [HV.out] at e3
         simp at e3
         obtain⟨rfl,rfl⟩:=e3
         have hy:=HF.out (k) (by rw [HM.out]; omega)
         rw [apTL_in (by rw [HM.out]; omega)] at hy
         have em:mkTL C i (k)=zI (spN i k):=by unfold mkTL; rw [if_pos (by omega),show (k) / 1=k by omega]
         rw [em] at hx hy
         have esp:spN i k=(i:Int) * 1000+(k:Int):=rfl
         rw [esp] at hx hy
         clear em esp
         have k8':(k:Int) < (m8:Int):=by have:=HM8.out; omega
         go_wp2
         exact⟨⟨k+1,by omega,by go_num,trivial⟩,by simp only [intOf]; omega⟩
        ·obtain rfl:m=k:=by omega
         clear hk hkm
         go_wp2
         go_loopw [12] (fun x wz=>∃ k:Nat,k≤16∧x=zI k∧wz=W) (fun x _=>16 - (intOf x).toNat)
         case atStart=>exact⟨0,by omega,rfl,rfl⟩
         case round =>
          obtain⟨k,hk8,rfl,ew⟩:=hrel; obtain rfl:=ew.symm
          by_cases hk:k < 16
          ·have hk':(k:Int) < 16:=by omega
           have hy:=HF.out ((n i+k)) (by omega)
           rw [apTL_out,HM.out] at hy
           have esp:bhN i k=(-1 - (i:Int)) * 1000 - (k:Int):=rfl
           rw [esp] at hy
           obtain⟨q,eq⟩:∃ q,m+k=q:=⟨_,rfl⟩
           rw [eq] at hy
           have eq':(m:Int)+(k:Int)=(q:Int):=by omega
           have hq':(q:Int) < (m8:Int):=by have:=HM8.out; omega
           have hqb:(q:Int)≤9223372036854775807:=by have:=HM8.out; omega
           clear esp eq hv
           go_wp2
           exact⟨⟨k+1,by omega,by go_num,trivial⟩,by simp only [intOf]; omega⟩
          ·obtain rfl:k=16:=by omega
           go_wp2
           exact⟨⟨i+1,by omega,by go_num,trivial⟩,by simp only [intOf]; omega⟩
      ·go_wp2
       go_ret
       exact⟨rfl,HMv.out⟩
theorem nil49 (w:World):Calls zG 49 #[.slice none 0 0] w fun e w'=>e=.returned (.bool true)∧w'=w:=by
 go_enter Tryz.func49,Tryz.ntmps49
 go_wp2
 refine wp_loop_rounds 1 ?_
 rw [rounds_succ]
 go_wp2
 refine wp_loop_rounds 1 ?_
 rw [rounds_succ]
 go_wp2
 refine wp_loop_rounds 1 ?_
 rw [rounds_succ]
 go_wp2
 go_ret
 exact⟨rfl,rfl⟩
theorem nil50 (w:World):Calls zG 50 #[.slice none 0 0] w fun e w'=>e=.returned (.bool true)∧w'=w:=by
 go_enter Tryz.func50,Tryz.ntmps50
 go_wp2
 refine wp_loop_rounds 1 ?_
 rw [rounds_succ]
 go_wp2
 refine wp_loop_rounds 1 ?_
 rw [rounds_succ]
 go_wp2
 refine wp_loop_rounds 1 ?_
 rw [rounds_succ]
 go_wp2
 go_ret
 exact⟨rfl,rfl⟩
theorem nil51 (w:World):Calls zG 51 #[.slice none 0 0] w fun e w'=>e=.returned (.bool true)∧w'=w:=by
 go_enter Tryz.func51,Tryz.ntmps51
 go_wp2
 refine wp_loop_rounds 1 ?_
 rw [rounds_succ]
 go_wp2
 refine wp_loop_rounds 1 ?_
 rw [rounds_succ]
 go_wp2
 refine wp_loop_rounds 1 ?_
 rw [rounds_succ]
 go_wp2
 go_ret
 exact⟨rfl,rfl⟩
theorem nil52 (w:World):Calls zG 52 #[.slice none 0 0] w fun e w'=>e=.returned (.bool true)∧w'=w:=by
 go_enter Tryz.func52,Tryz.ntmps52
 go_wp2
 refine wp_loop_rounds 1 ?_
 rw [rounds_succ]
 go_wp2
 refine wp_loop_rounds 1 ?_
 rw [rounds_succ]
 go_wp2
 refine wp_loop_rounds 1 ?_
 rw [rounds_succ]
 go_wp2
 go_ret
 exact⟨rfl,rfl⟩
theorem nil53 (w:World):Calls zG 53 #[.slice none 0 0] w fun e w'=>e=.returned (.bool true)∧w'=w:=by
 go_enter Tryz.func53,Tryz.ntmps53
 go_wp2
 refine wp_loop_rounds 1 ?_
 rw [rounds_succ]
 go_wp2
 refine wp_loop_rounds 1 ?_
 rw [rounds_succ]
 go_wp2
 refine wp_loop_rounds 1 ?_
 rw [rounds_succ]
 go_wp2
 go_ret
 exact⟨rfl,rfl⟩
theorem nil54 (w:World):Calls zG 54 #[.slice none 0 0] w fun e w'=>e=.returned (.bool true)∧w'=w:=by
 go_enter Tryz.func54,Tryz.ntmps54
 go_wp2
 refine wp_loop_rounds 1 ?_
 rw [rounds_succ]
 go_wp2
 refine wp_loop_rounds 1 ?_
 rw [rounds_succ]
 go_wp2
 refine wp_loop_rounds 1 ?_
 rw [rounds_succ]
 go_wp2
 go_ret
 exact⟨rfl,rfl⟩
theorem nil55 (w:World):Calls zG 55 #[.slice none 0 0] w fun e w'=>e=.returned (.bool true)∧w'=w:=by
 go_enter Tryz.func55,Tryz.ntmps55
 go_wp2
 refine wp_loop_rounds 1 ?_
 rw [rounds_succ]
 go_wp2
 refine wp_loop_rounds 1 ?_
 rw [rounds_succ]
 go_wp2
 refine wp_loop_rounds 1 ?_
 rw [rounds_succ]
 go_wp2
 go_ret
 exact⟨rfl,rfl⟩
theorem nil56 (w:World):Calls zG 56 #[.slice none 0 0] w fun e w'=>e=.returned (.bool true)∧w'=w:=by
 go_enter Tryz.func56,Tryz.ntmps56
 go_wp2
 refine wp_loop_rounds 1 ?_
 rw [rounds_succ]
 go_wp2
 refine wp_loop_rounds 1 ?_
 rw [rounds_succ]
 go_wp2
 refine wp_loop_rounds 1 ?_
 rw [rounds_succ]
 go_wp2
 go_ret
 exact⟨rfl,rfl⟩
theorem nil57 (w:World):Calls zG 57 #[.slice none 0 0] w fun e w'=>e=.returned (.bool true)∧w'=w:=by
 go_enter Tryz.func57,Tryz.ntmps57
 go_wp2
 refine wp_loop_rounds 1 ?_
 rw [rounds_succ]
 go_wp2
 refine wp_loop_rounds 1 ?_
 rw [rounds_succ]
 go_wp2
 refine wp_loop_rounds 1 ?_
 rw [rounds_succ]
 go_wp2
 go_ret
 exact⟨rfl,rfl⟩
theorem nil58 (w:World):Calls zG 58 #[.slice none 0 0] w fun e w'=>e=.returned (.bool true)∧w'=w:=by
 go_enter Tryz.func58,Tryz.ntmps58
 go_wp2
 refine wp_loop_rounds 1 ?_
 rw [rounds_succ]
 go_wp2
 refine wp_loop_rounds 1 ?_
 rw [rounds_succ]
 go_wp2
 refine wp_loop_rounds 1 ?_
 rw [rounds_succ]
 go_wp2
 go_ret
 exact⟨rfl,rfl⟩
theorem nil59 (w:World):Calls zG 59 #[.slice none 0 0] w fun e w'=>e=.returned (.bool true)∧w'=w:=by
 go_enter Tryz.func59,Tryz.ntmps59
 go_wp2
 refine wp_loop_rounds 1 ?_
 rw [rounds_succ]
 go_wp2
 refine wp_loop_rounds 1 ?_
 rw [rounds_succ]
 go_wp2
 refine wp_loop_rounds 1 ?_
 rw [rounds_succ]
 go_wp2
 go_ret
 exact⟨rfl,rfl⟩
theorem nil60 (w:World):Calls zG 60 #[.slice none 0 0] w fun e w'=>e=.returned (.bool true)∧w'=w:=by
 go_enter Tryz.func60,Tryz.ntmps60
 go_wp2
 refine wp_loop_rounds 1 ?_
 rw [rounds_succ]
 go_wp2
 refine wp_loop_rounds 1 ?_
 rw [rounds_succ]
 go_wp2
 refine wp_loop_rounds 1 ?_
 rw [rounds_succ]
 go_wp2
 go_ret
 exact⟨rfl,rfl⟩
theorem infL69:(Tryz.prog.info? 69).map (fun i=>(i.zero,i.size,i.bytes))=some (some (.slice none 0 0),1,24):=by kernel_rfl
def cmTG (C:Nat→Nat→Value) (i k:Nat) (j q:Nat):Value:=if q % 5=0∧(j < i∨(j=i∧q / 5 < k)) then zI (spI j (q / 5)) else C j q
def mkTG (C:Nat→Nat→Value) (j q:Nat):Value:=if q % 5=0 then zI (spI j (q / 5)) else C j q
def nwTG (m:Int):Array Value:=#[zI m,zI 0,.int .u16 0,.int .u16 0,.slice none 0 0]
def apTG (C:Nat→Nat→Value) (n:Nat→Nat) (j q:Nat):Value:=if q < n j * 5 then mkTG C j q else (nwTG (bhI j (q / 5 - n j))).getD (q % 5) (zI 0)
theorem apTG_in {C:Nat→Nat→Value}{n:Nat→Nat}{j q:Nat}(h:q < n j * 5):apTG C n j q=mkTG C j q:=if_pos h
theorem apTG_out {C:Nat→Nat→Value}{n:Nat→Nat}{j k:Nat}:apTG C n j ((n j+k) * 5)=zI (bhI j k):=by
 unfold apTG
 rw [if_neg (by omega),show ((n j+k) * 5) / 5 - n j=k by omega,show ((n j+k) * 5) % 5=0 by omega]
 rfl
theorem nwTG_at (m:Int):∀ j,j < 5→(nwTG m).toList[j]? = some ((fun r=>(nwTG m).getD r (zI 0)) j)
 | 0,_=>rfl
 | 1,_=>rfl
 | 2,_=>rfl
 | 3,_=>rfl
 | 4,_=>rfl
 | _+5,h=>absurd h (by omega)
theorem nwTG_one (m:Int):∀ u ∈ (nwTG m).toList,u.oneCell'=true:=by
 intro u hu
 simp [nwTG] at hu
 rcases hu with rfl | rfl | rfl | rfl | rfl <;> rfl
theorem P1.startTG {w v:World}{g N:Nat}{V:Nat→Value}{n:Nat→Nat}{C:Nat→Nat→Value}(h:P1 68 5 w v g N V n C):P1 68 5 w v g N V n (cmTG C 0 0) :=
 h.congr (fun j _ q _=>by unfold cmTG; rw [if_neg (by omega)])
theorem P1.nextTG {w v:World}{g N:Nat}{V:Nat→Value}{n:Nat→Nat}{C:Nat→Nat→Value}{i:Nat}(h:P1 68 5 w v g N V n (cmTG C i (n i))):P1 68 5 w v g N V n (cmTG C (i+1) 0) :=
 h.congr (fun j _ q hq=>by
  unfold cmTG
  by_cases e:q % 5=0∧(j < i∨(j=i∧q / 5 < n i))
  ·rw [if_pos e,if_pos ⟨e.1,.inl (by omega)⟩]
  ·rw [if_neg e]
   by_cases e2:q % 5=0∧(j < i+1∨(j=i+1∧q / 5 < 0))
   ·exfalso
    apply e
    refine⟨e2.1,?_⟩
    by_cases e3:j < i
    ·exact .inl e3
    ·have e4:j=i:=by omega
     subst e4
     exact .inr ⟨rfl,by omega⟩
   ·rw [if_neg e2])
theorem P1.markTG {w v:World}{g N:Nat}{V:Nat→Value}{n:Nat→Nat}{C:Nat→Nat→Value}(ap:Aprt w g N V) {i k b c:Nat}(h:P1 68 5 w v g N V n (cmTG C i k)) (hi:i < N) (hV:V i=.slice (some ⟨b,0,none⟩) (n i) c) :
  P1 68 5 w (v.setCell ⟨b,k * 5,none⟩ (zI (spI i k))) g N V n (cmTG C i (k+1)) :=
 (h.put ap (k * 5) hi hV (zI (spI i k))).congr (fun j _ q _=>by
  unfold cmTG
  by_cases e:j=i∧q=k * 5
  ·obtain⟨rfl,rfl⟩:=e
   rw [if_pos ⟨rfl,rfl⟩,if_pos ⟨by omega,.inr ⟨rfl,by omega⟩⟩,show (k * 5) / 5=k by omega]
  ·rw [if_neg e]
   by_cases e':q % 5=0∧(j < i∨(j=i∧q / 5 < k))
   ·rw [if_pos e',if_pos ⟨e'.1,e'.2.elim (fun h=>.inl h) (fun h=>.inr ⟨h.1,by omega⟩)⟩]
   ·rw [if_neg e',if_neg (by omega)])
theorem P1.doneTG {w v:World}{g N:Nat}{V:Nat→Value}{n:Nat→Nat}{C:Nat→Nat→Value}(h:P1 68 5 w v g N V n (cmTG C N 0)):P1 68 5 w v g N V n (mkTG C) :=
 h.congr (fun j hj q _=>by
  unfold cmTG mkTG
  by_cases e:q % 5=0
  ·rw [if_pos ⟨e,.inl hj⟩,if_pos e]
  ·rw [if_neg (fun h=>e h.1),if_neg e])
theorem append_markTG {w v:World}{g N:Nat}{V:Nat→Value}{n:Nat→Nat}{C:Nat→Nat→Value}{i:Nat}{U:Nat→Value}{lv:Value}{k:Nat}{X:Value}{ops:Array Oper}{rest:List Oper}{o:Oper}{a:Act}{Q:Exit→Act→World→Prop}(hgd:o.guard=none) (d x:Operand)
  (ho:o.op=.call { callee:=.builtin .append,args:=#[d,x],argTypes:=#[69,69] }) (ap:Aprt w g N V) (hi:i < N) (h:P3 68 69 5 8 w v g N V n (mkTG C) (apTG C n) i U lv k X) (hs:a.eval d=X) (hx:a.eval x=.slice (some ⟨v§,0,none⟩) 1 1) (hlen:n i+k≤1000000000)
  (hK:∀ X' v',P3 68 69 5 8 w v' g N V n (mkTG C) (apTG C n) i U lv (k+1) X'→wpList Tryz.prog ops Q rest (a.put o.dst X') v') :
  wpList Tryz.prog ops Q (o :: rest) a (v.alloc (.cells (nwTG (bhI i k)) 68)):=by
 obtain⟨m,em⟩:∃ m:Int,m=bhI i k:=⟨_,rfl⟩
 rw [← em]
 obtain⟨i0,h0,hz0,hz1,hz2⟩:=info_parts inf68
 have h':=h.call ap (Bn v (.cells (nwTG m) 68))
 obtain⟨X',v',r1,r2,r3⟩:=J2 (P:=Tryz.prog) (v.alloc (.cells (nwTG m) 68)) 69 o.type 68 i0 _ 5 48 Tryz.underlying69 h0 hz0 hz1 hz2 rfl (by decide) X (n i+k) _ h'.xrow ⟨v§,0,none⟩ (nwTG m).toList rfl (World.news_of_block (Hn v _)) (nwTG_one m) (by unfold maxLen; omega) (by omega)
 refine wpList_plain hgd fun K hK'=>?_
 unfold Oper.wp execOp
 simp only [ho,resolve,invoke,builtin,Sem.run_bind,Sem.run_pure,Result.andThen_ok,List.map_toArray,List.map_cons,List.map_nil,hs,hx,r1]
 refine hK' _ _ (hK X' v' (h'.app (by decide) ap hi (fun q hq=>apTG_in hq) ?_ r3))
 have hr:=Row.snoc (x:=fun r=>(nwTG m).getD r (zI 0)) r2 rfl (nwTG_at m)
 refine (show RowX v' 68 5 X' (n i+(k+1)) _ from .inl hr).congr fun j hj=>?_
 by_cases e:j < (n i+k) * 5
 ·simp only [e,if_true]
 ·simp only [e,if_false]
  unfold apTG
  rw [if_neg (by omega),show j / 5 - n i=k by omega,show j % 5=j - (n i+k) * 5 by omega,em]
theorem append_longTG {w v:World}{g N:Nat}{V:Nat→Value}{n:Nat→Nat}{M A:Nat→Nat→Value}{i:Nat}{U:Nat→Value}{lv:Value}{X:Value}{ops:Array Oper}{rest:List Oper}{o:Oper}{a:Act}{Q:Exit→Act→World→Prop}(hgd:o.guard=none) (d x:Operand)
  (ho:o.op=.call { callee:=.builtin .append,args:=#[d,x],argTypes:=#[24,24] }) (ap:Aprt w g N V) (h:P3 68 69 5 8 w v g N V n M A i U lv 8 X) (hX1:X.oneCell'=true) (hs:a.eval d=lv) (hx:a.eval x=.slice (some ⟨v§,0,none⟩) 1 1) (hlen:i≤1000000)
  (hK:∀ lv' v',P2 68 69 5 8 w v' g N V n M A (i+1) (fun j=>if j=i then X else U j) lv'→wpList Tryz.prog ops Q rest (a.put o.dst lv') v') :
  wpList Tryz.prog ops Q (o :: rest) a (v.alloc (.cells #[X] 69)):=by
 obtain⟨i0,h0,hz0,hz1,hz2⟩:=info_parts infL69
 have h':=h.call ap (Bn v (.cells #[X] 69))
 refine wpList_append_own_at _ hgd d x 24 ho 0 69 i0 _ 1 24 Tryz.underlying24 h0 hz0 hz1 hz2 rfl (by decide) lv i _ hs h'.long ⟨v§,0,none⟩ 1 1 [X] hx rfl (World.news_of_block (Hn v _)) (by intro u hu; simp at hu; rw [hu]; exact hX1) (by unfold maxLen; omega) (by omega) (Nat.zero_le _) ?_
 intro lv' v' r1 r2 _ r4
 refine hK lv' v' (h'.fin (by decide) ap ?_ r2 r4)
 have hr:=Row.snoc (x:=fun _=>X) r1 rfl (fun j hj=>by obtain rfl:j=0:=(by omega); rfl)
 refine hr.congr fun j hj=>?_
 by_cases e:j < i * 1
 ·rw [if_pos e,if_neg (show ¬ j=i by omega)]
 ·rw [if_neg e,if_pos (show j=i by omega)]
theorem ownTG_any (w:World) (g N c:Nat) (V:Nat→Value) (n:Nat→Nat) (C:Nat→Nat→Value) (hC:∀ j k,j < N→k < n j→∃ p,C j (k * 5)=zI p) (hN:N≤1000000) (hn:∀ j,j < N→n j≤100000000) (ap:Aprt w g N V) (h:P1 68 5 w w g N V n C) :
  Calls zG 58 #[.slice (some ⟨g,0,none⟩) N c] w fun e w'=>e=.returned (.bool true)∧Mv w w' (bks N V):=by
 have AP:=ap.hid
 have HFm:Hid (∀ j,j < N→∃ ao c,V j=.slice ao (n j) c∧(0 < n j→∃ b,ao=some ⟨b,0,none⟩)):=fun j hj=>by
  obtain⟨ao,c,e,h1,_⟩:=(h.row j hj).form
  exact⟨ao,c,e,h1⟩
 have H1:=h.startTG.hid
 have HN:=zH hn
 have HC:Hid (∀ i k,∃ p,i < N→k < n i→cmTG C i k i (k * 5)=zI p):=fun i k=>by
  by_cases hh:i < N∧k < n i
  ·obtain⟨p,hp⟩:=hC i k hh.1 hh.2
   exact⟨p,fun _ _=>by unfold cmTG; rw [if_neg (by omega),hp]⟩
  ·exact⟨0,fun a b=>absurd ⟨a,b⟩ hh⟩
 clear ap h hn hC
 go_enter Tryz.func58,Tryz.ntmps58
 go_wp2
 go_loopw [4] (fun x wr=>∃ i:Nat,i≤N∧x=zI i∧P1 68 5 w wr g N V n (cmTG C i 0)) (fun x _=>N - (intOf x).toNat)
 case atStart=>exact⟨0,by omega,rfl,H1.out⟩
 case round =>
  obtain⟨i,hiN,rfl,hp⟩:=hrel
  clear H1
  by_cases hi:i < N
  ·have hi':(i:Int) < (N:Int):=by omega
   have hni:=HN.out i hi
   obtain⟨ao,cc,eV,hV0,_⟩:=(hp.row i hi).form
   have HP:=hp.hid
   have HV:=zH eV
   have H0:=zH hV0
   obtain⟨m,em⟩:∃ m,n i=m:=⟨_,rfl⟩
   have hcell:=hp.cell i hi
   rw [eV,em] at hcell
   rw [em] at hni H0
   have HM:Hid (n i=m):=em
   clear hp eV hV0 em
   go_wp2
   go_loopw [5] (fun x wr2=>∃ k:Nat,k≤m∧x=zI k∧P1 68 5 w wr2 g N V n (cmTG C i k)) (fun x _=>m - (intOf x).toNat)
   case atStart=>exact⟨0,by omega,rfl,HP.out⟩
   case round =>
    obtain⟨k,hkm,rfl,hq⟩:=hrel
    clear hcell
    have hcell:=hq.cell i hi
    rw [HV.out,HM.out] at hcell
    have HQ:=hq.hid
    by_cases hk:k < m
    ·have hk':(k:Int) < (m:Int):=by omega
     obtain⟨b,rfl⟩:=H0.out (by omega)
     have hr:=hq.row i hi
     rw [HV.out,HM.out] at hr
     have z4:=hr.cell (j:=k * 5) (by omega)
     have f4:=hr.frozen (k * 5)
     obtain⟨p,hp⟩:=HC.out i k
     rw [hp hi (by rw [HM.out]; exact hk)] at z4
     have cS:=JR i k (by omega) (by omega)
     obtain⟨sp,esp⟩:∃ sp,spI i k=sp:=⟨_,rfl⟩
     have HSP:Hid (spI i k=sp):=esp
     rw [esp] at cS
     clear hr hq hp esp
     go_wp2_with fail
     go_region_with (go_at_call 91; refine (cS _).mono ?_; rintro _ vv ⟨rfl,q⟩; obtain rfl:=q.symm)
     all_goals go_wp2
     all_goals exact⟨⟨k+1,by omega,by go_num,(by have:=(HQ.out.markTG AP.out hi (k:=k) (by rw [HV.out])).drew; rwa [HSP.out] at this)⟩,by simp only [intOf]; omega⟩
    ·obtain rfl:k=m:=by omega
     clear hq
     go_wp2
     refine⟨⟨i+1,by omega,by go_num,P1.nextTG (by rw [HM.out]; exact HQ.out)⟩,by simp only [intOf]; omega⟩
  ·obtain rfl:N=i:=by omega
   have H2:=(hp.doneTG.done (le:=69) (K:=8) (A:=apTG C n)).hid
   clear hp hiN hi HC
   go_wp2
   go_loopw [3,6] (fun lv x wr3=>∃ (i:Nat) (U:Nat→Value),i≤N∧x=zI i∧P2 68 69 5 8 w wr3 g N V n (mkTG C) (apTG C n) i U lv) (fun _ x _=>N - (intOf x).toNat)
   case atStart=>exact⟨0,_,by omega,rfl,H2.out⟩
   case round =>
    obtain⟨i,U,hiN,rfl,hp⟩:=hrel
    clear H2
    by_cases hi:i < N
    ·have hi':(i:Int) < (N:Int):=by omega
     have hni:=HN.out i hi
     obtain⟨ao,cc,eV,_,_⟩:=(hp.row i (Nat.le_refl _) hi).form
     have hcell:=hp.cell i hi
     rw [eV] at hcell
     have hb:=hp.begin AP.out hi (fun q hq=>(apTG_in hq).symm)
     rw [eV] at hb
     have HP:=hb.hid
     clear hp eV hb
     go_wp2
     go_loopw [7,8] (fun X x wr4=>∃ k:Nat,k≤8∧x=zI k∧P3 68 69 5 8 w wr4 g N V n (mkTG C) (apTG C n) i U u3 k X) (fun _ x _=>8 - (intOf x).toNat)
     case atStart=>exact⟨0,by omega,rfl,HP.out⟩
     case round =>
      obtain⟨k,hk8,rfl,hq⟩:=hrel
      have HQ:=hq.hid
      clear hq hcell HP
      by_cases hk:k < 8
      ·have hk':(k:Int) < 8:=by omega
       have cS:=Jp i k (by omega) (by omega)
       go_wp2_with (first | (go_at_call 92; refine (cS _).mono ?_; rintro _ vv ⟨rfl,q⟩; obtain rfl:=q.symm) | (at_builtin; refine append_markTG rfl (.tmp 53) (.tmp 59) rfl AP.out hi HQ.out rfl rfl (by omega) ?_; intro X' v' hr'; have HR:=hr'.hid; clear hr'))
       exact⟨⟨k+1,by omega,by go_num,HR.out⟩,by simp only [intOf]; omega⟩
      ·obtain rfl:k=8:=by omega
       obtain⟨ax,cx,eX⟩:=HQ.out.form
       subst eX
       go_wp2_with (at_builtin; refine append_longTG rfl (.tmp 61) (.tmp 63) rfl AP.out HQ.out rfl rfl rfl (by omega) ?_; intro lv' v' hr'; have HR:=hr'.hid; clear hr')
       exact⟨⟨i+1,_,by omega,by go_num,HR.out⟩,by simp only [intOf]; omega⟩
    ·obtain rfl:N=i:=by omega
     have H3:=hp.hid
     obtain⟨W,eW⟩:∃ W,W=wr:=⟨_,rfl⟩
     rw [← eW] at H3
     have HMv:Hid (Mv w W (bks N V)):=H3.out.mv
     clear hp hiN hi
     go_wp2
     rw [← eW]
     clear eW
     go_loopw [9] (fun x wz=>∃ i q:Nat,i≤N∧x=zI i∧wz=W.drewN q) (fun x _=>N - (intOf x).toNat)
     case atStart=>exact⟨0,0,by omega,rfl,rfl⟩
     case round =>
      obtain⟨i,nq0,hiN,rfl,rfl⟩:=hrel
      by_cases hi:i < N
      ·have hi':(i:Int) < (N:Int):=by omega
       have hni:=HN.out i hi
       obtain⟨gl,lc,bu,cu,e1,e2,hu,hf⟩:=H3.out.look (by decide) (by decide) hi
       have HF:=zH hf
       have hv:=H3.out.cell i hi
       have HR:=zH (H3.out.rd i hi)
       obtain⟨ao,cc,eV,h0⟩:=HFm.out i hi
       have H0:=zH h0
       have HV:=zH eV
       rw [eV] at hv
       obtain⟨m,em⟩:∃ m,n i=m:=⟨_,rfl⟩
       rw [em] at hv hni hu
       have HM:Hid (n i=m):=em
       obtain⟨m8,em8⟩:∃ m8,m+8=m8:=⟨_,rfl⟩
       rw [em8] at hu
       have HM8:Hid (m+8=m8):=em8
       subst e1
       clear eV em hf h0 e2 em8
       go_wp2
       go_loopw [11] (fun x wz=>∃ k q:Nat,k≤m∧x=zI k∧wz=W.drewN q) (fun x _=>m - (intOf x).toNat)
       case atStart=>exact⟨0,nq0,by omega,rfl,rfl⟩
       case round =>
        obtain⟨k,nq1,hkm,rfl,rfl⟩:=hrel
        by_cases hk:k < m
        ·have hk':(k:Int) < (m:Int):=by omega
         obtain⟨b,c',e3,hx⟩:=HR.out (k * 5) (by rw [HM.out]; omega)
         rw [HV.out] at e3
         simp at e3
         obtain⟨rfl,rfl⟩:=e3
         have hy:=HF.out (k * 5) (by rw [HM.out]; omega)
         rw [apTG_in (by rw [HM.out]; omega)] at hy
         have em:mkTG C i (k * 5)=zI (spI i k):=by unfold mkTG; rw [if_pos (by omega),show (k * 5) / 5=k by omega]
         rw [em] at hx hy
         have cS:=JR i k (by omega) (by omega)
         obtain⟨sp,esp⟩:∃ sp,spI i k=sp:=⟨_,rfl⟩
         rw [esp] at cS hx hy
         clear em esp
         have k8':(k:Int) < (m8:Int):=by have:=HM8.out; omega
         obtain⟨Y,eY⟩:∃ Y,W.drewN nq1=Y:=⟨_,rfl⟩
         have hvY:Y.cell? ⟨g,i,none⟩=some (.slice (some ⟨b,0,none⟩) m cc):=by rw [← eY]; exact hv
         have huY:Y.cell? ⟨gl,i,none⟩=some (.slice (some ⟨bu,0,none⟩) m8 cu):=by rw [← eY]; exact hu
         have hxY:Y.cell? ⟨b,k * 5,none⟩=some (zI sp):=by rw [← eY]; exact hx
         have hyY:Y.cell? ⟨bu,k * 5,none⟩=some (zI sp):=by rw [← eY]; exact hy
         have EY:Hid (W.drewN nq1=Y):=eY
         clear hv hu hx hy
         go_wp2_with fail
         clear eY
         go_quiet ((go_at_call 91; refine Calls.quiet_of_same (cS _)))
         go_wp2_with fail
         exact⟨⟨k+1,nq1+nq,by omega,by go_num,by rw [← EY.out]; exact Jc W nq1 nq⟩,by simp only [intOf]; omega⟩
        ·obtain rfl:m=k:=by omega
         clear hk hkm
         go_wp2
         go_loopw [12] (fun x wz=>∃ k q:Nat,k≤8∧x=zI k∧wz=W.drewN q) (fun x _=>8 - (intOf x).toNat)
         case atStart=>exact⟨0,nq1,by omega,rfl,rfl⟩
         case round =>
          obtain⟨k,nq2,hk8,rfl,rfl⟩:=hrel
          by_cases hk:k < 8
          ·have hk':(k:Int) < 8:=by omega
           have hy:=HF.out ((n i+k) * 5) (by omega)
           rw [apTG_out,HM.out] at hy
           have cS:=Jp i k (by omega) (by omega)
           obtain⟨sp,esp⟩:∃ sp,bhI i k=sp:=⟨_,rfl⟩
           rw [esp] at cS hy
           obtain⟨q,eq⟩:∃ q,m+k=q:=⟨_,rfl⟩
           rw [eq] at hy
           have eq':(m:Int)+(k:Int)=(q:Int):=by omega
           have hq':(q:Int) < (m8:Int):=by have:=HM8.out; omega
           have hqb:(q:Int)≤9223372036854775807:=by have:=HM8.out; omega
           obtain⟨Y,eY⟩:∃ Y,W.drewN nq2=Y:=⟨_,rfl⟩
           have huY:Y.cell? ⟨gl,i,none⟩=some (.slice (some ⟨bu,0,none⟩) m8 cu):=by rw [← eY]; exact hu
           have hyY:Y.cell? ⟨bu,q * 5,none⟩=some (zI sp):=by rw [← eY]; exact hy
           have EY:Hid (W.drewN nq2=Y):=eY
           clear esp eq hu hy hv
           go_wp2_with fail
           clear eY
           go_quiet ((go_at_call 92; refine Calls.quiet_of_same (cS _)))
           go_wp2_with fail
           exact⟨⟨k+1,nq2+nq,by omega,by go_num,by rw [← EY.out]; exact Jc W nq2 nq⟩,by simp only [intOf]; omega⟩
          ·obtain rfl:k=8:=by omega
           go_wp2
           exact⟨⟨i+1,_,by omega,by go_num,rfl⟩,by simp only [intOf]; omega⟩
      ·go_wp2
       go_ret
       exact⟨rfl,JH HMv.out _⟩
end Go.Proofs.YteedmmljahgpjaaGreatDoor
