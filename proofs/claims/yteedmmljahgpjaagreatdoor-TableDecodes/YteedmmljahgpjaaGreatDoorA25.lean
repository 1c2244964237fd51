import Derived.Test.YteedmmljahgpjaaGreatDoorA0
import Derived.Test.YteedmmljahgpjaaGreatDoorA24
import Derived.Test.YteedmmljahgpjaaGreatDoorA12
import Derived.Test.YteedmmljahgpjaaGreatDoorA3
import Derived.BigQuiet
import Derived.Test.YteedmmljahgpjaaGreatDoorA11
import Derived.Test.YteedmmljahgpjaaGreatDoorA7
namespace Go.Proofs.YteedmmljahgpjaaGreatDoor
set_option maxRecDepth 100000
set_option maxHeartbeats 4000000
open Go.RowKit
set_option linter.unusedVariables false
set_option linter.unusedSimpArgs false
theorem OwnK.putAt {w V:World}{b t:Nat}{cs:Array Value}{bs:List (Nat × Nat × Array Value)}{e sz:Nat}{v:Value}{vs:List (Array Value)}(h:OwnK w V ((b,t,cs) :: bs) e sz v vs) (hN:∀ p ∈ bs,p.1≠b) (j:Nat) (u:Value):OwnK w (V.setCell ⟨b,j,none⟩ u) ((b,t,cs.setIfInBounds j u) :: bs) e sz v vs:=by
 obtain⟨q1,q2,q3⟩:=h.K _ (List.mem_cons_self ..)
 refine⟨owns_blk' h.R fun g hg=>heap_setCell_other _ _ _ _ (fun e=>q3 (by rw [hg,e])),h.Z,h.B.setCell q2 _,fun p hp=>?_⟩
 rcases List.mem_cons.1 hp with rfl | hp
 ·exact⟨Hs0 u q1,q2,q3⟩
 ·obtain⟨r1,r2,r3⟩:=h.K p (List.mem_cons_of_mem _ hp)
  exact⟨(heap_setCell_other _ _ _ _ (hN p hp)).trans r1,r2,r3⟩
def htV (f:Nat) (v:Value):Array Value:=#[zI f,v,.bool false]
theorem nvals_all (n:Int):(QF n).all (·.oneCell')=true:=by simp [QF,Value.oneCell']
theorem flat_rep (n:Nat):((List.replicate n (QF (-1))).map Array.toList).flatten=List.replicate n (Value.int .i64 (-1)):=by
 induction n with
 | zero=>rfl
 | succ n ih=>rw [List.replicate_succ,List.map_cons,List.flatten_cons,ih,List.replicate_succ]; rfl
theorem ht_start {w V:World}{C f n:Nat}{bs:List (Nat × Nat × Array Value)}{v:Value}(h:OwnK w V ((C,194,htV f v) :: bs) 3 1 v (List.replicate n (QF (-1)))) (hn:0 < n) :
  ∃ L,Ht V C L f n (fun _=>0) false∧w§≤L∧(∀ p ∈ bs,p.1≠L):=by
 have hK:=h.K _ (List.mem_cons_self ..)
 rcases h.R.2 with ⟨h1,h2⟩ | ⟨g,cap,cur,h1,h2,h3,h4,h5,h6,h7⟩
 ·rw [List.length_replicate] at h2; omega
 ·rw [List.length_replicate] at h1 h7
  rw [flat_rep,Nat.mul_one] at h7
  subst h1
  refine⟨g,⟨⟨cap,hK.1⟩,⟨cur,h3,fun j hj=>?_⟩,fun e=>hK.2.2 (by rw [e]; rfl)⟩,h2,fun p hp e=>(h.K p (List.mem_cons_of_mem _ hp)).2.2 (by rw [e]; rfl)⟩
  have h8:(cur.toList.take n)[j]? = some (Value.int .i64 (-1)):=by rw [h7,List.getElem?_replicate,if_pos hj]
  rw [List.getElem?_take,if_pos hj,Array.getElem?_toList] at h8
  rw [h8]; rfl
theorem upd_ok0 (f:Nat):HOk (upd (fun _=>0) f 1):=fun j=>by unfold upd; split <;> simp
theorem come0 (f:Nat):comeB (fun _=>0) f 0=true∧Qj (fun _=>0) f 0=upd (fun _=>0) f 1:=by
 have:comeB (fun _=>0) f 0=true:=by unfold comeB Qb; simp
 exact⟨this,by unfold Qj; rw [if_pos this]; rfl⟩
theorem rfit_any (t:TbM) (f b:Nat) (w:World) (hl:TbL w t) (hfb:f < b) (hb:b≤t.ds.length) (hm:t.ds.length≤4096) (hst:QB t b (b - f) f=true):Calls zG 69 #[.agg t.vals,.agg (Sp.vals ⟨f,b⟩)] w fun e w'=>e=.returned (.bool (QH t.ds (b - f) f (upd (fun _=>0) f 1)).1)∧Below w§ w w':=by
 have HST0:=JQ _ _ hst
 obtain⟨T,eT⟩:∃ T:Int,(b:Int)=T:=⟨_,rfl⟩
 rw [eT]
 obtain⟨W2,e2⟩:∃ W,(w.alloc (.cells t.vals 26)).alloc (.cells (Sp.vals ⟨f,T⟩) 65)=W:=⟨_,rfl⟩
 have E2:=zH e2
 obtain⟨hn1,hn2,hb2,hs2⟩:=J9 e2
 have HB2:=zH hb2
 have HN1:=zH hn1
 have HN2:=zH hn2
 clear e2
 obtain⟨n,en⟩:∃ n,b - f=n:=⟨_,rfl⟩
 have HST:Hid (∀ k,k < n→Qg t (t.ds.getD (f+k) ⟨0,0⟩) ((f+k:Nat):Int) b=true):=fun k hk=>HST0 (f+k) (by omega) (by omega)
 rw [en]
 have hbn:b=f+n:=by omega
 subst hbn
 have HTT:Hid (T=(f:Int)+(n:Int)):=by show _=_; omega
 clear HST0
 have HL:Hid (TbL w t):=hl
 obtain⟨ANS,eA⟩:∃ q,(QH t.ds n f (upd (fun _=>0) f 1)).1=q:=⟨_,rfl⟩
 have HA:=zH eA
 rw [eA]
 have hC:=Hn W2 (.cells (htV f (.slice none 0 0)) 194)
 have hbC:=Bn W2 (.cells (htV f (.slice none 0 0)) 194)
 have HO0:Hid (OwnK w (W2.alloc (.cells (htV f (.slice none 0 0)) 194)) [(w§+2,194,htV f (.slice none 0 0)),(w§,26,t.vals),(w§+1,65,Sp.vals ⟨f,T⟩)] 3 1 (.slice none 0 0) []):=by
  rw [hs2] at hC
  exact (((OwnK.nil (Qa hb2 hbC) 3 1).add _ _ _ ((hbC.block _ (Qy hn2)).trans hn2) (by omega) (by simp [Value.ownBlock])).add _ _ _ ((hbC.block _ (Qy hn1)).trans hn1) (Nat.le_refl _) (by simp [Value.ownBlock])).add _ _ _ hC (by omega) (by simp [Value.ownBlock])
 have HNE:Hid (∀ p ∈ ([(w§,26,t.vals),(w§+1,65,Sp.vals ⟨f,T⟩)]:List (Nat × Nat × Array Value)),p.1≠w§+2):=fun p hp=>by
  simp at hp
  rcases hp with rfl | rfl
  ·show w§≠w§+2; omega
  ·show w§+1≠w§+2; omega
 have x0:W2.cell? ⟨w§+1,0,none⟩=some (zI f):=Co hn2 0
 have HS2:=zH hs2
 have hf9:f≤4096:=by omega
 have hn9:n≤4096:=by omega
 have hnp:0 < n:=by omega
 have HDS:Hid (f+n≤t.ds.length):=hb
 clear eT eA hC hbC hn1 hn2 hb2 hs2 hl hst en HN1 HN2 HB2 hfb hb hm
 go_enter Tryz.func69,Tryz.ntmps69
 go_upto_region 1 with fail
 rw [E2.out]
 clear E2
 go_upto_region 2 with fail
 rw [show (W2.alloc (.cells #[zI f,.slice none 0 0,.bool false] 194))=W2.alloc (.cells (htV f (.slice none 0 0)) 194) from rfl,HS2.out]
 generalize W2.alloc (.cells (htV f (.slice none 0 0)) 194)=W3 at HO0 ⊢
 clear HS2 x0
 generalize hCC:w§+2=C at HO0 HNE ⊢
 generalize hXX:w§+1=XB at HO0 HNE ⊢
 have HCX:Hid (C=w§+2∧XB=w§+1):=⟨hCC.symm,hXX.symm⟩
 clear hCC hXX
 have x0:W3.cell? ⟨XB,0,none⟩=some (zI f):=Co (HO0.out.K (XB,65,Sp.vals ⟨f,T⟩) (by simp)).1 0
 go_wp2_with fail
 clear x0
 go_loopw [6] (fun q wr=>∃ (i:Nat) (v:Value),i≤n+1∧q=zI ((f:Int)+(i:Int))∧Hid (OwnK w wr [(C,194,htV f v),(w§,26,t.vals),(XB,65,Sp.vals ⟨f,T⟩)] 3 1 v (List.replicate i (QF (-1))))) (fun q _=>((f:Int)+(n:Int)+1 - intOf q).toNat)
 case atStart=>exact⟨0,_,by omega,by simp,HO0⟩
 case round =>
  obtain⟨i,v,hi,rfl,HO⟩:=hrel
  have x1:wr.cell? ⟨XB,1,none⟩=some (zI T):=Co (HO.out.K (XB,65,Sp.vals ⟨f,T⟩) (by simp)).1 1
  have hTT:=HTT.out
  by_cases hlt:i < n+1
  ·have hlt':(f:Int)+(i:Int)≤T:=by omega
   have hmx:(f:Int)+(i:Int)+1≤9223372036854775807:=by omega
   clear hTT
   have cb:wr.cell? ⟨C,1,none⟩=some v:=Co HO.out.box 1
   have HLL:Hid ((List.replicate i (QF (-1))).length≤1000000):=by show _≤_; rw [List.length_replicate]; omega
   go_wp2_with (first | (refine Qq rfl 192 3 (.const (zI (-1))) rfl (QF (-1)) (zI (-1)) rfl rfl 1 _ Tryz.underlying192 8 inf3 rfl rfl (by decide) (by decide) ?_) | (refine Je HO.out 192 (QF (-1)) rfl (nvals_all _) _ 8 Tryz.underlying192 inf3 rfl (by decide) HLL.out (by decide) rfl (.tmp 24) (.tmp 25) rfl rfl rfl ?_; intro g cap w8 HO8; have xb:w8.cell? ⟨C,1,none⟩=some v:=Co HO8.box 1; have fb:w8.frozen? ⟨C,1,none⟩=false:=Fo HO8.box 1))
   rw [show (List.replicate i (QF (-1))).length=i from List.length_replicate] at HO8
   refine⟨⟨i+1,.slice (some ⟨g,0,none⟩) (i+1) cap,hlt,by congr 1,?_⟩,by simp only [intOf]; omega⟩
   have hq:=HO8.putAt HNE.out 1 (.slice (some ⟨g,0,none⟩) (i+1) cap)
   rw [List.replicate_succ']
   exact hq
  ·obtain rfl:i=n+1:=by omega
   obtain⟨U,rfl⟩:∃ U,U=wr:=⟨wr,rfl⟩
   have hlt':¬ ((f:Int)+((n:Int)+1)≤T):=by omega
   clear hTT
   obtain⟨L,hH,hL1,hL2⟩:=ht_start HO.out (by omega)
   have hT:=(HO.out.K (w§,26,t.vals) (by simp)).1
   have hX:=(HO.out.K (XB,65,Sp.vals ⟨f,T⟩) (by simp)).1
   have HB3:=zH HO.out.B
   have HLT:Hid (w§≤L∧L≠w§∧L≠XB):=⟨hL1,fun e=>hL2 (w§,26,t.vals) (by simp) e.symm,fun e=>hL2 (XB,65,Sp.vals ⟨f,T⟩) (by simp) e.symm⟩
   have HTB:=zH hT
   have HXB:=zH hX
   have xx0:U.cell? ⟨XB,0,none⟩=some (zI f):=Co hX 0
   have cC:Calls zG 103 #[zP C,zI (f:Int),zI 0] U fun e w'=>e=.returned (.tuple #[])∧Ht w' C L f (n+1) (upd (fun _=>0) f 1) false∧Mv U w' (fun k=>k=C∨k=L):=by
    have h:=QU U C L f (n+1) (fun _=>0) false hH (fun _=>⟨by show (0:Int)≤0; omega,by show (0:Int)≤65; omega⟩) 0 (by omega) hf9 (by omega) 0
    rw [show (f:Int)+((0:Nat):Int)=(f:Int) by simp] at h
    refine h.mono ?_
    rintro e w' ⟨a,b,c⟩
    refine⟨a,?_,c⟩
    rw [show (f+0)=f from rfl,(come0 f).1,(come0 f).2] at b
    exact b
   clear HO hH hL1 hL2 hT hX HO0
   go_wp2_with fail
   refine cC.mono ?_
   rintro e w5 ⟨rfl,hK5,hM5⟩
   have HK5:=zH hK5
   have HM5:=zH hM5
   have HFX:Hid (∀ v:World,Mv U v (fun k=>k=C∨k=L)→v.heap[XB]? = some (.cells (Sp.vals ⟨f,T⟩) 65 (0,0))∧v.heap[w§]? = some (.cells t.vals 26 (0,0))∧Below w§ w v∧TbL v t):=fun v hv=>by
    have h1:=HLT.out
    have h2:=HCX.out
    have hB:Below w§ w v:=HB3.out.trans (hv.below HB3.out.size (fun b hb=>by rcases hb with rfl | rfl <;> omega))
    refine⟨(hv.block _ (Qy HXB.out) (fun e=>by rcases e with e | e <;> omega)).trans HXB.out,(hv.block _ (Qy HTB.out) (fun e=>by rcases e with e | e <;> omega)).trans HTB.out,hB,HL.out.on hB⟩
   have x0:w5.cell? ⟨XB,0,none⟩=some (zI f):=Co (HFX.out w5 hM5).1 0
   clear cC hK5 hM5 xx0 x1 hlt'
   go_wp2_with fail
   clear x0
   go_loopw [7] (fun q wv=>∃ (k:Nat) (h:Nat→Int) (bad:Bool),k≤n∧q=zI ((f:Int)+(k:Int))∧Hid (Ht wv C L f (n+1) h bad)∧Hid (HOk h)∧Hid (bad=false→(QH t.ds (n - k) (f+k) h).1=ANS)∧Hid (bad=true→ANS=false)∧Hid (Mv U wv (fun k=>k=C∨k=L))) (fun q _=>((f:Int)+(n:Int) - intOf q).toNat)
   case atStart=>exact⟨0,_,false,by omega,by simp,HK5,upd_ok0 f,fun _=>HA.out,fun e=>(by cases e),HM5⟩
   case round =>
    obtain⟨k,h,bad,hk,rfl,HK,HOKK,HF1,HF2,HM⟩:=hrel
    obtain⟨hx,ht0,hB,hTL⟩:=HFX.out wr HM.out
    have HBW:=zH hB
    obtain⟨x0,x1⟩:=cl2 hx
    have hTT:=HTT.out
    obtain⟨cap,k1⟩:=HK.out.c
    obtain⟨cs,k2,k3⟩:=HK.out.l
    have c1:wr.cell? ⟨C,1,none⟩=some (.slice (some ⟨L,0,none⟩) ((n+1:Nat)) cap):=Co k1 1
    have c2:wr.cell? ⟨C,2,none⟩=some (.bool bad):=Co k1 2
    have ln:wr.cell? ⟨L,n,none⟩=some (zI (h (f+n) - 1)):=(Co k2 n).trans (k3 n (by omega))
    have lk:wr.cell? ⟨L,k,none⟩=some (zI (h (f+k) - 1)):=(Co k2 k).trans (k3 k (by omega))
    have hs1:T - (f:Int)=(n:Int):=by omega
    have hs2:(f:Int)+(k:Int) - (f:Int)=(k:Int):=by omega
    have hnn:(n:Int) < ((n+1:Nat):Int):=by omega
    have hnn2:(n:Int) < (n:Int)+1:=by omega
    have hkn:(k:Int) < ((n+1:Nat):Int):=by omega
    have hkn2:(k:Int) < (n:Int)+1:=by omega
    clear hx hB k1 k2 k3
    cases bad with
    | true =>
     have HN:Hid (ANS=false):=HF2.out rfl
     clear HF1 HF2 lk ln
     by_cases hlt:k < n
     ·have hlt':(f:Int)+(k:Int) < T:=by omega
      clear hTT
      go_wp2_with fail
      go_quiet (fail)
      go_wp2_with fail
      go_ret
      exact⟨by rw [HN.out]; rfl,Qz HBW.out _⟩
     ·obtain rfl:k=n:=by omega
      have hlt':¬ ((f:Int)+(k:Int) < T):=by omega
      clear hTT
      go_wp2_with fail
      go_quiet (fail)
      go_wp2_with fail
      go_ret
      exact⟨by rw [HN.out]; rfl,Qz HBW.out _⟩
    | false =>
     by_cases hlt:k < n
     ·have hlt':(f:Int)+(k:Int) < T:=by omega
      clear hTT
      have hmx:(f:Int)+(k:Int)+1≤9223372036854775807:=by omega
      have hF:=HF1.out rfl
      rw [show n - k=(n - (k+1))+1 by omega] at hF
      simp only [QH] at hF
      have hge:=HOKK.out (f+k)
      obtain⟨Y,eY⟩:∃ Y,h (f+k) - 1=Y:=⟨_,rfl⟩
      rw [eY] at lk hF
      have hY:h (f+k)=Y+1:=by omega
      clear ln HF1 HF2
      cases hY0:decide (Y < 0) with
      | true =>
       have HN:Hid (ANS=false):=by
        show _=_
        have:=of_decide_eq_true hY0
        rw [← hF,if_pos (by rw [hY]; simp; omega)]
       clear hF hY hge eY
       go_wp2_with fail
       go_quiet (fail)
       go_wp2_with fail
       go_ret
       exact⟨by rw [HN.out]; rfl,Qz HBW.out _⟩
      | false =>
       have hYp:0≤Y:=by have:=of_decide_eq_false hY0; omega
       rw [if_neg (by rw [hY]; simp; omega)] at hF
       have HDD:=HDS.out
       obtain⟨bb,o,ea,r1⟩:=QP InM.sz hTL.D (f+k) (by omega)
       have hgd:t.ds.getD (f+k) ⟨0,0⟩=t.ds[f+k]'(by omega):=by rw [List.getD_eq_getElem?_getD,List.getElem?_eq_getElem (by omega)]; rfl
       have hsb:=HST.out k hlt
       rw [hgd] at hF hsb
       obtain⟨d,ed⟩:∃ d,t.ds[f+k]'(by omega)=d:=⟨_,rfl⟩
       rw [ed] at r1 hF hsb
       have c4:wr.cell? ⟨w§,4,none⟩=some (.slice (some ⟨bb,o,none⟩) t.ds.length t.dc):=by rw [← ea]; exact Co ht0 4
       have hfl:(f:Int)+(k:Int) < (t.ds.length:Int):=by omega
       have hjj:(d.k == 6 || d.k == 7 || d.k == 8 || d.k == 9)=true→(f:Int)≤d.a∧d.a < (f:Int)+((n+1:Nat):Int):=fun e=>by
        have hwb:Qb (((f+k:Nat):Int)+1) d.a ((f+n:Nat):Int)=true:=by
         unfold Qg at hsb
         by_cases e6:d.k=6
         ·simpa [e6] using hsb
         by_cases e7:d.k=7
         ·simpa [e7] using hsb
         by_cases e8:d.k=8
         ·simpa [e8] using hsb
         by_cases e9:d.k=9
         ·simpa [e9] using hsb
         ·simp [e6,e7,e8,e9] at e
        unfold Qb at hwb
        simp at hwb
        omega
       have HRG:Hid (∀ q,(wr.drewN q).rangeAt bb (o+(f+k) * 2) d.vals.toList):=fun q=>rng_on r1 ⟨rfl,rfl,rfl,Nat.le_refl _,fun _ _=>rfl⟩
       have cS:=fun q=>rstep_any (wr.drewN q) C L f (n+1) h (HK.out.mv ⟨rfl,rfl,rfl,Nat.le_refl _,fun _ _=>rfl⟩) HOKK.out k (by omega) hf9 (by omega) d Y hY hYp hjj
       have HCS:=QY cS
       have HFF:=QY hF
       have HMD:Hid (∀ q,Mv U (wr.drewN q) (fun k=>k=C∨k=L)):=fun q=>⟨HM.out.os,HM.out.tape,HM.out.output,HM.out.size,HM.out.block⟩
       clear hF hY hge eY hYp HDD r1 hgd hsb ed hjj cS hTL ht0 ea
       go_wp2_with fail
       go_quiet (fail)
       clear hY0 lk hs2 hkn hkn2 x0
       go_wp2_with (refine wpList_load_mid rfl 61 (.tmp 63) rfl bb (o+(f+k) * 2) rfl d.vals.toList _ (HRG.out _) Tryz.underlying61 rfl (by show _=some 2; exact Jq) ?_; rw [Array.toArray_toList])
       refine (HCS.out _).mono ?_
       rintro e w6 ⟨h',b',rfl,q1,q2,q3,q4,q5⟩
       have HQ1:=zH q1
       have HQ4:Hid (HOk h'):=q4
       have HM6:Hid (Mv U w6 (fun k=>k=C∨k=L)):=(HMD.out _).trans q5 (fun _ e=>.inl e)
       have HG1:Hid (b'=false→(QH t.ds (n - (k+1)) (f+(k+1)) h').1=ANS):=fun e=>by
        have h1:(goF h d (f+k) Y).1=true:=by rw [e] at q2; simpa using q2.symm
        have h2:=HFF.out
        rw [if_pos h1,← q3 e] at h2
        exact h2
       have HG2:Hid (b'=true→ANS=false):=fun e=>by
        have h1:(goF h d (f+k) Y).1=false:=by rw [e] at q2; simpa using q2.symm
        have h2:=HFF.out
        rw [h1] at h2
        exact h2.symm
       clear q1 q2 q3 q4 q5 HFF HCS
       go_wp2_with fail
       exact⟨⟨k+1,h',b',hlt,by congr 1,HQ1,HQ4,HG1,HG2,HM6⟩,by simp only [intOf]; omega⟩
     ·obtain rfl:k=n:=by omega
      have hlt':¬ ((f:Int)+(k:Int) < T):=by omega
      clear hTT
      have hF:=HF1.out rfl
      rw [Nat.sub_self] at hF
      simp only [QH] at hF
      obtain⟨Y,eY⟩:∃ Y,h (f+k) - 1=Y:=⟨_,rfl⟩
      have HN:Hid (ANS=(Y == 1)):=by
       show _=_
       rw [← hF,← eY]
       rw [Bool.eq_iff_iff,beq_iff_eq,beq_iff_eq]; omega
      rw [eY] at lk
      clear ln HF1 HF2 hF eY
      go_wp2_with fail
      go_quiet (fail)
      go_wp2_with fail
      go_ret
      exact⟨by rw [HN.out]; rfl,Qz HBW.out _⟩
structure Bs (w V:World) (bs:List Bx):Prop where
 B:Below w§ w V
 K:∀ p ∈ bs,V.heap[p.1]? = some (.cells p.2.2 p.2.1 (0,0))∧w§≤p.1
 N:(bs.map (·.1)).Nodup
theorem Bs.on {w V V':World}{bs:List Bx}(h:Bs w V bs) (k:Below V§ V V'):Bs w V' bs :=
 ⟨Qa h.B k,fun p hp=>⟨(k.block _ (Qy (h.K p hp).1)).trans (h.K p hp).1,(h.K p hp).2⟩,h.N⟩
theorem Bs.new {w V V':World}{bs:List Bx}(h:Bs w V bs) (k:Below V§ V V') {g t:Nat}{cs:Array Value}(hg:V§≤g) (hh:V'.heap[g]? = some (.cells cs t (0,0))):Bs w V' ((g,t,cs) :: bs):=by
 refine⟨Qa h.B k,fun p hp=>?_,?_⟩
 ·rcases List.mem_cons.1 hp with rfl | hp
  ·exact⟨hh,Nat.le_trans h.B.size hg⟩
  ·exact (h.on k).K p hp
 ·rw [List.map_cons,List.nodup_cons]
  refine⟨fun e=>?_,h.N⟩
  obtain⟨p,hp,e⟩:=List.mem_map.1 e
  have:=Qy (h.K p hp).1
  simp only at e
  omega
theorem Bs.perm {w V:World}{bs bs':List Bx}(h:Bs w V bs) (p:bs.Perm bs'):Bs w V bs' :=
 ⟨h.B,fun q hq=>h.K q (p.mem_iff.2 hq),(p.map _).nodup_iff.1 h.N⟩
def Lst (w:World) (nb:List Bx) (e sz:Nat) (v:Value) (vs:List (Array Value)):Prop :=
 (∀ x ∈ vs,x.size=sz)∧(∀ V:World,(∀ b ∈ nb,V.heap[b.1]? = some (.cells b.2.2 b.2.1 (0,0)))→V.ownsRow w§ e sz v vs.length (vs.map Array.toList).flatten)∧∀ g,v.ownBlock=some g→∃ b ∈ nb,b.1=g
theorem Lst.nil (w:World) (e sz:Nat):Lst w [] e sz (.slice none 0 0) []:=⟨fun x hx=>(by cases hx),fun V _=>⟨by simp,.inl ⟨rfl,rfl⟩⟩,fun g hg=>by simp [Value.ownBlock] at hg⟩
theorem Bs.own {w V:World}{nb bs:List Bx}{e sz:Nat}{v:Value}{vs:List (Array Value)}(h:Bs w V (nb ++ bs)) (l:Lst w nb e sz v vs):OwnK w V bs e sz v vs:=by
 refine⟨l.2.1 V fun b hb=>(h.K b (List.mem_append_left _ hb)).1,l.1,h.B,fun p hp=>⟨(h.K p (List.mem_append_right _ hp)).1,(h.K p (List.mem_append_right _ hp)).2,fun e=>?_⟩⟩
 obtain⟨b,hb,hbp⟩:=l.2.2 _ e
 have hn:=h.N
 rw [List.map_append,List.nodup_append] at hn
 exact hn.2.2 _ (List.mem_map.2 ⟨b,hb,rfl⟩) _ (List.mem_map.2 ⟨p,hp,rfl⟩) hbp
theorem OwnK.fin {w V:World}{bs:List Bx}{e sz:Nat}{v:Value}{vs:List (Array Value)}(h:OwnK w V bs e sz v vs) (n:(bs.map (·.1)).Nodup) :
  ∃ (nb:List Bx) (a:Option Addr) (c:Nat),v=.slice a vs.length c∧Bs w V (nb ++ bs)∧Lst w nb e sz v vs∧Keep nb (fun U=>SlAt U sz a c vs):=by
 rcases h.R.2 with ⟨h1,h2⟩ | ⟨g,cap,cur,h1,h2,h3,h4,h5,h6,h7⟩
 ·have hv:vs = []:=List.eq_nil_of_length_eq_zero h2
  subst hv h1
  exact⟨[],none,0,rfl,⟨h.B,fun p hp=>⟨(h.K p hp).1,(h.K p hp).2.1⟩,n⟩,Lst.nil _ _ _,fun U _=>⟨Nat.le_refl _,Nat.zero_le _,fun i hi=>by simp at hi⟩⟩
 ·subst h1
  refine⟨[(g,e,cur)],some ⟨g,0,none⟩,cap,rfl,⟨h.B,fun p hp=>?_,?_⟩,⟨h.Z,fun U hU=>⟨h.R.1,.inr ⟨g,cap,cur,rfl,h2,hU _ (List.mem_singleton.2 rfl),h4,h5,h6,h7⟩⟩,fun g' hg'=>⟨_,List.mem_singleton.2 rfl,by simpa [Value.ownBlock] using hg'⟩⟩,fun U hU=>?_⟩
  ·rcases List.mem_cons.1 (by simpa using hp) with rfl | hp
   ·exact⟨h3,h2⟩
   ·exact⟨(h.K p hp).1,(h.K p hp).2.1⟩
  ·rw [List.singleton_append,List.map_cons,List.nodup_cons]
   refine⟨fun e'=>?_,n⟩
   obtain⟨p,hp,e'⟩:=List.mem_map.1 e'
   exact (h.K p hp).2.2 (by simp [Value.ownBlock]; exact e'.symm)
  ·have hc:=hU _ (List.mem_singleton.2 rfl)
   have hO:OwnK U U [] e sz (.slice (some ⟨g,0,none⟩) vs.length cap) vs→SlAt U sz (some ⟨g,0,none⟩) cap vs:=fun k=>by
    obtain⟨a,c,e1,e2⟩:=k.sl
    cases e1
    exact e2
   refine⟨h4,by unfold maxLen at h5; omega,fun i hi=>⟨g,0,rfl,fun j hj=>?_⟩⟩
   rw [Co hc,Nat.zero_add]
   have hlt:i * sz+j < vs.length * sz:=by
    have:(i+1) * sz≤vs.length * sz:=Nat.mul_le_mul hi (Nat.le_refl _)
    rw [Nat.add_mul] at this
    omega
   rw [← QR vs h.Z i hi j hj,← h7,List.getElem?_take,if_pos hlt,Array.getElem?_toList]
theorem Bs.set {w V:World}{R t:Nat}{cs:Array Value}{bs:List Bx}(h:Bs w V ((R,t,cs) :: bs)) (j:Nat) (v:Value):Bs w (V.setCell ⟨R,j,none⟩ v) ((R,t,cs.setIfInBounds j v) :: bs):=by
 have hR:=h.K (R,t,cs) (List.mem_cons_self ..)
 have hN:=h.N
 rw [List.map_cons,List.nodup_cons] at hN
 refine⟨h.B.setCell hR.2 v,fun p hp=>?_,by rw [List.map_cons,List.nodup_cons]; exact hN⟩
 rcases List.mem_cons.1 hp with rfl | hp
 ·exact⟨Hs0 v hR.1,hR.2⟩
 ·have hp2:=h.K p (List.mem_cons_of_mem _ hp)
  exact⟨(Below.heap_setCell _ _ _ _ (fun e=>hN.1 (List.mem_map.2 ⟨p,hp,e⟩))).trans hp2.1,hp2.2⟩
theorem Bs.row {w V:World}{R t:Nat}{cs:Array Value}{bs:List Bx}(h:Bs w V ((R,t,cs) :: bs)) (ds:Array Value):Bs w (V.setRow R ds) ((R,t,ds) :: bs):=by
 have hR:=h.K (R,t,cs) (List.mem_cons_self ..)
 have hN:=h.N
 rw [List.map_cons,List.nodup_cons] at hN
 refine⟨Qc h.B hR.2 _,fun p hp=>?_,by rw [List.map_cons,List.nodup_cons]; exact hN⟩
 rcases List.mem_cons.1 hp with rfl | hp
 ·exact⟨setRow_heap _ _ _ _ _ _ hR.1,hR.2⟩
 ·have hp2:=h.K p (List.mem_cons_of_mem _ hp)
  exact⟨(setRow_other _ _ _ _ (fun e=>hN.1 (List.mem_map.2 ⟨p,hp,e⟩))).trans hp2.1,hp2.2⟩
theorem Bs.drewN {w V:World}{bs:List Bx}(h:Bs w V bs) (n:Nat):Bs w (V.drewN n) bs:=h.on ⟨rfl,rfl,rfl,Nat.le_refl _,fun _ _=>rfl⟩
def rdV (s:ByteArray) (p:Int) (b:Bool):Array Value:=#[.string s,zI p,.bool b]
def numD (k:Int) (l:List UInt8) (q:Int × Bool):Int × (Int × Bool):=if q.2 then (0,(q.1,true)) else match Qh k l q.1 with
 | some r=>(r.1,(r.2,false))
 | none=>(0,(q.1,true))
theorem numD_bad (k:Int) (l:List UInt8) (p:Int):numD k l (p,true)=(0,(p,true)):=rfl
theorem numD_no {k:Int}{l:List UInt8}{p:Int}(h:W.takeE l p≠0∨((W.takeN l p:Nat):Int) > k):numD k l (p,false)=(0,(p,true)):=by
 have e:Qh k l p=none:=by
  unfold Qh numR
  by_cases h0:W.takeE l p=0
  ·rw [if_pos h0]
   rcases h with h | h
   ·exact absurd h0 h
   ·simp; omega
  ·rw [if_neg h0]; rfl
 simp [numD,e]
theorem numD_ok {k:Int}{l:List UInt8}{p:Int}(h0:W.takeE l p=0) (h:((W.takeN l p:Nat):Int)≤k):numD k l (p,false)=(((W.takeN l p:Nat):Int),(W.takeP l p,false)):=by
 have e:Qh k l p=some (((W.takeN l p:Nat):Int),W.takeP l p):=by
  unfold Qh numR
  rw [if_pos h0]
  simp [h]
 simp [numD,e]
theorem numD_bd (k:Int) (hk:0≤k) (l:List UInt8) (q:Int × Bool):0≤(numD k l q).1∧(numD k l q).1≤k:=by
 obtain⟨p,b⟩:=q
 cases b with
 | true=>rw [numD_bad]; exact⟨Int.le_refl _,hk⟩
 | false =>
  by_cases h:W.takeE l p≠0∨((W.takeN l p:Nat):Int) > k
  ·rw [numD_no h]; exact⟨Int.le_refl _,hk⟩
  ·rw [not_or] at h
   rw [numD_ok (Classical.not_not.1 h.1) (by omega)]
   simp only
   omega
def OutN1 (w:World) (R:Nat) (s:ByteArray) (bs:List Bx) (r:Int × (Int × Bool)) (e:Ending) (V':World):Prop:=e=.returned (zI r.1)∧Bs w V' ((R,102,rdV s r.2.1 r.2.2) :: bs)
theorem rnum_any {w V:World}{R:Nat}{s:ByteArray}{p:Int}{b:Bool}{bs:List Bx}(h:Bs w V ((R,102,rdV s p b) :: bs)) (k:Int) (hk:0≤k∧k≤100000) (hs:s.size≤1099511627776) :
  Calls zG 46 #[zP R,.int .u64 k] V (OutN1 w R s bs (numD k s.data.toList (p,b))):=by
 have HB:=zH h
 have hn:=(h.K _ (List.mem_cons_self ..)).1
 obtain⟨c0,c1,c2⟩:=cl3 hn
 have f1:=Fo hn 1
 have f2:=Fo hn 2
 cases b with
 | true =>
  rw [numD_bad]
  clear h hn f1 f2
  go_enter Tryz.func46,Tryz.ntmps46
  go_wp2_with fail
  go_ret
  exact⟨rfl,HB.out⟩
 | false =>
  have cT:=fun v=>W.rtake_any s p hs v
  obtain⟨E,eE⟩:∃ E:Int,((W.takeE s.data.toList p:Nat):Int)=E:=⟨_,rfl⟩
  obtain⟨N,eN⟩:∃ N:Int,((W.takeN s.data.toList p:Nat):Int)=N:=⟨_,rfl⟩
  obtain⟨P,eP⟩:∃ P:Int,W.takeP s.data.toList p=P:=⟨_,rfl⟩
  obtain⟨r,er⟩:∃ r,numD k s.data.toList (p,false)=r:=⟨_,rfl⟩
  rw [eE,eN,eP] at cT
  have hN0:0≤N:=by omega
  rw [er]
  clear h hn
  by_cases hE:E=0
  ·by_cases hNk:N > k
   ·have HR:Hid (r=(0,(p,true))):=by show _=_; rw [← er]; exact numD_no (.inr (by omega))
    have hE0:(E != 0)=false:=by rw [hE]; rfl
    clear eE eN eP er hE
    go_enter Tryz.func46,Tryz.ntmps46
    go_upto_region 3 with fail
    go_quiet ((go_at_call 86; refine Calls.quiet_of_same (cT _)))
    go_wp2_with fail
    go_ret
    rw [HR.out]
    exact⟨rfl,(HB.out.drewN _).set 2 (.bool true)⟩
   ·have HR:Hid (r=(N,(P,false))):=by
     show _=_
     rw [← er,← eN,← eP]
     exact numD_ok (by omega) (by omega)
    have hE0:(E != 0)=false:=by rw [hE]; rfl
    have hN1:N≤9223372036854775807:=by omega
    clear eE eN eP er hE
    go_enter Tryz.func46,Tryz.ntmps46
    go_upto_region 3 with fail
    go_quiet ((go_at_call 86; refine Calls.quiet_of_same (cT _)))
    go_wp2_with fail
    go_ret
    rw [HR.out]
    exact⟨rfl,(HB.out.drewN _).set 1 (zI P)⟩
  ·have HR:Hid (r=(0,(p,true))):=by show _=_; rw [← er]; exact numD_no (.inl (by omega))
   have hE0:(E != 0)=true:=bne_iff_ne.2 hE
   clear eE eN eP er hE
   go_enter Tryz.func46,Tryz.ntmps46
   go_upto_region 3 with fail
   go_quiet ((go_at_call 86; refine Calls.quiet_of_same (cT _)))
   go_wp2_with fail
   go_ret
   rw [HR.out]
   exact⟨rfl,(HB.out.drewN _).set 2 (.bool true)⟩
theorem Bs.tail {w V:World}{x:Bx}{bs:List Bx}(h:Bs w V (x :: bs)):Bs w V bs:=by
 have hN:=h.N
 rw [List.map_cons,List.nodup_cons] at hN
 exact⟨h.B,fun p hp=>h.K p (List.mem_cons_of_mem _ hp),hN.2⟩
theorem Bs.swap {w V:World}{x y:Bx}{bs:List Bx}(h:Bs w V (x :: y :: bs)):Bs w V (y :: x :: bs):=h.perm (List.Perm.swap _ _ _)
theorem size65d:(Tryz.prog.info? 65).map (·.size)=some 2:=by kernel_rfl
theorem sp_all (x:Sp):x.vals.all (·.oneCell')=true:=by simp [Sp.vals,Value.oneCell']
def OutSp (w:World) (R:Nat) (s:ByteArray) (bs:List Bx) (f:Int) (r:Int × (Int × Bool)) (e:Ending) (V':World):Prop:=e=.returned (.agg (Sp.vals ⟨f,f+r.1⟩))∧Bs w V' ((R,102,rdV s r.2.1 r.2.2) :: bs)
theorem rspan_d {w V:World}{R:Nat}{s:ByteArray}{p:Int}{b:Bool}{bs:List Bx}(h:Bs w V ((R,102,rdV s p b) :: bs)) (f:Int) (hf:0≤f∧f≤1000000000000) (hs:s.size≤1099511627776) :
  Calls zG 88 #[zP R,zI f] V (OutSp w R s bs f (numD 4096 s.data.toList (p,b))):=by
 have hbd:=numD_bd 4096 (by decide) s.data.toList (p,b)
 have hn1:=Hn V (.cells #[zI 0,zI 0] 65)
 have hB1:=h.new (Bn V (.cells #[zI 0,zI 0] 65)) (Nat.le_refl _) hn1
 obtain⟨V1,e1⟩:∃ W,V.alloc (.cells #[zI 0,zI 0] 65)=W:=⟨_,rfl⟩
 have E1:=zH e1
 rw [e1] at hB1
 have cN:=rnum_any hB1.swap 4096 (by decide) hs
 obtain⟨r,er⟩:∃ r,numD 4096 s.data.toList (p,b)=r:=⟨_,rfl⟩
 rw [er] at cN hbd ⊢
 have s1:-9223372036854775808≤f+r.1∧f+r.1≤9223372036854775807:=by omega
 obtain⟨n,q,c⟩:=r
 simp only at s1
 clear h hn1 hB1 e1 er hbd
 go_enter Tryz.func88,Tryz.ntmps88
 go_upto_region 1 with fail
 rw [E1.out]
 clear E1
 go_wp2_with fail
 refine cN.mono ?_
 rintro e V2 ⟨rfl,hB2⟩
 have HB2:=zH hB2.swap
 have HN2:Hid (V2.heap[V§]? = some (.cells #[zI 0,zI 0] 65 (0,0))):=(HB2.out.K _ (List.mem_cons_self ..)).1
 have HN3:Hid ((V2.setRow V§ #[zI f,zI (f+n)]).heap[V§]? = some (.cells #[zI f,zI (f+n)] 65 (0,0))):=setRow_heap _ _ _ _ _ _ HN2.out
 clear cN hB2
 go_wp2_with (refine wpList_store_row rfl 65 (.tmp 4) (.tmp 12) rfl V§ #[zI f,zI (f+n)] rfl rfl 65 #[zI 0,zI 0] HN2.out size65d rfl (sp_all ⟨f,f+n⟩) ?_)
 exact bodyPost_ret (results_cell_row rfl _ _ V§ 65 #[zI f,zI (f+n)] (0,0) _ rfl HN3.out Tryz.underlying65 rfl size65d) rfl ⟨rfl,(HB2.out.row _).tail⟩
set_option maxHeartbeats 8000000
def numS (k:Int) (l:List UInt8) (st:Option Int):Int × Option Int:=match st with
 | none=>(0,none)
 | some p=>match Qh k l p with
  | some r=>(r.1,some r.2)
  | none=>(0,none)
def RdS (w V:World) (R:Nat) (s:ByteArray) (st:Option Int) (bs:List Bx):Prop:=match st with
 | some p=>Bs w V ((R,102,rdV s p false) :: bs)
 | none=>∃ p,Bs w V ((R,102,rdV s p true) :: bs)
theorem numD_S (k:Int) (l:List UInt8) (p:Int):numD k l (p,false)=((numS k l (some p)).1,match (numS k l (some p)).2 with | some q=>(q,false) | none=>(p,true)):=by
 unfold numD numS
 simp only [Bool.false_eq_true,if_false]
 cases Qh k l p with
 | none=>rfl
 | some r=>rfl
theorem Qk (k:Int) (hk:0≤k) (l:List UInt8) (st:Option Int):0≤(numS k l st).1∧(numS k l st).1≤k:=by
 cases st with
 | none=>exact⟨Int.le_refl _,hk⟩
 | some p =>
  have:=numD_bd k hk l (p,false)
  rw [numD_S] at this
  exact this
theorem RdS.perm {w V:World}{R:Nat}{s:ByteArray}{st:Option Int}{bs bs':List Bx}(h:RdS w V R s st bs) (p:bs.Perm bs'):RdS w V R s st bs':=by
 cases st with
 | none=>obtain⟨q,hq⟩:=h; exact⟨q,hq.perm (p.cons _)⟩
 | some q=>exact Bs.perm h (p.cons _)
theorem RdS.on {w V V':World}{R:Nat}{s:ByteArray}{st:Option Int}{bs:List Bx}(h:RdS w V R s st bs) (k:Below V§ V V'):RdS w V' R s st bs:=by
 cases st with
 | none=>obtain⟨q,hq⟩:=h; exact⟨q,hq.on k⟩
 | some q=>exact Bs.on h k
theorem RdS.new {w V V':World}{R:Nat}{s:ByteArray}{st:Option Int}{bs:List Bx}(h:RdS w V R s st bs) (k:Below V§ V V') {g t:Nat}{cs:Array Value}(hg:V§≤g) (hh:V'.heap[g]? = some (.cells cs t (0,0))):RdS w V' R s st ((g,t,cs) :: bs):=by
 cases st with
 | none=>obtain⟨q,hq⟩:=h; exact⟨q,(hq.new k hg hh).swap⟩
 | some q=>exact (Bs.new h k hg hh).swap
theorem RdS.bs {w V:World}{R:Nat}{s:ByteArray}{st:Option Int}{bs:List Bx}(h:RdS w V R s st bs):∃ p b,Bs w V ((R,102,rdV s p b) :: bs)∧(st=some p∧b=false∨st=none∧b=true):=by
 cases st with
 | none=>obtain⟨q,hq⟩:=h; exact⟨q,true,hq,.inr ⟨rfl,rfl⟩⟩
 | some q=>exact⟨q,false,h,.inl ⟨rfl,rfl⟩⟩
theorem RdS.mk {w V:World}{R:Nat}{s:ByteArray}{st:Option Int}{p:Int}{b:Bool}{bs:List Bx}(h:Bs w V ((R,102,rdV s p b) :: bs)) (k:st=some p∧b=false∨st=none∧b=true):RdS w V R s st bs:=by
 rcases k with ⟨rfl,rfl⟩ | ⟨rfl,rfl⟩
 ·exact h
 ·exact⟨p,h⟩
theorem RdS.less {w V:World}{R:Nat}{s:ByteArray}{st:Option Int}{x:Bx}{bs:List Bx}(h:RdS w V R s st (x :: bs)):RdS w V R s st bs:=by
 obtain⟨p,b,hB,k⟩:=h.bs
 exact RdS.mk hB.swap.tail k
theorem RdS.drop {w V:World}{R:Nat}{s:ByteArray}{st:Option Int}{bs:List Bx}:∀ {nb:List Bx},RdS w V R s st (nb ++ bs)→RdS w V R s st bs
 | [],h=>h
 | _ :: nb,h=>RdS.drop (nb:=nb) h.less
theorem Q7 {w V:World}{R:Nat}{s:ByteArray}{st:Option Int}{bs:List Bx}(h:RdS w V R s st bs) (k:Int) (hk:0≤k∧k≤100000) (hs:s.size≤1099511627776) :
  Calls zG 46 #[zP R,.int .u64 k] V fun e V'=>e=.returned (zI (numS k s.data.toList st).1)∧RdS w V' R s (numS k s.data.toList st).2 bs:=by
 cases st with
 | none =>
  obtain⟨p,hp⟩:=h
  refine (rnum_any hp k hk hs).mono ?_
  rintro e V' ⟨h1,h2⟩
  rw [numD_bad] at h1 h2
  exact⟨h1,p,h2⟩
 | some p =>
  refine (rnum_any h k hk hs).mono ?_
  rintro e V' ⟨h1,h2⟩
  rw [numD_S] at h1 h2
  refine⟨h1,?_⟩
  cases hq:(numS k s.data.toList (some p)).2 with
  | none=>rw [hq] at h2; exact⟨p,h2⟩
  | some q=>rw [hq] at h2; exact h2
theorem Ka {w V:World}{R:Nat}{s:ByteArray}{st:Option Int}{bs:List Bx}(h:RdS w V R s st bs) (f:Int) (hf:0≤f∧f≤1000000000000) (hs:s.size≤1099511627776) :
  Calls zG 88 #[zP R,zI f] V fun e V'=>e=.returned (.agg (Sp.vals ⟨f,f+(numS 4096 s.data.toList st).1⟩))∧RdS w V' R s (numS 4096 s.data.toList st).2 bs:=by
 cases st with
 | none =>
  obtain⟨p,hp⟩:=h
  refine (rspan_d hp f hf hs).mono ?_
  rintro e V' ⟨h1,h2⟩
  rw [numD_bad] at h1 h2
  exact⟨h1,p,h2⟩
 | some p =>
  refine (rspan_d h f hf hs).mono ?_
  rintro e V' ⟨h1,h2⟩
  rw [numD_S] at h1 h2
  refine⟨h1,?_⟩
  cases hq:(numS 4096 s.data.toList (some p)).2 with
  | none=>rw [hq] at h2; exact⟨p,h2⟩
  | some q=>rw [hq] at h2; exact h2
def finI:Option (List Int × Int)→List Int × Option Int
 | some r=>(r.1,some r.2)
 | none=>([],none)
def sgnS (k:Int) (l:List UInt8) (st:Option Int):List Int × Option Int:=match (numS k l st).2 with
 | none=>([],none)
 | some p=>finI (Qx l (numS k l st).1.toNat p)
theorem ints_step {l:List UInt8}{n:Nat}{p:Int}{xs:List Int}{T:Option (List Int × Int)}(h:(Qx l (n+1) p).map (fun r=>(xs ++ r.1,r.2))=T) :
  (W.takeE l p=0→(Qx l n (W.takeP l p)).map (fun r=>((xs ++ [W.zagN ((W.takeN l p:Nat):Int)]) ++ r.1,r.2))=T)∧(W.takeE l p≠0→T=none):=by
 rw [← h]
 simp only [Qx,signR,numR]
 constructor
 ·intro h0
  rw [if_pos h0]
  simp only [Option.map_some,Option.bind_some]
  cases Qx l n (W.takeP l p) with
  | none=>rfl
  | some r=>simp
 ·intro h0
  rw [if_neg h0]
  rfl
def OutSg (w:World) (R:Nat) (s:ByteArray) (bs:List Bx) (r:List Int × Option Int) (e:Ending) (V':World):Prop :=
 ∃ (nb:List Bx) (a:Option Addr) (c:Nat),e=.returned (.slice a r.1.length c)∧RdS w V' R s r.2 (nb ++ bs)∧Lst w nb 2 1 (.slice a r.1.length c) (r.1.map QF)∧Keep nb (fun U=>SlAt U 1 a c (r.1.map QF))
theorem outSg_none {w:World}{R:Nat}{s:ByteArray}{bs:List Bx}{V':World}{st:Option Int}(h:RdS w V' R s st bs):OutSg w R s bs ([],st) (.returned (.slice none 0 0)) V' :=
 ⟨[],none,0,rfl,h,Lst.nil _ _ _,fun U _=>⟨Nat.le_refl _,Nat.zero_le _,fun i hi=>by simp at hi⟩⟩
theorem size_of_num {k:Int}{l:List UInt8}{st:Option Int}{n:Int}(h:(numS k l st).1=n) (hk:0≤k∧k≤100000):0≤n∧n≤100000:=by have:=Qk k hk.1 l st; omega
theorem rsignS {w V:World}{R:Nat}{s:ByteArray}{st:Option Int}{bs:List Bx}(h:RdS w V R s st bs) (k:Int) (hk:0≤k∧k≤100000) (hs:s.size≤1099511627776) :
  Calls zG 45 #[zP R,.int .u64 k] V (OutSg w R s bs (sgnS k s.data.toList st)):=by
 have cN:=Q7 h k hk hs
 have HSZ:=zH hs
 obtain⟨r,er⟩:∃ r,sgnS k s.data.toList st=r:=⟨_,rfl⟩
 obtain⟨n,en⟩:∃ n,(numS k s.data.toList st).1=n:=⟨_,rfl⟩
 obtain⟨st1,es⟩:∃ q,(numS k s.data.toList st).2=q:=⟨_,rfl⟩
 have hn:=size_of_num en hk
 rw [en,es] at cN
 rw [er]
 unfold sgnS at er
 rw [en,es] at er
 clear h hs en es
 go_enter Tryz.func45,Tryz.ntmps45
 go_wp2_with fail
 refine cN.mono ?_
 rintro e V1 ⟨rfl,hR⟩
 cases st1 with
 | none =>
  obtain⟨p,hp⟩:=hR
  have HP:=zH hp
  have c2:V1.cell? ⟨R,2,none⟩=some (.bool true):=Co (hp.K _ (List.mem_cons_self ..)).1 2
  have HE:Hid (([],none)=r):=er
  clear cN hp er
  by_cases h0:0 < n
  ·go_wp2_with fail
   go_loopw [5,7] (fun v t wr=>v=.slice none 0 0∧t=zI 0∧wr=V1) (fun _ _ _=>0)
   case atStart=>exact⟨rfl,rfl,rfl⟩
   case round =>
    obtain⟨rfl,rfl,rfl⟩:=hrel
    go_wp2_with fail
    go_ret
    rw [← HE.out]
    exact outSg_none (show RdS w _ R s none bs from ⟨p,HP.out⟩)
  ·go_wp2_with fail
   go_loopw [5,7] (fun v t wr=>v=.slice none 0 0∧t=zI 0∧wr=V1) (fun _ _ _=>0)
   case atStart=>exact⟨rfl,rfl,rfl⟩
   case round =>
    obtain⟨rfl,rfl,rfl⟩:=hrel
    go_wp2_with fail
    go_ret
    rw [← HE.out]
    exact outSg_none (show RdS w _ R s none bs from ⟨p,HP.out⟩)
 | some p0 =>
  obtain⟨M,eM⟩:∃ M:Nat,n=(M:Int):=⟨n.toNat,by omega⟩
  subst eM
  have HM:Hid (M≤100000):=by show _≤_; omega
  obtain⟨T,eT⟩:∃ T,Qx s.data.toList M p0=T:=⟨_,rfl⟩
  have HE:Hid (finI T=r):=by
   show _=_
   rw [← er,← eT]
   simp only [Int.toNat_natCast]
  have HP:=zH hR
  have HT0:Hid ((Qx s.data.toList M p0).map (fun r=>(([]:List Int) ++ r.1,r.2))=T):=by
   show _=_
   rw [eT]
   cases T with
   | none=>rfl
   | some r=>rfl
  clear cN hR er eT hn
  go_wp2_with fail
  go_loopw [5,7] (fun v t wr=>∃ (i:Nat) (p:Int) (xs:List Int) (nb:List Bx),i≤M∧t=zI i∧Hid (Bs w wr (nb ++ (R,102,rdV s p false) :: bs))∧Hid (Lst w nb 2 1 v (xs.map QF))∧Hid (xs.length=i)∧Hid ((Qx s.data.toList (M - i) p).map (fun r=>(xs ++ r.1,r.2))=T)) (fun _ t _=>M - (intOf t).toNat)
  case atStart=>exact⟨0,p0,[],[],Nat.zero_le _,rfl,HP,Lst.nil _ _ _,rfl,HT0⟩
  case round =>
   obtain⟨i,p,xs,nb,hi,rfl,HB,HLs,HX,HTT⟩:=hrel
   have hbR:Bs w wr ((R,102,rdV s p false) :: (nb ++ bs)):=HB.out.perm List.perm_middle
   have hn1:=(hbR.K _ (List.mem_cons_self ..)).1
   obtain⟨c0,c1,c2⟩:=cl3 hn1
   have f1:=Fo hn1 1
   have f2:=Fo hn1 2
   have HBR:=zH hbR
   clear hbR hn1
   by_cases hlt:i < M
   ·have hlt':(i:Int) < (M:Int):=by omega
    have hmx:(i:Int)+1≤9223372036854775807:=by have:=HM.out; omega
    have cT:=fun v=>W.rtake_any s p HSZ.out v
    have hst:(Qx s.data.toList ((M - (i+1))+1) p).map (fun r=>(xs ++ r.1,r.2))=T:=by rw [show M - (i+1)+1=M - i by omega]; exact HTT.out
    have hst:=ints_step hst
    obtain⟨E,eE⟩:∃ E:Nat,W.takeE s.data.toList p=E:=⟨_,rfl⟩
    obtain⟨N,eN⟩:∃ N:Nat,W.takeN s.data.toList p=N:=⟨_,rfl⟩
    obtain⟨P,eP⟩:∃ P:Int,W.takeP s.data.toList p=P:=⟨_,rfl⟩
    have hNb:N < 18446744073709551616:=by
     rw [← eN]
     by_cases h0:W.takeE s.data.toList p=0
     ·exact (W.take_one h0).2.2.2.1
     ·rw [W.takeN_no h0]; decide
    rw [eE,eN,eP] at cT hst
    have HST:=zH hst
    have cZ:=fun v=>W.rzag_any (N:Int) (by omega) (by omega) v
    clear hst eE eN eP HTT hNb
    by_cases hE:E=0
    ·subst hE
     have HTN:=zH (HST.out.1 rfl)
     clear HST
     go_upto_region 6 with fail
     go_quiet ((go_at_call 86; refine Calls.quiet_of_same (cT _)))
     generalize hq:World.drewN wr _=wq
     have HBQ:Hid (Bs w wq ((R,102,rdV s p false) :: (nb ++ bs))):=by show Bs _ _ _; rw [← hq]; exact HBR.out.drewN _
     clear hq c0 c1 c2 f1 f2 cT HB HBR
     have hn2:=(HBQ.out.K _ (List.mem_cons_self ..)).1
     have c1:wq.cell? ⟨R,1,none⟩=some (zI p):=Co hn2 1
     have f1:=Fo hn2 1
     clear hn2
     go_upto_region 11 with fail
     have HBS:=zH (HBQ.out.set 1 (zI P))
     generalize World.setCell wq _ _=wx at HBS ⊢
     clear HBQ c1 f1
     obtain⟨z,ez⟩:∃ z,W.zagN (N:Int)=z:=⟨_,rfl⟩
     rw [ez] at cZ HTN
     have HO:=zH (Bs.own (HBS.out.perm List.perm_middle.symm) HLs.out)
     have HLL:Hid ((xs.map QF).length≤1000000):=by have h1:=HX.out; have h2:=HM.out; show _≤_; rw [List.length_map]; omega
     have HND:Hid ((((R,102,rdV s P false) :: bs:List Bx).map (·.1)).Nodup):=by
      have h1:=(HBS.out.perm List.perm_middle.symm).N
      rw [List.map_append,List.nodup_append] at h1
      exact h1.2.1
     clear HBS HLs ez
     go_wp2_with (first | (go_at_call 87; refine (cZ _).mono ?_; rintro e w9 ⟨rfl,rfl⟩) | (refine Qq rfl 22 2 (.tmp 50) rfl (QF z) (zI z) rfl rfl 1 _ Tryz.underlying22 8 inf2 rfl rfl (by decide) (by decide) ?_) | (refine Je HO.out 22 (QF z) rfl (nvals_all z) _ 8 Tryz.underlying22 inf2 rfl (by decide) HLL.out (by decide) rfl (.tmp 48) (.tmp 51) rfl rfl rfl ?_; intro g cap w8 HO8))
     obtain⟨nb2,a2,c2,ev,hB2,hL2,_⟩:=OwnK.fin HO8 HND.out
     rw [List.length_map] at hL2
     exact⟨⟨i+1,P,xs ++ [z],nb2,hlt,rfl,hB2,by rw [List.map_append]; exact hL2,by show _=_; rw [List.length_append,List.length_singleton,HX.out],HTN⟩,by simp only [intOf]; omega⟩
    ·have HTN:Hid (T=none):=HST.out.2 hE
     have hE0:(((E:Nat):Int) != 0)=true:=bne_iff_ne.2 (by omega)
     clear HST hE
     go_upto_region 6 with fail
     go_quiet ((go_at_call 86; refine Calls.quiet_of_same (cT _)))
     generalize hq:World.drewN wr _=wq
     have HBQ:Hid (Bs w wq ((R,102,rdV s p false) :: (nb ++ bs))):=by show Bs _ _ _; rw [← hq]; exact HBR.out.drewN _
     clear hq c0 c1 c2 f1 f2 cT HB HBR
     have hn2:=(HBQ.out.K _ (List.mem_cons_self ..)).1
     have c2:wq.cell? ⟨R,2,none⟩=some (.bool false):=Co hn2 2
     have f2:=Fo hn2 2
     clear hn2
     go_wp2_with fail
     go_ret
     rw [← HE.out,HTN.out]
     exact outSg_none (RdS.drop (nb:=nb) (show RdS w _ R s none (nb ++ bs) from ⟨p,HBQ.out.set 2 (.bool true)⟩))
   ·obtain rfl:i=M:=by omega
    have hnot:¬ (i:Int) < (i:Int):=by omega
    have HF:Hid (r=(xs,some p)):=by
     have h1:=HTT.out
     rw [Nat.sub_self] at h1
     simp only [Qx,Option.map_some,List.append_nil] at h1
     show _=_
     rw [← HE.out,← h1]
     rfl
    have HO:=zH (Bs.own HB.out HLs.out)
    have HND:Hid ((((R,102,rdV s p false) :: bs:List Bx).map (·.1)).Nodup):=by
     have h1:=HB.out.N
     rw [List.map_append,List.nodup_append] at h1
     exact h1.2.1
    obtain⟨nb2,a2,c2',ev,hB2,hL2,hK2⟩:=OwnK.fin HO.out HND.out
    rw [List.length_map] at ev
    subst ev
    have HOUT:Hid (OutSg w R s bs r (.returned (.slice a2 xs.length c2')) wr):=by
     rw [HF.out]
     exact⟨nb2,a2,c2',rfl,hB2.perm List.perm_middle,hL2,hK2⟩
    clear hB2 hL2 hK2 HO HF HTT
    go_wp2_with fail
    go_ret
    exact HOUT.out
end Go.Proofs.YteedmmljahgpjaaGreatDoor
