import Derived.Test.YteedmmljahgpjaaGreatDoorA0
import Derived.Test.YteedmmljahgpjaaGreatDoorA4
namespace Go.Proofs.YteedmmljahgpjaaGreatDoor
set_option maxRecDepth 100000
set_option maxHeartbeats 4000000
open Go.RowKit
set_option linter.unusedVariables false
set_option linter.unusedSimpArgs false
theorem lies_any (g : GdM) (A : Nat) (p : Int) (w : World) (hl : GdL w g) (h8 : g.rs.length ≤ 8) (hA : w.heap[A]? = some (.cells #[zI p] 3 (0, 0))) : Calls zG 64 #[.agg g.vals, .pointer (some ⟨A, 0, none⟩)] w fun e w' => e = .returned (.bool (Qv p (gSp g)).isSome) ∧ Mv w w' (fun k => k = A) ∧ ∃ q, w'.heap[A]? = some (.cells #[zI q] 3 (0, 0)) ∧ ∀ y, Qv p (gSp g) = some y → q = y := by
 have hb1:=Bn w (.cells g.vals 68)
 have hn1:=Hn w (.cells g.vals 68)
 obtain⟨W1,e1⟩:∃ W,w.alloc (.cells g.vals 68)=W:=⟨_,rfl⟩
 have E1:Hid (w.alloc (.cells g.vals 68)=W1):=e1
 rw [e1] at hb1 hn1
 have HB1:Hid (Below w§ w W1):=hb1
 have c0:W1.cell? ⟨w§,0,none⟩=some (zI g.wh.f):=Co hn1 0
 have c1:W1.cell? ⟨w§,1,none⟩=some (zI g.wh.t):=Co hn1 1
 have c4:W1.cell? ⟨w§,4,none⟩=some (.slice g.a g.rs.length g.c):=Co hn1 4
 have HN1:Hid (W1.heap[w§]? = some (.cells g.vals 68 (0,0))):=hn1
 have HS1:Hid (W1§=w§+1):=by show _=_; rw [← e1]; exact Sa _ _
 clear hb1 e1 hn1
 have HSL:Hid (SlAt w 11 g.a g.c (g.rs.map RowM.vals)):=hl.2.2.2.1
 have HA:Hid (w.heap[A]? = some (.cells #[zI p] 3 (0,0))):=hA
 have HAL:Hid (A < w§):=(Array.getElem?_eq_some_iff.1 hA).1
 have HO1:=OwnK.nil (Below.refl w§ w |>.trans HB1.out) 65 2
 have HG : Hid (gSp g = [g.wh] ++ (g.rs.map hasL).flatten) := rfl
 obtain⟨rs,ers⟩:∃ q,g.rs=q:=⟨_,rfl⟩
 obtain⟨ra,era⟩:∃ q,g.a=q:=⟨_,rfl⟩
 obtain⟨SP,eSP⟩:∃ q,gSp g=q:=⟨_,rfl⟩
 rw [ers,era] at HSL c4
 rw [ers,eSP] at HG
 rw [eSP]
 obtain⟨ws,ews⟩:∃ q,g.wh=q:=⟨_,rfl⟩
 rw [ews] at HG c0 c1
 have hrs8:rs.length≤8:=ers ▸ h8
 obtain⟨L0,eL0⟩:∃ q,Qv p SP=q:=⟨_,rfl⟩
 have HL0:Hid (L0=Qv p (SP.drop 0)):=by show _=_; rw [← eL0]; rfl
 rw [eL0]
 clear hl hA ers era eSP ews h8 eL0
 go_enter Tryz.func64,Tryz.ntmps64
 go_upto_region 1 with fail
 rw [E1.out]
 clear E1
 have hs1:=HS1.out
 go_upto_region 2 with (refine QO rfl 130 65 (.tmp 11) rfl ws.vals rfl 2 _ Tryz.underlying130 16 inf65 rfl rfl (by decide) (by decide) ?_)
 have HO2:Hid (OwnK w (W1.alloc (.cells ws.vals 65)) [] 65 2 (.slice (some ⟨w§+1,0,none⟩) 1 1) ([ws].map Sp.vals)):=by
  have hh:=Hn W1 (.cells ws.vals 65)
  rw [hs1] at hh
  refine⟨⟨rfl,.inr ⟨_,1,ws.vals,rfl,by omega,hh,by simp,by unfold maxLen; omega,rfl,rfl⟩⟩,fun x hx=>?_,Qa HB1.out (Bn _ _),by simp⟩
  rw [show [ws].map Sp.vals = [ws.vals] from rfl,List.mem_singleton] at hx
  rw [hx]; rfl
 have hkk:(W1.alloc (.cells ws.vals 65)).heap[w§]? = W1.heap[w§]?:=(Bn W1 (.cells ws.vals 65)).block _ (by omega)
 have d4:(W1.alloc (.cells ws.vals 65)).cell? ⟨w§,4,none⟩=some (.slice ra rs.length g.c):=by rw [World.cell?_of_block hkk]; exact c4
 generalize W1.alloc (.cells ws.vals 65)=W2 at HO2 d4 ⊢
 clear c0 c1 c4 hkk HO1 HN1 HB1
 go_wp2_with fail
 go_loopw [5,16] (fun fv q wr=>∃ (v:Value) (i:Nat),i≤rs.length∧fv=v∧q=zI i∧Hid (OwnK w wr [] 65 2 v (([ws] ++ ((rs.take i).map hasL).flatten).map Sp.vals))∧Hid (((rs.take i).map hasL).flatten.length≤4 * i)) (fun _ q _=>rs.length - (intOf q).toNat)
 case atStart=>exact⟨_,0,by omega,rfl,rfl,HO2,by show _≤_; simp⟩
 case round =>
  obtain⟨v,i,hi,rfl,rfl,HOR,HLR⟩:=hrel
  by_cases hlt:i < rs.length
  ·have hlt':(i:Int) < (rs.length:Int):=by omega
   have hmx:(i:Int)+1≤9223372036854775807:=by have h1:=HSL.out.1; have h2:=HSL.out.2.1; rw [List.length_map] at h1; omega
   obtain⟨bb,o,ea,hat⟩:=(HSL.out.on (mapz RowM.sz _) HOR.out.B).2.2 i (by rw [List.length_map]; exact hlt)
   simp only [List.getElem_map] at hat
   have HMEM:Hid (rs[i] ∈ rs):=List.getElem_mem hlt
   have HD:Hid (((rs.take (i+1)).map hasL).flatten=((rs.take i).map hasL).flatten ++ hasL rs[i]):=by show _=_; rw [List.take_succ_eq_append_getElem hlt,List.map_append,List.flatten_append,List.map_singleton,List.flatten_singleton]
   obtain⟨d,ed⟩:∃ d,rs[i]=d:=⟨_,rfl⟩
   rw [ed] at hat HMEM HD
   have HRG:Hid (wr.rangeAt bb (o+i * 11) d.vals.toList):=fun j v hv=>by
    have hj:j < 11:=(List.getElem?_eq_some_iff.1 hv).1
    rw [hat j hj,← hv]; simp
   have HZ:Hid ((wr.alloc (.cells zA1 85)).heap[wr§]? = some (.cells zA1 85 (0,0))):=Hn _ _
   have HWX:Hid (Below wr§ wr ((wr.alloc (.cells zA1 85)).setRow wr§ d.vals)):=Qc (Bn _ _) (Nat.le_refl _) _
   have HNX:Hid (((wr.alloc (.cells zA1 85)).setRow wr§ d.vals).heap[wr§]? = some (.cells d.vals 85 (0,0))):=setRow_heap _ _ _ _ _ _ HZ.out
   subst ea
   clear hat ed
   go_upto_region 5 with (first | (refine wpList_load_mid rfl 85 (.tmp 18) rfl bb (o+i * 11) rfl d.vals.toList _ HRG.out Tryz.underlying85 rfl (by show _=some 11; exact Qi) ?_; rw [Array.toArray_toList]) | (refine wpList_store_row rfl 85 (.tmp 7) (.tmp 19) rfl wr§ d.vals rfl rfl 85 zA1 HZ.out Qi rfl (QQ d) ?_))
   generalize World.setRow _ _ _=WX at HWX HNX ⊢
   clear HZ HRG
   have HOX:Hid (OwnK w WX [] 65 2 _ (([ws] ++ ((rs.take i).map hasL).flatten).map Sp.vals)):=HOR.out.on HWX.out
   have cH:=has_any d WX
   clear HOR HMEM
   go_wp2_with (refine wpList_load_row rfl 85 (.tmp 7) rfl wr§ rfl 85 d.vals (0,0) _ HNX.out Tryz.underlying85 rfl Qi ?_)
   refine cH.mono ?_
   rintro e w5 ⟨ua,uc,rfl,hU,hnil,hfr,hb5⟩
   have HO5:Hid (OwnK w w5 [] 65 2 _ (([ws] ++ ((rs.take i).map hasL).flatten).map Sp.vals)):=HOX.out.on hb5
   have HU:Hid (SlAt w5 2 ua uc ((hasL d).map Sp.vals)):=hU
   have HNL:Hid ((hasL d).map Sp.vals = []→ua=none∧uc=0):=fun e=>hnil (by simpa using e)
   have HL4:Hid ((hasL d).length≤4):=Kg d 4 (by omega)
   clear cH hb5 hU hnil HOX HWX HNX
   have hlm:((hasL d).map Sp.vals).length=(hasL d).length:=List.length_map ..
   go_wp2_with (refine app_many HO5.out 130 ((hasL d).map Sp.vals) (fun x hx=>by obtain⟨y,_,rfl⟩:=List.mem_map.1 hx; exact⟨rfl,JF y⟩) ua uc HU.out HNL.out _ 16 Tryz.underlying130 inf65 rfl (by decide) (by simp only [List.length_map,List.length_append,List.length_cons,List.length_nil]; have:=HL4.out; have:=HLR.out; omega) (by decide) rfl (.tmp 20) (.tmp 22) rfl rfl (by rw [hlm]; rfl) ?_; intro v8 w8 HO8)
   exact⟨⟨v8,i+1,hlt,rfl,rfl,by show OwnK _ _ _ _ _ _ _; rw [HD.out]; simpa using HO8,by show _≤_; rw [HD.out,List.length_append]; have:=HL4.out; have:=HLR.out; omega⟩,by simp only [intOf]; omega⟩
  ·obtain rfl:i=rs.length:=by omega
   have hnot:¬ (rs.length:Int) < (rs.length:Int):=by omega
   rename World=>V
   have hspl:SP.length≤33:=by rw [HG.out,List.length_append]; have:=HLR.out; rw [List.take_length] at this; simp only [List.length_cons,List.length_nil]; omega
   have hoz:=HOR.out
   rw [List.take_length,← HG.out] at hoz
   have hoB:=hoz.B
   obtain⟨sa,sc,rfl,hS,hSb⟩:=hoz.sl2
   have HSS:Hid (SlAt V 2 sa sc (SP.map Sp.vals)):=hS
   have HSB:Hid (∀ b o,sa=some ⟨b,o,none⟩→w§≤b∧b < V§):=hSb
   have HMW:Hid (Mv w V (fun k=>k=A)):=Mv.ofBelow hoB
   have HAW:Hid (V.heap[A]? = some (.cells #[zI p] 3 (0,0))):=(hoB.block _ HAL.out).trans HA.out
   clear HOR hoz hoB hS hSb HLR HG HO2 d4
   rw [List.length_map]
   go_wp2_with fail
   go_loopw [27] (fun q wr=>∃ (i:Nat) (y:Int),i≤SP.length∧q=zI i∧Hid (Mv V wr (fun k=>k=A))∧Hid (wr.heap[A]? = some (.cells #[zI y] 3 (0,0)))∧Hid (L0=Qv y (SP.drop i))) (fun q _=>SP.length - (intOf q).toNat)
   case atStart=>exact⟨0,p,by omega,rfl,Mv.refl _ _,HAW,HL0⟩
   case round =>
    obtain⟨i,y,hi,rfl,HMZ,HAZ,HLZ⟩:=hrel
    by_cases hlt:i < SP.length
    ·have HSZ:Hid (SlAt _ 2 sa sc (SP.map Sp.vals)):=HSS.out.blk fun b o e=>HMZ.out.block b (HSB.out b o e).2 (fun e2=>by have:=(HSB.out b o e).1; have:=HAL.out; omega)
     have hlt':(i:Int) < (SP.length:Int):=by omega
     have hmx:(i:Int)+1≤9223372036854775807:=by have h1:=HSZ.out.1; have h2:=HSZ.out.2.1; rw [List.length_map] at h1; omega
     obtain⟨bb,o,ea,hat⟩:=(HSZ.out.on (mapz Sp.sz _) (Below.refl _ _)).2.2 i (by rw [List.length_map]; exact hlt)
     simp only [List.getElem_map] at hat
     have HMEM:Hid (SP[i] ∈ SP):=List.getElem_mem hlt
     have HD:Hid (L0=if SP[i].f != y || decide (SP[i].t≤SP[i].f) then none else Qv SP[i].t (SP.drop (i+1))):=by show _=_; rw [HLZ.out,List.drop_eq_getElem_cons hlt]; rfl
     obtain⟨d,ed⟩:∃ d,SP[i]=d:=⟨_,rfl⟩
     rw [ed] at hat HMEM HD
     have HRG:Hid (wr.rangeAt bb (o+i * 2) d.vals.toList):=fun j v hv=>by
      have hj:j < 2:=(List.getElem?_eq_some_iff.1 hv).1
      rw [hat j hj,← hv]; simp
     have HZ:Hid ((wr.alloc (.cells #[zI 0,zI 0] 65)).heap[wr§]? = some (.cells #[zI 0,zI 0] 65 (0,0))):=Hn _ _
     have HWX:Hid (Below wr§ wr ((wr.alloc (.cells #[zI 0,zI 0] 65)).setRow wr§ d.vals)):=Qc (Bn _ _) (Nat.le_refl _) _
     have HNX:Hid (((wr.alloc (.cells #[zI 0,zI 0] 65)).setRow wr§ d.vals).heap[wr§]? = some (.cells d.vals 65 (0,0))):=setRow_heap _ _ _ _ _ _ HZ.out
     subst ea
     clear hat ed
     go_upto_region 10 with (first | (refine wpList_load_mid rfl 65 (.tmp 29) rfl bb (o+i * 2) rfl d.vals.toList _ HRG.out Tryz.underlying65 rfl (by show _=some 2; exact Qt) ?_; rw [Array.toArray_toList]) | (refine wpList_store_row rfl 65 (.tmp 9) (.tmp 30) rfl wr§ d.vals rfl rfl 65 #[zI 0,zI 0] HZ.out Qt rfl (JF d) ?_))
     generalize World.setRow _ _ _=WX at HWX HNX ⊢
     clear HZ HRG
     have HMX:Hid (Mv V WX (fun k=>k=A)):=HMZ.out.trans (Mv.ofBelow (F:=fun _=>False) HWX.out) (fun _ e=>e.elim)
     have HAX:Hid (WX.heap[A]? = some (.cells #[zI y] 3 (0,0))):=(HWX.out.block _ (Array.getElem?_eq_some_iff.1 HAZ.out).1).trans HAZ.out
     obtain⟨x0,x1⟩:=cl2 HNX.out
     have xA:WX.cell? ⟨A,0,none⟩=some (zI y):=Co HAX.out 0
     have fA:=Fo HAX.out 0
     clear HMZ HAZ HLZ HSZ HMEM HNX HWX
     have hfail:∀ n,L0=none→Ending.returned (.bool false)=.returned (.bool L0.isSome)∧Mv w (WX.drewN n) (fun k=>k=A)∧∃ q,(WX.drewN n).heap[A]? = some (.cells #[zI q] 3 (0,0))∧∀ z,L0=some z→q=z:=fun n hq=>⟨by rw [hq]; rfl,(HMW.out.trans HMX.out (fun _ e=>.inl e)).trans (show Mv WX (WX.drewN n) (fun _=>False) from Mv.ofBelow ⟨rfl,rfl,rfl,Nat.le_refl _,fun _ _=>rfl⟩) (fun _ e=>e.elim),y,HAX.out,fun z hz=>by rw [hq] at hz; cases hz⟩
     have HFL:Hid (∀ n,L0=none→Ending.returned (.bool false)=.returned (.bool L0.isSome)∧Mv w (WX.drewN n) (fun k=>k=A)∧∃ q,(WX.drewN n).heap[A]? = some (.cells #[zI q] 3 (0,0))∧∀ z,L0=some z→q=z):=hfail
     clear hfail
     cases h0:(d.f == y) with
     | false =>
      have hne:(d.f != y)=true:=by simp [bne,h0]
      have HQ:Hid (L0=none):=by show _=_; rw [HD.out,hne]; rfl
      go_upto_region 10 with fail
      go_quiet (fail)
      go_wp2_with fail
      go_ret
      exact HFL.out _ HQ.out
     | true =>
      have hne:(d.f != y)=false:=by simp [bne,h0]
      cases h1:decide (d.t≤d.f) with
      | true =>
       have HQ:Hid (L0=none):=by show _=_; rw [HD.out,hne,h1]; rfl
       go_upto_region 10 with fail
       go_quiet (fail)
       go_wp2_with fail
       go_ret
       exact HFL.out _ HQ.out
      | false =>
       have HQ:Hid (L0=Qv d.t (SP.drop (i+1))):=by show _=_; rw [HD.out,hne,h1]; rfl
       have HMY:Hid (∀ n,Mv V ((WX.drewN n).setCell ⟨A,0,none⟩ (zI d.t)) (fun k=>k=A)):=fun n=>(HMX.out.trans (show Mv WX (WX.drewN n) (fun _=>False) from Mv.ofBelow ⟨rfl,rfl,rfl,Nat.le_refl _,fun _ _=>rfl⟩) (fun _ e=>e.elim)).setCell (a:=⟨A,0,none⟩) (.inl rfl) _
       have HAY:Hid (∀ n,((WX.drewN n).setCell ⟨A,0,none⟩ (zI d.t)).heap[A]? = some (.cells #[zI d.t] 3 (0,0))):=fun n=>Hs0 (w:=WX.drewN n) (zI d.t) HAX.out
       clear HD HFL
       go_upto_region 10 with fail
       go_quiet (fail)
       go_wp2_with fail
       exact⟨⟨i+1,d.t,hlt,rfl,HMY.out _,HAY.out _,HQ⟩,by simp only [intOf]; omega⟩
    ·obtain rfl:i=SP.length:=by omega
     have hnot:¬ (SP.length:Int) < (SP.length:Int):=by omega
     have HQ:Hid (L0=some y):=by show _=_; rw [HLZ.out,List.drop_length]; rfl
     go_wp2_with fail
     go_ret
     exact⟨by rw [HQ.out]; rfl,HMW.out.trans HMZ.out (fun _ e=>.inl e),y,HAZ.out,fun z hz=>by rw [HQ.out] at hz; exact Option.some.inj hz⟩
def gdN (sl:Int) (nr ns:Nat) (g:GdM) (p:Int):Option Int:=if rowsB sl nr ns g.rs then Qv p (gSp g) else none
def gdsN (sl:Int) (nr ns:Nat):Int→List GdM→Option Int
 | p,[]=>some p
 | p,g :: l=>(gdN sl nr ns g p).bind fun q=>gdsN sl nr ns q l
def stsN (sl:Int) (nr ns:Nat):Int→List StM→Option Int
 | p,[]=>some p
 | p,s :: l=>if (s.gs.length:Int) > 12 then none else (gdsN sl nr ns p s.gs).bind fun q=>stsN sl nr ns q l
def endB (n:Nat) (o:Option Int):Bool:=match o with | some q=>q == (n:Int) | none=>false
def QG (t:TbM):Bool:=Ja t.x && Q0 t && endB t.ds.length (stsN t.sl t.rs.length t.ts.length 0 t.ts)
theorem rowsB8 {sl:Int}{nr ns:Nat}{rs:List RowM}(h:rowsB sl nr ns rs=true):rs.length≤8:=by
 unfold rowsB Qb at h
 simp at h
 omega
theorem wellFormed_any (t:TbM) (w:World) (hl:TbL w t) (htb:Tab w):Calls zG 25 #[.agg t.vals] w fun e w'=>e=.returned (.bool (QG t))∧Below w§ w w':=by
 have hb1:=Bn w (.cells t.vals 26)
 have hn1:=Hn w (.cells t.vals 26)
 obtain⟨W1,e1⟩:∃ W,w.alloc (.cells t.vals 26)=W:=⟨_,rfl⟩
 have E1:Hid (w.alloc (.cells t.vals 26)=W1):=e1
 rw [e1] at hb1 hn1
 have HB1:Hid (Below w§ w W1):=hb1
 have c0:W1.cell? ⟨w§,0,none⟩=some (.string t.x):=Co hn1 0
 have HN1:Hid (W1.heap[w§]? = some (.cells t.vals 26 (0,0))):=hn1
 have HS1:Hid (W1§=w§+1):=by show _=_; rw [← e1]; exact Sa _ _
 clear hb1 e1 hn1
 have cN:=namep_any t.x hl.X W1 (htb.on HB1.out)
 have HTL:Hid (TbL w t):=hl
 obtain⟨ANS,eA⟩:∃ q,QG t=q:=⟨_,rfl⟩
 have HA:Hid (ANS=(Ja t.x && Q0 t && endB t.ds.length (stsN t.sl t.rs.length t.ts.length 0 t.ts))):=eA.symm
 rw [eA]
 clear eA hl htb
 cases h1:Ja t.x with
 | false =>
  rw [h1] at cN
  have HF : Hid (ANS = false) := by show _ = _; rw [HA.out, h1]; rfl
  go_enter Tryz.func25,Tryz.ntmps25
  go_upto_region 1 with fail
  rw [E1.out]
  clear E1
  go_wp2_with fail
  refine cN.mono ?_
  rintro e w2 ⟨rfl,hb2⟩
  have HB2:Hid (Below w§ w w2):=Qa HB1.out hb2
  go_wp2_with fail
  go_ret
  exact⟨by rw [HF.out]; rfl,HB2.out⟩
 | true =>
  rw [h1] at cN
  go_enter Tryz.func25,Tryz.ntmps25
  go_upto_region 1 with fail
  rw [E1.out]
  clear E1
  go_wp2_with fail
  refine cN.mono ?_
  rintro e w2 ⟨rfl,hb2⟩
  have HB2:Hid (Below w§ w w2):=Qa HB1.out hb2
  have hk2:=hb2.block w§ (by rw [HS1.out]; omega)
  have HN2:Hid (w2.heap[w§]? = some (.cells t.vals 26 (0,0))):=hk2.trans HN1.out
  have hsz2:w§ < w2§:=(Array.getElem?_eq_some_iff.1 HN2.out).1
  have cS:=sizesFit_any t w2
  unfold TbM.vals at cS
  obtain⟨d0,d1,d2,d3,d4,d5⟩:=cl6 HN2.out
  clear cN hb2 hk2 c0 HN1 HB1 HS1
  cases h2:Q0 t with
  | false =>
   rw [h2] at cS
   have HF : Hid (ANS = false) := by show _ = _; rw [HA.out, h1, h2]; rfl
   go_wp2_with fail
   refine cS.mono ?_
   rintro e w3 ⟨rfl,hb3⟩
   have HB3:Hid (Below w§ w w3):=Qa HB2.out hb3
   go_wp2_with fail
   go_ret
   exact⟨by rw [HF.out]; rfl,HB3.out⟩
  | true =>
   rw [h2] at cS
   have HF : Hid (ANS = endB t.ds.length (stsN t.sl t.rs.length t.ts.length 0 (t.ts.drop 0))) := by show _ = _; rw [HA.out, h1, h2]; rfl
   clear HA h1 h2
   go_wp2_with fail
   refine cS.mono ?_
   rintro e w3 ⟨rfl,hb3⟩
   have hsz3:w§ < w3§:=by have:=hb3.size; omega
   have hN3:(w3.alloc (.cells #[zI 0] 3)).heap[w§]? = some (.cells t.vals 26 (0,0)):=((Bn w3 (.cells #[zI 0] 3)).block _ hsz3).trans ((hb3.block _ hsz2).trans HN2.out)
   have HA3:(w3.alloc (.cells #[zI 0] 3)).heap[w3§]? = some (.cells #[zI 0] 3 (0,0)):=Hn _ _
   have HB3:Below w§ w (w3.alloc (.cells #[zI 0] 3)):=Qa (Qa HB2.out hb3) (Bn _ _)
   obtain⟨A,eA⟩:∃ q,w3§=q:=⟨_,rfl⟩
   have HEA:Hid (w3§=A):=eA
   rw [eA] at HA3
   have HAG:Hid (w§ < A):=by show _ < _; omega
   obtain⟨W4,e4⟩:∃ W,w3.alloc (.cells #[zI 0] 3)=W:=⟨_,rfl⟩
   have HE4:Hid (w3.alloc (.cells #[zI 0] 3)=W4):=e4
   rw [e4] at hN3 HA3 HB3
   have x0:W4.cell? ⟨A,0,none⟩=some (zI 0):=Co HA3 0
   have fA:=Fo HA3 0
   have HA5:Hid ((W4.setCell ⟨A,0,none⟩ (zI 0)).heap[A]? = some (.cells #[zI 0] 3 (0,0))):=Hs0 _ HA3
   have HB5:Hid (Below w§ w (W4.setCell ⟨A,0,none⟩ (zI 0))):=HB3.setCell (by show w§≤A; omega) _
   have HN5:Hid ((W4.setCell ⟨A,0,none⟩ (zI 0)).heap[w§]? = some (.cells t.vals 26 (0,0))):=(heap_setCell_other _ _ _ _ (by show w§≠A; omega)).trans hN3
   clear cS hb3 hsz3 hsz2 HB2 HN2 hN3 HA3 HB3 e4 eA d0 d1 d2 d3 d4 d5
   go_upto_region 4 with (first | rw [HE4.out,HEA.out] | fail)
   try rw [HE4.out]
   try rw [HEA.out]
   generalize W4.setCell ⟨A,0,none⟩ (zI 0)=U at HA5 HB5 HN5 ⊢
   clear HE4 HEA x0 fA
   have c5:U.cell? ⟨w§,5,none⟩=some (.slice t.ta t.ts.length t.tc):=Co HN5.out 5
   have HTT:Hid (SlAt w 1 t.ta t.tc (t.ts.map StM.vals)):=HTL.out.T
   obtain⟨ta,eta⟩:∃ q,t.ta=q:=⟨_,rfl⟩
   rw [eta] at c5 HTT
   clear eta
   go_wp2_with fail
   go_loopw [20] (fun q wr=>∃ (i:Nat) (p:Int),i≤t.ts.length∧q=zI i∧Hid (Below w§ w wr)∧Hid (wr.heap[w§]? = some (.cells t.vals 26 (0,0)))∧Hid (wr.heap[A]? = some (.cells #[zI p] 3 (0,0)))∧Hid (ANS=endB t.ds.length (stsN t.sl t.rs.length t.ts.length p (t.ts.drop i)))) (fun q _=>t.ts.length - (intOf q).toNat)
   case atStart=>exact⟨0,0,by omega,rfl,HB5,HN5,HA5,HF⟩
   case round =>
    obtain⟨i,p,hi,rfl,HBR,HNR,HAR,HRR⟩:=hrel
    by_cases hlt:i < t.ts.length
    ·rename World=>V
     have hlt':(i:Int) < (t.ts.length:Int):=by omega
     have hmx:(i:Int)+1≤9223372036854775807:=by have h1:=HTT.out.1; have h2:=HTT.out.2.1; rw [List.length_map] at h1; omega
     obtain⟨bb,o,ea,hat⟩:=(HTT.out.on (mapz StM.sz _) HBR.out).2.2 i (by rw [List.length_map]; exact hlt)
     simp only [List.getElem_map] at hat
     have hsl:=HTL.out.Ti t.ts[i] (List.getElem_mem hlt)
     have HD:Hid (ANS=endB t.ds.length (if (t.ts[i].gs.length:Int) > 12 then none else (gdsN t.sl t.rs.length t.ts.length p t.ts[i].gs).bind fun q=>stsN t.sl t.rs.length t.ts.length q (t.ts.drop (i+1)))):=by show _=_; rw [HRR.out,List.drop_eq_getElem_cons hlt]; rfl
     obtain⟨s,es⟩:∃ s,t.ts[i]=s:=⟨_,rfl⟩
     rw [es] at hat hsl HD
     have hc:=hat 0 (by omega)
     have cs:V.cell? ⟨bb,o+i,none⟩=some (.slice s.a s.gs.length s.c):=by rw [Nat.mul_one,Nat.add_zero] at hc; exact hc
     have HSG:Hid (SlAt w 5 s.a s.c (s.gs.map GdM.vals)):=hsl.1
     have HGI:Hid (∀ g ∈ s.gs,GdL w g):=hsl.2
     subst ea
     clear hat es hc hsl HRR
     obtain⟨gs,egs⟩:∃ q,s.gs=q:=⟨_,rfl⟩
     obtain⟨sa,esa⟩:∃ q,s.a=q:=⟨_,rfl⟩
     rw [egs,esa] at HSG cs
     rw [egs] at HGI HD
     clear egs esa
     cases h12:decide ((gs.length:Int) > 12) with
     | true =>
      have HX:Hid (ANS=false):=by show _=_; rw [HD.out,if_pos (of_decide_eq_true h12)]; rfl
      go_wp2_with fail
      go_ret
      exact⟨by rw [HX.out]; rfl,HBR.out⟩
     | false =>
      have HX:Hid (ANS=endB t.ds.length ((gdsN t.sl t.rs.length t.ts.length p (gs.drop 0)).bind fun q=>stsN t.sl t.rs.length t.ts.length q (t.ts.drop (i+1)))):=by show _=_; rw [HD.out,if_neg (of_decide_eq_false h12)]; rfl
      clear HD
      go_wp2_with fail
      go_loopw [29] (fun q wr=>∃ (j:Nat) (p:Int),j≤gs.length∧q=zI j∧Hid (Below w§ w wr)∧Hid (wr.heap[w§]? = some (.cells t.vals 26 (0,0)))∧Hid (wr.heap[A]? = some (.cells #[zI p] 3 (0,0)))∧Hid (ANS=endB t.ds.length ((gdsN t.sl t.rs.length t.ts.length p (gs.drop j)).bind fun q=>stsN t.sl t.rs.length t.ts.length q (t.ts.drop (i+1))))) (fun q _=>gs.length - (intOf q).toNat)
      case atStart=>exact⟨0,p,by omega,rfl,HBR,HNR,HAR,HX⟩
      case round =>
       obtain⟨j,p2,hj,rfl,HB2,HN2,HA2,HR2⟩:=hrel
       by_cases hltj:j < gs.length
       ·have hltj':(j:Int) < (gs.length:Int):=by omega
        have hmxj:(j:Int)+1≤9223372036854775807:=by have h1:=HSG.out.1; have h2:=HSG.out.2.1; rw [List.length_map] at h1; omega
        obtain⟨b2,o2,ea,hat⟩:=(HSG.out.on (mapz GdM.sz _) HB2.out).2.2 j (by rw [List.length_map]; exact hltj)
        simp only [List.getElem_map] at hat
        have HMEM:Hid (gs[j] ∈ gs):=List.getElem_mem hltj
        have HD:Hid (ANS=endB t.ds.length (((gdN t.sl t.rs.length t.ts.length gs[j] p2).bind fun q=>gdsN t.sl t.rs.length t.ts.length q (gs.drop (j+1))).bind fun q=>stsN t.sl t.rs.length t.ts.length q (t.ts.drop (i+1)))):=by show _=_; rw [HR2.out,List.drop_eq_getElem_cons hltj]; rfl
        obtain⟨d,ed⟩:∃ d,gs[j]=d:=⟨_,rfl⟩
        rw [ed] at hat HMEM HD
        have HRG:Hid (wr.rangeAt b2 (o2+j * 5) d.vals.toList):=fun j v hv=>by
         have hj:j < 5:=(List.getElem?_eq_some_iff.1 hv).1
         rw [hat j hj,← hv]; simp
        have HZ:Hid ((wr.alloc (.cells zA4 68)).heap[wr§]? = some (.cells zA4 68 (0,0))):=Hn _ _
        have HWX:Hid (Below wr§ wr ((wr.alloc (.cells zA4 68)).setRow wr§ d.vals)):=Qc (Bn _ _) (Nat.le_refl _) _
        have HNX:Hid (((wr.alloc (.cells zA4 68)).setRow wr§ d.vals).heap[wr§]? = some (.cells d.vals 68 (0,0))):=setRow_heap _ _ _ _ _ _ HZ.out
        subst ea
        clear hat ed
        go_upto_region 12 with (first | (refine wpList_load_mid rfl 68 (.tmp 31) rfl b2 (o2+j * 5) rfl d.vals.toList _ HRG.out Tryz.underlying68 rfl (by show _=some 5; exact QD) ?_; rw [Array.toArray_toList]) | (refine wpList_store_row rfl 68 (.tmp 7) (.tmp 32) rfl wr§ d.vals rfl rfl 68 zA4 HZ.out QD rfl (allGd d) ?_))
        generalize World.setRow _ _ _=WX at HWX HNX ⊢
        clear HZ HRG
        have HBX:Hid (Below w§ w WX):=Qa HB2.out HWX.out
        have HPX:Hid (WX.heap[w§]? = some (.cells t.vals 26 (0,0))):=(HWX.out.block _ (Array.getElem?_eq_some_iff.1 HN2.out).1).trans HN2.out
        have HAX:Hid (WX.heap[A]? = some (.cells #[zI p2] 3 (0,0))):=(HWX.out.block _ (Array.getElem?_eq_some_iff.1 HA2.out).1).trans HA2.out
        have HGL:Hid (GdL WX d):=(HGI.out d HMEM.out).on HBX.out
        have x4:WX.cell? ⟨wr§,4,none⟩=some (.slice d.a d.rs.length d.c):=Co HNX.out 4
        have cR:=rowsFit_any t d.rs d.a d.c WX (HTL.out.on HBX.out) HGL.out.2.2.2.1
        clear HB2 HN2 HA2 HR2 HMEM
        go_wp2_with (refine wpList_load_row rfl 26 (.tmp 1) rfl w§ rfl 26 t.vals (0,0) _ HPX.out Tryz.underlying26 rfl Qe ?_)
        refine cR.mono ?_
        rintro e w5 ⟨rfl,hb5⟩
        have HB5:Hid (Below w§ w w5):=Qa HBX.out hb5
        have HP5:Hid (w5.heap[w§]? = some (.cells t.vals 26 (0,0))):=(hb5.block _ (Array.getElem?_eq_some_iff.1 HPX.out).1).trans HPX.out
        have HA5:Hid (w5.heap[A]? = some (.cells #[zI p2] 3 (0,0))):=(hb5.block _ (Array.getElem?_eq_some_iff.1 HAX.out).1).trans HAX.out
        have HN5:Hid (w5.heap[wr§]? = some (.cells d.vals 68 (0,0))):=(hb5.block _ (Array.getElem?_eq_some_iff.1 HNX.out).1).trans HNX.out
        have HG5:Hid (GdL w5 d):=HGL.out.on hb5
        clear cR hb5 HBX HPX HAX HNX HGL x4 HWX
        cases hr:rowsB t.sl t.rs.length t.ts.length d.rs with
        | false =>
         have HX2:Hid (ANS=false):=by show _=_; rw [HD.out]; unfold gdN; rw [hr]; rfl
         go_wp2_with fail
         go_ret
         exact⟨by rw [HX2.out]; rfl,HB5.out⟩
        | true =>
         have HD2:Hid (ANS=endB t.ds.length (((Qv p2 (gSp d)).bind fun q=>gdsN t.sl t.rs.length t.ts.length q (gs.drop (j+1))).bind fun q=>stsN t.sl t.rs.length t.ts.length q (t.ts.drop (i+1)))):=by show _=_; rw [HD.out]; unfold gdN; rw [hr]; rfl
         obtain⟨y0,y1,y2,y3,y4⟩:=cl5 HN5.out
         have cL:=lies_any d A p2 w5 HG5.out (rowsB8 hr) HA5.out
         unfold GdM.vals at cL
         clear HD hr HN5 HG5
         go_wp2_with fail
         refine cL.mono ?_
         rintro e w6 ⟨rfl,hm6,q,ha6,hq6⟩
         have HB6:Hid (Below w§ w w6):=HB5.out.trans ((hm6.below HB5.out.size (by rintro _ rfl; exact Nat.le_of_lt HAG.out)))
         have HP6:Hid (w6.heap[w§]? = some (.cells t.vals 26 (0,0))):=(hm6.block _ (Array.getElem?_eq_some_iff.1 HP5.out).1 (by have:=HAG.out; omega)).trans HP5.out
         have HA6:Hid (w6.heap[A]? = some (.cells #[zI q] 3 (0,0))):=ha6
         have HQ6:Hid (∀ y,Qv p2 (gSp d)=some y→q=y):=hq6
         clear cL y0 y1 y2 y3 y4 hm6 ha6 hq6
         cases hz:Qv p2 (gSp d) with
         | none =>
          have HX2:Hid (ANS=false):=by show _=_; rw [HD2.out,hz]; rfl
          go_wp2_with fail
          go_ret
          exact⟨by rw [HX2.out]; rfl,HB6.out⟩
         | some z =>
          have hqz:=HQ6.out z hz
          subst hqz
          have HX2:Hid (ANS=endB t.ds.length ((gdsN t.sl t.rs.length t.ts.length q (gs.drop (j+1))).bind fun q=>stsN t.sl t.rs.length t.ts.length q (t.ts.drop (i+1)))):=by show _=_; rw [HD2.out,hz]; rfl
          go_wp2_with fail
          exact⟨⟨j+1,q,hltj,rfl,HB6,HP6,HA6,HX2⟩,by simp only [intOf]; omega⟩
       ·obtain rfl:j=gs.length:=by omega
        have hnot:¬ (gs.length:Int) < (gs.length:Int):=by omega
        have HX2:Hid (ANS=endB t.ds.length (stsN t.sl t.rs.length t.ts.length p2 (t.ts.drop (i+1)))):=by show _=_; rw [HR2.out,List.drop_length]; rfl
        go_wp2_with fail
        exact⟨⟨i+1,p2,hlt,rfl,HB2,HN2,HA2,HX2⟩,by simp only [intOf]; omega⟩
    ·obtain rfl:i=t.ts.length:=by omega
     have hnot:¬ (t.ts.length:Int) < (t.ts.length:Int):=by omega
     have HX:Hid (ANS=(p == (t.ds.length:Int))):=by show _=_; rw [HRR.out,List.drop_length]; rfl
     have x0:wr.cell? ⟨A,0,none⟩=some (zI p):=Co HAR.out 0
     have x4:wr.cell? ⟨w§,4,none⟩=some (.slice t.da t.ds.length t.dc):=Co HNR.out 4
     go_wp2_with fail
     go_ret
     exact⟨by rw [HX.out]; rfl,HBR.out⟩
structure CkAt (w:World) (C:Nat) (t:TbM) (h:Nat→Int):Prop where
 T:∀ j,j < 6→w.cell? ⟨C,j,none⟩=t.vals[j]?
 H:∀ j,j < 4097→w.cell? ⟨C,6+j,none⟩=some (zU (h j))
 F:∀ k,w.frozen? ⟨C,k,none⟩=false
 L:C < w§
theorem CkAt.blk {w w':World}{C:Nat}{t:TbM}{h:Nat→Int}(k:CkAt w C t h) (e:w'.heap[C]? = w.heap[C]?) (hs:w§≤w'§):CkAt w' C t h :=
 ⟨fun j hj=>by rw [World.cell?_of_block e]; exact k.T j hj,fun j hj=>by rw [World.cell?_of_block e]; exact k.H j hj,fun j=>by rw [← k.F j]; unfold World.frozen?; rw [e],Nat.lt_of_lt_of_le k.L hs⟩
theorem CkAt.on {w w':World}{C:Nat}{t:TbM}{h:Nat→Int}(k:CkAt w C t h) (b:Below w§ w w'):CkAt w' C t h:=k.blk (b.block C k.L) b.size
theorem cs_same {w:World}{a:Addr}{u:Value}(v:Value) (h:w.cell? a=some u):(w.setCell a v).cell? a=some v:=World.cell?_setCell_same (h:=h) ..
theorem cs_other {w:World}{G x y:Nat}(v:Value) (h:x≠y):(w.setCell ⟨G,x,none⟩ v).cell? ⟨G,y,none⟩=w.cell? ⟨G,y,none⟩:=World.cell?_setCell_other (h:=fun e=>h (by injection e)) ..
def upd (h:Nat→Int) (a:Nat) (x:Int):Nat→Int:=fun j=>if j=a then x else h j
theorem CkAt.set {w:World}{C:Nat}{t:TbM}{h:Nat→Int}(k:CkAt w C t h) (a:Nat) (ha:a < 4097) (x:Int):CkAt (w.setCell ⟨C,6+a,none⟩ (zU x)) C t (upd h a x):=by
 refine⟨fun j hj=>?_,fun j hj=>?_,fun j=>?_,?_⟩
 ·rw [cs_other _ (by omega)]; exact k.T j hj
 ·unfold upd
  by_cases e:j=a
  ·subst e; rw [if_pos rfl]; exact cs_same _ (k.H j hj)
  ·rw [if_neg e,cs_other _ (by omega)]; exact k.H j hj
 ·rw [World.frozen?_setCell]; exact k.F j
 ·rw [World.size_setCell]; exact k.L
def comeB (h:Nat→Int) (a:Nat) (x:Int):Bool:=Qb 0 x 64 && (h a == 0 || h a == x+1)
def comeH (h:Nat→Int) (a:Nat) (x:Int):Nat→Int:=if Qb 0 x 64 then upd h a (x+1) else h
def HOk (h:Nat→Int):Prop:=∀ j,0≤h j∧h j≤65
theorem comeH_ok {h:Nat→Int}(k:HOk h) (a:Nat) (x:Int):HOk (comeH h a x):=by
 unfold comeH
 cases hw:Qb 0 x 64 with
 | false=>simpa using k
 | true =>
  obtain⟨h0,h1⟩:0≤x∧x≤64:=by simpa [Qb] using hw
  intro j
  simp only [if_true,upd]
  split
  ·omega
  ·exact k j
theorem come_any (C:Nat) (t:TbM) (h:Nat→Int) (a:Nat) (x:Int) (w:World) (hk:CkAt w C t h) (ha:a < 4097):Calls zG 154 #[zP C,zI a,zI x] w fun e w'=>e=.returned (.bool (comeB h a x))∧Mv w w' (fun k=>k=C)∧CkAt w' C t (comeH h a x):=by
 have cW:=QC 0 x 64 w
 unfold comeB comeH
 cases hw:Qb 0 x 64 with
 | false =>
  rw [hw] at cW
  have HK:Hid (CkAt w C t h):=hk
  clear hk ha
  go_enter Tryz.func154,Tryz.ntmps154
  go_wp2_with fail
  refine cW.mono ?_
  rintro e w5 ⟨rfl,rfl⟩
  go_wp2_with fail
  go_ret
  exact⟨rfl,Mv.refl _ _,HK.out⟩
 | true =>
  rw [hw] at cW
  obtain⟨h0,h1⟩:0≤x∧x≤64:=by simpa [Qb] using hw
  have ca:=hk.H a ha
  have fa:=hk.F (6+a)
  have hx:x % 256=x:=by omega
  have hx1:(x+1) % 256=x+1:=by omega
  have ha1:(a:Int) < 4097:=by omega
  have HK:Hid (CkAt (w.setCell ⟨C,6+a,none⟩ (zU (x+1))) C t (upd h a (x+1))):=hk.set a ha _
  have HM:Hid (Mv w (w.setCell ⟨C,6+a,none⟩ (zU (x+1))) (fun k=>k=C)):=(Mv.refl w (fun k=>k=C)).setCell (a:=⟨C,6+a,none⟩) (.inl rfl) _
  clear hk
  cases hz:(h a == 0) with
  | true =>
   go_enter Tryz.func154,Tryz.ntmps154
   go_wp2_with fail
   refine cW.mono ?_
   rintro e w5 ⟨rfl,rfl⟩
   go_wp2_with fail
   go_ret
   exact⟨rfl,HM.out,HK.out⟩
  | false =>
   go_enter Tryz.func154,Tryz.ntmps154
   go_wp2_with fail
   refine cW.mono ?_
   rintro e w5 ⟨rfl,rfl⟩
   go_wp2_with fail
   go_ret
   exact⟨rfl,HM.out,HK.out⟩
def Qg (t:TbM) (d:InM) (a b:Int):Bool :=
 if d.k == 1 then Qb 0 d.a ((t.cs.length:Int) - 1) else if d.k == 2 then Qb 1 d.a 6 else if d.k == 3 then Qb 1 d.a 3 else if d.k == 4 then Qb 0 d.a ((t.rs.length:Int) - 1) else if d.k == 5 then Qb 1 d.a 16 else if d.k == 6 then Qb (a+1) d.a b else if d.k == 7 then Qb (a+1) d.a b else if d.k == 8 then Qb (a+1) d.a b else if d.k == 9 then Qb (a+1) d.a b else false
theorem CkAt.c1 {w:World}{C:Nat}{t:TbM}{h:Nat→Int}(k:CkAt w C t h):w.cell? ⟨C,1,none⟩=some (.slice t.ra t.rs.length t.rc):=k.T 1 (by omega)
theorem CkAt.c3 {w:World}{C:Nat}{t:TbM}{h:Nat→Int}(k:CkAt w C t h):w.cell? ⟨C,3,none⟩=some (.slice t.ca t.cs.length t.cc):=k.T 3 (by omega)
theorem CkAt.c4 {w:World}{C:Nat}{t:TbM}{h:Nat→Int}(k:CkAt w C t h):w.cell? ⟨C,4,none⟩=some (.slice t.da t.ds.length t.dc):=k.T 4 (by omega)
theorem CkAt.c5 {w:World}{C:Nat}{t:TbM}{h:Nat→Int}(k:CkAt w C t h):w.cell? ⟨C,5,none⟩=some (.slice t.ta t.ts.length t.tc):=k.T 5 (by omega)
theorem stands_any (C:Nat) (t:TbM) (h:Nat→Int) (a:Nat) (b:Int) (w:World) (hk:CkAt w C t h) (hl:TbL w t) (hs:t.rs.length≤12∧t.cs.length≤1024∧t.ds.length≤4096) (ha:a < t.ds.length):Calls zG 127 #[zP C,zI a,zI b] w fun e w'=>e=.returned (.bool (Qg t (t.ds.getD a ⟨0,0⟩) a b))∧w'=w:=by
 obtain⟨bb,o,ea,hat⟩:=hl.D.2.2 a (by rw [List.length_map]; exact ha)
 simp only [List.getElem_map] at hat
 have hI:=hl.Di t.ds[a] (List.getElem_mem ha)
 obtain⟨d,ed⟩:∃ d,t.ds[a]=d:=⟨_,rfl⟩
 rw [ed] at hat hI
 have k0:w.cell? ⟨bb,o+a * 2,none⟩=some (zU d.k):=by have:=hat 0 (by omega); rw [Nat.add_zero] at this; exact this
 have k1:w.cell? ⟨bb,o+a * 2+1,none⟩=some (zI d.a):=hat 1 (by omega)
 have c4:=hk.c4
 rw [ea] at c4
 have ha1:(a:Int) < (t.ds.length:Int):=by omega
 have hr1:t.rs.length≤12:=hs.1
 have hc1:t.cs.length≤1024:=hs.2.1
 have hd1:t.ds.length≤4096:=hs.2.2
 rw [show t.ds.getD a ⟨0,0⟩=d by rw [List.getD_eq_getElem?_getD,List.getElem?_eq_getElem ha,ed]; rfl]
 have c1:=hk.c1
 have c3:=hk.c3
 clear hat hk hl ed ea hs hI
 unfold Qg
 cases h1:(d.k == 1) with
 | true =>
  have cW:=QC 0 d.a ((t.cs.length:Int) - 1) w
  go_enter Tryz.func127,Tryz.ntmps127
  go_wp2_with fail
  refine cW.mono ?_
  rintro e w5 ⟨rfl,rfl⟩
  go_wp2_with fail
  go_ret
  exact⟨by simp [*],rfl⟩
 | false =>
  cases h2:(d.k == 2) with
  | true =>
   have cW:=QC 1 d.a 6 w
   go_enter Tryz.func127,Tryz.ntmps127
   go_wp2_with fail
   refine cW.mono ?_
   rintro e w5 ⟨rfl,rfl⟩
   go_wp2_with fail
   go_ret
   exact⟨by simp [*],rfl⟩
  | false =>
   cases h3:(d.k == 3) with
   | true =>
    have cW:=QC 1 d.a 3 w
    go_enter Tryz.func127,Tryz.ntmps127
    go_wp2_with fail
    refine cW.mono ?_
    rintro e w5 ⟨rfl,rfl⟩
    go_wp2_with fail
    go_ret
    exact⟨by simp [*],rfl⟩
   | false =>
    cases h4:(d.k == 4) with
    | true =>
     have cW:=QC 0 d.a ((t.rs.length:Int) - 1) w
     go_enter Tryz.func127,Tryz.ntmps127
     go_wp2_with fail
     refine cW.mono ?_
     rintro e w5 ⟨rfl,rfl⟩
     go_wp2_with fail
     go_ret
     exact⟨by simp [*],rfl⟩
    | false =>
     cases h5:(d.k == 5) with
     | true =>
      have cW:=QC 1 d.a 16 w
      go_enter Tryz.func127,Tryz.ntmps127
      go_wp2_with fail
      refine cW.mono ?_
      rintro e w5 ⟨rfl,rfl⟩
      go_wp2_with fail
      go_ret
      exact⟨by simp [*],rfl⟩
     | false =>
      cases h6:(d.k == 6) with
      | true =>
       have cW:=QC ((a:Int)+1) d.a b w
       go_enter Tryz.func127,Tryz.ntmps127
       go_wp2_with fail
       refine cW.mono ?_
       rintro e w5 ⟨rfl,rfl⟩
       go_wp2_with fail
       go_ret
       exact⟨by simp [*],rfl⟩
      | false =>
       cases h7:(d.k == 7) with
       | true =>
        have cW:=QC ((a:Int)+1) d.a b w
        go_enter Tryz.func127,Tryz.ntmps127
        go_wp2_with fail
        refine cW.mono ?_
        rintro e w5 ⟨rfl,rfl⟩
        go_wp2_with fail
        go_ret
        exact⟨by simp [*],rfl⟩
       | false =>
        cases h8:(d.k == 8) with
        | true =>
         have cW:=QC ((a:Int)+1) d.a b w
         go_enter Tryz.func127,Tryz.ntmps127
         go_wp2_with fail
         refine cW.mono ?_
         rintro e w5 ⟨rfl,rfl⟩
         go_wp2_with fail
         go_ret
         exact⟨by simp [*],rfl⟩
        | false =>
         cases h9:(d.k == 9) with
         | true =>
          have cW:=QC ((a:Int)+1) d.a b w
          go_enter Tryz.func127,Tryz.ntmps127
          go_wp2_with fail
          refine cW.mono ?_
          rintro e w5 ⟨rfl,rfl⟩
          go_wp2_with fail
          go_ret
          exact⟨by simp [*],rfl⟩
         | false =>
          go_enter Tryz.func127,Tryz.ntmps127
          go_wp2_with fail
          go_ret
          exact⟨by simp [*],rfl⟩
def and2 (h:Nat→Int) (p:Nat) (x:Int) (q:Nat) (y:Int):Bool × (Nat→Int):=if comeB h p x then (comeB (comeH h p x) q y,comeH (comeH h p x) q y) else (false,comeH h p x)
def goF (h:Nat→Int) (d:InM) (a:Nat) (x:Int):Bool × (Nat→Int) :=
 if d.k == 5 then (if decide (d.a≤3) then (if decide (x ≥ 1) then (comeB h (a+1) x,comeH h (a+1) x) else (false,h)) else (if decide (x ≥ 2) then (comeB h (a+1) (x - 1),comeH h (a+1) (x - 1)) else (false,h)))
 else if d.k == 6 then and2 h d.a.toNat x (a+1) (x - 1) else if d.k == 7 then and2 h d.a.toNat x (a+1) (x - 1) else if d.k == 8 then and2 h d.a.toNat (x - 1) (a+1) (x - 1)
 else if d.k == 9 then (comeB h d.a.toNat x,comeH h d.a.toNat x) else (comeB h (a+1) (x+1),comeH h (a+1) (x+1))
theorem goF_ok {h:Nat→Int}(k:HOk h) (d:InM) (a:Nat) (x:Int):HOk (goF h d a x).2:=by
 unfold goF and2
 repeat' split
 all_goals first | exact k | exact comeH_ok k _ _ | exact comeH_ok (comeH_ok k _ _) _ _
theorem Ji (C:Nat) (t:TbM) (h:Nat→Int) (y:Int) (x:Int) (w:World) (hk:CkAt w C t h) (h0:0≤y) (h1:y < 4097):Calls zG 154 #[zP C,zI y,zI x] w fun e w'=>e=.returned (.bool (comeB h y.toNat x))∧Mv w w' (fun k=>k=C)∧CkAt w' C t (comeH h y.toNat x):=by
 obtain⟨n,rfl⟩:=Int.eq_ofNat_of_zero_le h0
 exact come_any C t h n x w hk (by omega)
theorem goOn_any (C : Nat) (t : TbM) (h : Nat → Int) (a : Nat) (x : Int) (w : World) (hk : CkAt w C t h) (hl : TbL w t) (hd1 : t.ds.length ≤ 4096) (ha : a < t.ds.length) (hx : -1 ≤ x ∧ x ≤ 64) (hok : ((t.ds.getD a ⟨0, 0⟩).k = 5 → 1 ≤ (t.ds.getD a ⟨0, 0⟩).a ∧ (t.ds.getD a ⟨0, 0⟩).a ≤ 16) ∧ (6 ≤ (t.ds.getD a ⟨0, 0⟩).k → (t.ds.getD a ⟨0, 0⟩).k ≤ 9 → (a : Int) + 1 ≤ (t.ds.getD a ⟨0, 0⟩).a ∧ (t.ds.getD a ⟨0, 0⟩).a ≤ 4096)) : Calls zG 147 #[.pointer (some ⟨C, 0, none⟩), zI a, zI x] w fun e w' => e = .returned (.bool (goF h (t.ds.getD a ⟨0, 0⟩) a x).1) ∧ Mv w w' (fun k => k = C) ∧ CkAt w' C t (goF h (t.ds.getD a ⟨0, 0⟩) a x).2 := by
 obtain⟨bb,o,ea,hat⟩:=hl.D.2.2 a (by rw [List.length_map]; exact ha)
 simp only [List.getElem_map] at hat
 have hI:=hl.Di t.ds[a] (List.getElem_mem ha)
 obtain⟨d,ed⟩:∃ d,t.ds[a]=d:=⟨_,rfl⟩
 rw [ed] at hat hI
 have k0:w.cell? ⟨bb,o+a * 2,none⟩=some (zU d.k):=by have:=hat 0 (by omega); rw [Nat.add_zero] at this; exact this
 have k1:w.cell? ⟨bb,o+a * 2+1,none⟩=some (zI d.a):=hat 1 (by omega)
 have c4:=hk.c4
 rw [ea] at c4
 have ha1:(a:Int) < (t.ds.length:Int):=by omega
 rw [show t.ds.getD a ⟨0,0⟩=d by rw [List.getD_eq_getElem?_getD,List.getElem?_eq_getElem ha,ed]; rfl]
 rw [show t.ds.getD a ⟨0,0⟩=d by rw [List.getD_eq_getElem?_getD,List.getElem?_eq_getElem ha,ed]; rfl] at hok
 have HK:Hid (CkAt w C t h):=hk
 have HRG:Hid (w.rangeAt bb (o+a * 2) d.vals.toList):=fun j v hv=>by
  have hj:j < 2:=(List.getElem?_eq_some_iff.1 hv).1
  rw [hat j hj,← hv]; simp
 have HZ:Hid ((w.alloc (.cells #[zU 0,zI 0] 61)).heap[w§]? = some (.cells #[zU 0,zI 0] 61 (0,0))):=Hn _ _
 have HB1:Hid (Below w§ w ((w.alloc (.cells #[zU 0,zI 0] 61)).setRow w§ d.vals)):=Qc (Bn _ _) (Nat.le_refl _) _
 have HN1:Hid (((w.alloc (.cells #[zU 0,zI 0] 61)).setRow w§ d.vals).heap[w§]? = some (.cells d.vals 61 (0,0))):=setRow_heap _ _ _ _ _ _ HZ.out
 clear hat hk hl ed ea hI
 obtain⟨R,eR⟩:∃ R,goF h d a x=R:=⟨_,rfl⟩
 have HR:Hid (goF h d a x=R):=eR
 rw [eR]
 clear eR
 go_enter Tryz.func147,Tryz.ntmps147
 go_upto_region 2 with (first | (refine wpList_load_mid rfl 61 (.tmp 14) rfl bb (o+a * 2) rfl d.vals.toList _ HRG.out Tryz.underlying61 rfl (by show _=some 2; exact Jq) ?_; rw [Array.toArray_toList]) | (refine wpList_store_row rfl 61 (.tmp 7) (.tmp 15) rfl w§ d.vals rfl rfl 61 #[zU 0,zI 0] HZ.out Jq rfl (allIn d) ?_))
 generalize World.setRow _ _ _=W1 at HB1 HN1 ⊢
 have HK1:Hid (CkAt W1 C t h):=HK.out.on HB1.out
 have HM1 : Hid (Mv w W1 (fun k => k = C)) := Mv.ofBelow HB1.out
 obtain⟨x0,x1⟩:=cl2 HN1.out
 clear HZ HRG k0 k1 c4
 obtain rfl:=HR.out
 clear HR
 cases h5:(d.k == 5) with
 | true =>
  have hda:1≤d.a∧d.a≤16:=hok.1 (by simpa using h5)
  have hdm:d.a % 256=d.a:=by omega
  cases h3:decide (d.a≤3) with
  | true =>
   cases h1:decide (x ≥ 1) with
   | true =>
    have HE:Hid (goF h d a x=(comeB h (a+1) x,comeH h (a+1) x)):=by show _=_; unfold goF and2; simp only [h5,h3,h1,reduceIte,Bool.false_eq_true,if_false,if_true]
    have cC:=Ji C t h ((a:Int)+1) x W1 HK1.out (by omega) (by omega)
    go_wp2_with fail
    refine cC.mono ?_
    rintro e w5 ⟨rfl,hm5,hk5⟩
    have HM5:Hid (Mv w w5 (fun k=>k=C)):=HM1.out.trans hm5 (fun _ e=>.inl e)
    have HK5:Hid (CkAt w5 C t (comeH h (a+1) x)):=by first | exact hk5 | (have:=hk5; simpa using this)
    clear cC hm5 hk5
    go_wp2_with fail
    go_ret
    exact⟨by rw [HE.out]; rfl,HM5.out,by rw [HE.out]; exact HK5.out⟩
   | false =>
    have HE:Hid (goF h d a x=(false,h)):=by show _=_; unfold goF and2; simp only [h5,h3,h1,reduceIte,Bool.false_eq_true,if_false,if_true]
    go_wp2_with fail
    go_ret
    exact⟨by rw [HE.out]; rfl,HM1.out,by rw [HE.out]; exact HK1.out⟩
  | false =>
   cases h2:decide (x ≥ 2) with
   | true =>
    have HE:Hid (goF h d a x=(comeB h (a+1) (x - 1),comeH h (a+1) (x - 1))):=by show _=_; unfold goF and2; simp only [h5,h3,h2,reduceIte,Bool.false_eq_true,if_false,if_true]
    have cC:=Ji C t h ((a:Int)+1) (x - 1) W1 HK1.out (by omega) (by omega)
    go_wp2_with fail
    refine cC.mono ?_
    rintro e w5 ⟨rfl,hm5,hk5⟩
    have HM5:Hid (Mv w w5 (fun k=>k=C)):=HM1.out.trans hm5 (fun _ e=>.inl e)
    have HK5:Hid (CkAt w5 C t (comeH h (a+1) (x - 1))):=by first | exact hk5 | (have:=hk5; simpa using this)
    clear cC hm5 hk5
    go_wp2_with fail
    go_ret
    exact⟨by rw [HE.out]; rfl,HM5.out,by rw [HE.out]; exact HK5.out⟩
   | false =>
    have HE:Hid (goF h d a x=(false,h)):=by show _=_; unfold goF and2; simp only [h5,h3,h2,reduceIte,Bool.false_eq_true,if_false,if_true]
    go_wp2_with fail
    go_ret
    exact⟨by rw [HE.out]; rfl,HM1.out,by rw [HE.out]; exact HK1.out⟩
 | false =>
  cases h6:(d.k == 6) with
  | true =>
   obtain⟨hj0,hj1⟩:(a:Int)+1≤d.a∧d.a≤4096:=hok.2 (by simp at h6; omega) (by simp at h6; omega)
   have cC:=Ji C t h d.a x W1 HK1.out (by omega) (by omega)
   cases hb:comeB h d.a.toNat x with
   | false =>
    rw [hb] at cC
    have HE:Hid (goF h d a x=(false,comeH h d.a.toNat x)):=by show _=_; unfold goF and2; simp only [h5,h6,hb,reduceIte,Bool.false_eq_true,if_false,if_true]
    go_wp2_with fail
    refine cC.mono ?_
    rintro e w5 ⟨rfl,hm5,hk5⟩
    have HM5:Hid (Mv w w5 (fun k=>k=C)):=HM1.out.trans hm5 (fun _ e=>.inl e)
    have HK5:Hid (CkAt w5 C t (comeH h d.a.toNat x)):=hk5
    clear cC hm5 hk5
    go_wp2_with fail
    go_ret
    exact⟨by rw [HE.out]; rfl,HM5.out,by rw [HE.out]; exact HK5.out⟩
   | true =>
    rw [hb] at cC
    have HE:Hid (goF h d a x=(comeB (comeH h d.a.toNat x) (a+1) (x - 1),comeH (comeH h d.a.toNat x) (a+1) (x - 1))):=by show _=_; unfold goF and2; simp only [h5,h6,hb,reduceIte,Bool.false_eq_true,if_false,if_true]
    go_wp2_with fail
    refine cC.mono ?_
    rintro e w5 ⟨rfl,hm5,hk5⟩
    have HM5:Hid (Mv w w5 (fun k=>k=C)):=HM1.out.trans hm5 (fun _ e=>.inl e)
    have cD:=Ji C t (comeH h d.a.toNat x) ((a:Int)+1) (x - 1) w5 hk5 (by omega) (by omega)
    clear cC hm5 hk5
    go_wp2_with fail
    refine cD.mono ?_
    rintro e w6 ⟨rfl,hm6,hk6⟩
    have HM6:Hid (Mv w w6 (fun k=>k=C)):=HM5.out.trans hm6 (fun _ e=>.inl e)
    have HK6:Hid (CkAt w6 C t (comeH (comeH h d.a.toNat x) (a+1) (x - 1))):=hk6
    clear cD hm6 hk6
    go_wp2_with fail
    go_ret
    exact⟨by rw [HE.out]; rfl,HM6.out,by rw [HE.out]; exact HK6.out⟩
  | false =>
   cases h7:(d.k == 7) with
   | true =>
    obtain⟨hj0,hj1⟩:(a:Int)+1≤d.a∧d.a≤4096:=hok.2 (by simp at h7; omega) (by simp at h7; omega)
    have cC:=Ji C t h d.a x W1 HK1.out (by omega) (by omega)
    cases hb:comeB h d.a.toNat x with
    | false =>
     rw [hb] at cC
     have HE:Hid (goF h d a x=(false,comeH h d.a.toNat x)):=by show _=_; unfold goF and2; simp only [h5,h6,h7,hb,reduceIte,Bool.false_eq_true,if_false,if_true]
     go_wp2_with fail
     refine cC.mono ?_
     rintro e w5 ⟨rfl,hm5,hk5⟩
     have HM5:Hid (Mv w w5 (fun k=>k=C)):=HM1.out.trans hm5 (fun _ e=>.inl e)
     have HK5:Hid (CkAt w5 C t (comeH h d.a.toNat x)):=hk5
     clear cC hm5 hk5
     go_wp2_with fail
     go_ret
     exact⟨by rw [HE.out]; rfl,HM5.out,by rw [HE.out]; exact HK5.out⟩
    | true =>
     rw [hb] at cC
     have HE:Hid (goF h d a x=(comeB (comeH h d.a.toNat x) (a+1) (x - 1),comeH (comeH h d.a.toNat x) (a+1) (x - 1))):=by show _=_; unfold goF and2; simp only [h5,h6,h7,hb,reduceIte,Bool.false_eq_true,if_false,if_true]
     go_wp2_with fail
     refine cC.mono ?_
     rintro e w5 ⟨rfl,hm5,hk5⟩
     have HM5:Hid (Mv w w5 (fun k=>k=C)):=HM1.out.trans hm5 (fun _ e=>.inl e)
     have cD:=Ji C t (comeH h d.a.toNat x) ((a:Int)+1) (x - 1) w5 hk5 (by omega) (by omega)
     clear cC hm5 hk5
     go_wp2_with fail
     refine cD.mono ?_
     rintro e w6 ⟨rfl,hm6,hk6⟩
     have HM6:Hid (Mv w w6 (fun k=>k=C)):=HM5.out.trans hm6 (fun _ e=>.inl e)
     have HK6:Hid (CkAt w6 C t (comeH (comeH h d.a.toNat x) (a+1) (x - 1))):=hk6
     clear cD hm6 hk6
     go_wp2_with fail
     go_ret
     exact⟨by rw [HE.out]; rfl,HM6.out,by rw [HE.out]; exact HK6.out⟩
   | false =>
    cases h8:(d.k == 8) with
    | true =>
     obtain⟨hj0,hj1⟩:(a:Int)+1≤d.a∧d.a≤4096:=hok.2 (by simp at h8; omega) (by simp at h8; omega)
     have cC:=Ji C t h d.a (x - 1) W1 HK1.out (by omega) (by omega)
     cases hb:comeB h d.a.toNat (x - 1) with
     | false =>
      rw [hb] at cC
      have HE:Hid (goF h d a x=(false,comeH h d.a.toNat (x - 1))):=by show _=_; unfold goF and2; simp only [h5,h6,h7,h8,hb,reduceIte,Bool.false_eq_true,if_false,if_true]
      go_wp2_with fail
      refine cC.mono ?_
      rintro e w5 ⟨rfl,hm5,hk5⟩
      have HM5:Hid (Mv w w5 (fun k=>k=C)):=HM1.out.trans hm5 (fun _ e=>.inl e)
      have HK5:Hid (CkAt w5 C t (comeH h d.a.toNat (x - 1))):=hk5
      clear cC hm5 hk5
      go_wp2_with fail
      go_ret
      exact⟨by rw [HE.out]; rfl,HM5.out,by rw [HE.out]; exact HK5.out⟩
     | true =>
      rw [hb] at cC
      have HE:Hid (goF h d a x=(comeB (comeH h d.a.toNat (x - 1)) (a+1) (x - 1),comeH (comeH h d.a.toNat (x - 1)) (a+1) (x - 1))):=by show _=_; unfold goF and2; simp only [h5,h6,h7,h8,hb,reduceIte,Bool.false_eq_true,if_false,if_true]
      go_wp2_with fail
      refine cC.mono ?_
      rintro e w5 ⟨rfl,hm5,hk5⟩
      have HM5:Hid (Mv w w5 (fun k=>k=C)):=HM1.out.trans hm5 (fun _ e=>.inl e)
      have cD:=Ji C t (comeH h d.a.toNat (x - 1)) ((a:Int)+1) (x - 1) w5 hk5 (by omega) (by omega)
      clear cC hm5 hk5
      go_wp2_with fail
      refine cD.mono ?_
      rintro e w6 ⟨rfl,hm6,hk6⟩
      have HM6:Hid (Mv w w6 (fun k=>k=C)):=HM5.out.trans hm6 (fun _ e=>.inl e)
      have HK6:Hid (CkAt w6 C t (comeH (comeH h d.a.toNat (x - 1)) (a+1) (x - 1))):=hk6
      clear cD hm6 hk6
      go_wp2_with fail
      go_ret
      exact⟨by rw [HE.out]; rfl,HM6.out,by rw [HE.out]; exact HK6.out⟩
    | false =>
     cases h9:(d.k == 9) with
     | true =>
      obtain⟨hj0,hj1⟩:(a:Int)+1≤d.a∧d.a≤4096:=hok.2 (by simp at h9; omega) (by simp at h9; omega)
      have HE:Hid (goF h d a x=(comeB h d.a.toNat x,comeH h d.a.toNat x)):=by show _=_; unfold goF and2; simp only [h5,h6,h7,h8,h9,reduceIte,Bool.false_eq_true,if_false,if_true]
      have cC:=Ji C t h d.a x W1 HK1.out (by omega) (by omega)
      go_wp2_with fail
      refine cC.mono ?_
      rintro e w5 ⟨rfl,hm5,hk5⟩
      have HM5:Hid (Mv w w5 (fun k=>k=C)):=HM1.out.trans hm5 (fun _ e=>.inl e)
      have HK5:Hid (CkAt w5 C t (comeH h d.a.toNat x)):=by first | exact hk5 | (have:=hk5; simpa using this)
      clear cC hm5 hk5
      go_wp2_with fail
      go_ret
      exact⟨by rw [HE.out]; rfl,HM5.out,by rw [HE.out]; exact HK5.out⟩
     | false =>
      have HE:Hid (goF h d a x=(comeB h (a+1) (x+1),comeH h (a+1) (x+1))):=by show _=_; unfold goF and2; simp only [h5,h6,h7,h8,h9,reduceIte,Bool.false_eq_true,if_false,if_true]
      have cC:=Ji C t h ((a:Int)+1) (x+1) W1 HK1.out (by omega) (by omega)
      go_wp2_with fail
      refine cC.mono ?_
      rintro e w5 ⟨rfl,hm5,hk5⟩
      have HM5:Hid (Mv w w5 (fun k=>k=C)):=HM1.out.trans hm5 (fun _ e=>.inl e)
      have HK5:Hid (CkAt w5 C t (comeH h (a+1) (x+1))):=by first | exact hk5 | (have:=hk5; simpa using this)
      clear cC hm5 hk5
      go_wp2_with fail
      go_ret
      exact⟨by rw [HE.out]; rfl,HM5.out,by rw [HE.out]; exact HK5.out⟩
end Go.Proofs.YteedmmljahgpjaaGreatDoor
