import Derived.Test.YteedmmljahgpjaaGreatDoorA0
import Derived.Test.YteedmmljahgpjaaGreatDoorA27
import Derived.Test.YteedmmljahgpjaaGreatDoorA13
namespace Go.Proofs.YteedmmljahgpjaaGreatDoor
set_option maxRecDepth 100000
set_option maxHeartbeats 4000000
open Go.RowKit
set_option linter.unusedVariables false
set_option linter.unusedSimpArgs false
structure DsL (w:World) (t:TbM):Prop where
 D:SlAt w 2 t.da t.dc (t.ds.map InM.vals)
theorem DsL.on {w w':World}{t:TbM}(h:DsL w t) (k:Below w§ w w'):DsL w' t:=⟨h.D.on (fun x hx=>by obtain⟨d,_,rfl⟩:=List.mem_map.1 hx; exact Nat.le_refl _) k⟩
theorem rreadsD_a (t:TbM) (F:Nat) (T:Int) (w:World) (hl:DsL w t) (hT:T≤t.ds.length):Calls zG 30 #[.slice t.da t.ds.length t.dc,.agg (Sp.vals ⟨F,T⟩)] w fun e w'=>e=.returned (.tuple #[.int .u16 (rdL t.ds (T.toNat - F) F (0,0)).1,.int .u16 (rdL t.ds (T.toNat - F) F (0,0)).2])∧Below w§ w w':=by
 have hb1:=Bn w (.cells (Sp.vals ⟨F,T⟩) 65)
 have hn1:=Hn w (.cells (Sp.vals ⟨F,T⟩) 65)
 obtain⟨W1,e1⟩:∃ W,w.alloc (.cells (Sp.vals ⟨F,T⟩) 65)=W:=⟨_,rfl⟩
 have E1:=zH e1
 rw [e1] at hb1 hn1
 have HB1:=zH hb1
 have HL:Hid (DsL W1 t):=hl.on hb1
 obtain⟨x0,x1⟩:=cl2 hn1
 obtain⟨R,eR⟩:∃ q,rdL t.ds (T.toNat - F) F (0,0)=q:=⟨_,rfl⟩
 have HR:=zH eR.symm
 rw [eR]
 have hdl:t.ds.length≤9223372036854775807:=by have h1:=hl.D.1; have h2:=hl.D.2.1; rw [List.length_map] at h1; omega
 have HTL:Hid (T≤t.ds.length):=hT
 clear hb1 hn1 e1 eR hl hT
 go_enter Tryz.func30,Tryz.ntmps30
 go_upto_region 1 with fail
 rw [E1.out]
 clear E1
 go_wp2_with fail
 clear x0
 go_loopw [6,7,8] (fun p q s wr=>∃ (a:Nat) (fm rm:Int),p=.int .u16 fm∧q=.int .u16 rm∧s=zI a∧wr=W1∧Hid (R=rdL t.ds (T.toNat - a) a (fm,rm))) (fun _ _ s _=>(T - intOf s).toNat)
 case atStart=>exact⟨F,0,0,rfl,rfl,rfl,rfl,HR⟩
 case round =>
  obtain⟨a,fm,rm,rfl,rfl,rfl,rfl,HRR⟩:=hrel
  by_cases hlt:(a:Int) < T
  ·have hTT:=HTL.out
   have hal:a < t.ds.length:=by omega
   have hal':(a:Int) < (t.ds.length:Int):=by omega
   have hai:(a:Int)+1≤9223372036854775807:=by omega
   obtain⟨bb,o,ea,r1⟩:=QP InM.sz HL.out.D a hal
   have hR:=HRR.out
   rw [show T.toNat - a=(T.toNat - (a+1))+1 by omega] at hR
   simp only [rdL] at hR
   have hgd:t.ds.getD a ⟨0,0⟩=t.ds[a]:=by rw [List.getD_eq_getElem?_getD,List.getElem?_eq_getElem hal]; rfl
   rw [hgd] at hR
   obtain⟨d,ed⟩:∃ d,t.ds[a]=d:=⟨_,rfl⟩
   rw [ed] at hR r1
   have k0:wr.cell? ⟨bb,o+a * 2,none⟩=some (zU d.k):=by have:=r1 0 _ rfl; rw [Nat.add_zero] at this; exact this
   have k1:wr.cell? ⟨bb,o+a * 2+1,none⟩=some (zI d.a):=r1 1 _ rfl
   have HD:=QY hR
   clear hR ed hgd r1 hTT HRR
   rw [ea]
   cases h2:(d.k == 2) with
   | true =>
    cases h0:decide (d.a ≥ 0) with
    | false =>
     have g0:decide (d.a < 0)=true:=decide_eq_true (by have:=of_decide_eq_false h0; omega)
     have HX:Hid (R=rdL t.ds (T.toNat - (a+1)) (a+1) (fm,rm)):=by show _=_; rw [HD.out]; unfold rd1; simp only [g0,reduceIte,Bool.false_eq_true,if_false,if_true]
     go_wp2_with fail
     exact⟨⟨a+1,fm,rm,by first | (unfold orM; rfl) | rfl | trivial,by first | (unfold orM; rfl) | rfl | trivial,by congr 1,by first | rfl | trivial,HX⟩,by simp only [intOf]; omega⟩
    | true =>
     have g0:decide (d.a < 0)=false:=decide_eq_false (by have:=of_decide_eq_true h0; omega)
     cases h16:decide (d.a < 16) with
     | false =>
      have g1:decide (d.a ≥ 16)=true:=decide_eq_true (by have:=of_decide_eq_false h16; omega)
      have HX:Hid (R=rdL t.ds (T.toNat - (a+1)) (a+1) (fm,rm)):=by show _=_; rw [HD.out]; unfold rd1; simp only [g0,g1,reduceIte,Bool.false_eq_true,if_false,if_true]
      go_wp2_with fail
      exact⟨⟨a+1,fm,rm,by first | (unfold orM; rfl) | rfl | trivial,by first | (unfold orM; rfl) | rfl | trivial,by congr 1,by first | rfl | trivial,HX⟩,by simp only [intOf]; omega⟩
     | true =>
      have g1:decide (d.a ≥ 16)=false:=decide_eq_false (by have:=of_decide_eq_true h16; omega)
      have ha0:0≤d.a:=of_decide_eq_true h0
      have ha16:d.a < 16:=of_decide_eq_true h16
      have HX:Hid (R=rdL t.ds (T.toNat - (a+1)) (a+1) ((orM fm d.a),rm)):=by show _=_; rw [HD.out]; unfold rd1; simp only [g0,g1,h2,reduceIte,Bool.false_eq_true,if_false,if_true]
      go_wp2_with fail
      exact⟨⟨a+1,(orM fm d.a),rm,by first | (unfold orM; rfl) | rfl | trivial,by first | (unfold orM; rfl) | rfl | trivial,by congr 1,by first | rfl | trivial,HX⟩,by simp only [intOf]; omega⟩
   | false =>
    cases h3:(d.k == 3) with
    | true =>
     cases h0:decide (d.a ≥ 0) with
     | false =>
      have g0:decide (d.a < 0)=true:=decide_eq_true (by have:=of_decide_eq_false h0; omega)
      have HX:Hid (R=rdL t.ds (T.toNat - (a+1)) (a+1) (fm,rm)):=by show _=_; rw [HD.out]; unfold rd1; simp only [g0,reduceIte,Bool.false_eq_true,if_false,if_true]
      go_wp2_with fail
      exact⟨⟨a+1,fm,rm,by first | (unfold orM; rfl) | rfl | trivial,by first | (unfold orM; rfl) | rfl | trivial,by congr 1,by first | rfl | trivial,HX⟩,by simp only [intOf]; omega⟩
     | true =>
      have g0:decide (d.a < 0)=false:=decide_eq_false (by have:=of_decide_eq_true h0; omega)
      cases h16:decide (d.a < 16) with
      | false =>
       have g1:decide (d.a ≥ 16)=true:=decide_eq_true (by have:=of_decide_eq_false h16; omega)
       have HX:Hid (R=rdL t.ds (T.toNat - (a+1)) (a+1) (fm,rm)):=by show _=_; rw [HD.out]; unfold rd1; simp only [g0,g1,reduceIte,Bool.false_eq_true,if_false,if_true]
       go_wp2_with fail
       exact⟨⟨a+1,fm,rm,by first | (unfold orM; rfl) | rfl | trivial,by first | (unfold orM; rfl) | rfl | trivial,by congr 1,by first | rfl | trivial,HX⟩,by simp only [intOf]; omega⟩
      | true =>
       have g1:decide (d.a ≥ 16)=false:=decide_eq_false (by have:=of_decide_eq_true h16; omega)
       have ha0:0≤d.a:=of_decide_eq_true h0
       have ha16:d.a < 16:=of_decide_eq_true h16
       have HX:Hid (R=rdL t.ds (T.toNat - (a+1)) (a+1) ((orM fm d.a),rm)):=by show _=_; rw [HD.out]; unfold rd1; simp only [g0,g1,h2,h3,reduceIte,Bool.false_eq_true,if_false,if_true]
       go_wp2_with fail
       exact⟨⟨a+1,(orM fm d.a),rm,by first | (unfold orM; rfl) | rfl | trivial,by first | (unfold orM; rfl) | rfl | trivial,by congr 1,by first | rfl | trivial,HX⟩,by simp only [intOf]; omega⟩
    | false =>
     cases h4:(d.k == 4) with
     | true =>
      cases h0:decide (d.a ≥ 0) with
      | false =>
       have g0:decide (d.a < 0)=true:=decide_eq_true (by have:=of_decide_eq_false h0; omega)
       have HX:Hid (R=rdL t.ds (T.toNat - (a+1)) (a+1) (fm,rm)):=by show _=_; rw [HD.out]; unfold rd1; simp only [g0,reduceIte,Bool.false_eq_true,if_false,if_true]
       go_wp2_with fail
       exact⟨⟨a+1,fm,rm,by first | (unfold orM; rfl) | rfl | trivial,by first | (unfold orM; rfl) | rfl | trivial,by congr 1,by first | rfl | trivial,HX⟩,by simp only [intOf]; omega⟩
      | true =>
       have g0:decide (d.a < 0)=false:=decide_eq_false (by have:=of_decide_eq_true h0; omega)
       cases h16:decide (d.a < 16) with
       | false =>
        have g1:decide (d.a ≥ 16)=true:=decide_eq_true (by have:=of_decide_eq_false h16; omega)
        have HX:Hid (R=rdL t.ds (T.toNat - (a+1)) (a+1) (fm,rm)):=by show _=_; rw [HD.out]; unfold rd1; simp only [g0,g1,reduceIte,Bool.false_eq_true,if_false,if_true]
        go_wp2_with fail
        exact⟨⟨a+1,fm,rm,by first | (unfold orM; rfl) | rfl | trivial,by first | (unfold orM; rfl) | rfl | trivial,by congr 1,by first | rfl | trivial,HX⟩,by simp only [intOf]; omega⟩
       | true =>
        have g1:decide (d.a ≥ 16)=false:=decide_eq_false (by have:=of_decide_eq_true h16; omega)
        have ha0:0≤d.a:=of_decide_eq_true h0
        have ha16:d.a < 16:=of_decide_eq_true h16
        have HX:Hid (R=rdL t.ds (T.toNat - (a+1)) (a+1) (fm,(orM rm d.a))):=by show _=_; rw [HD.out]; unfold rd1; simp only [g0,g1,h2,h3,h4,reduceIte,Bool.false_eq_true,if_false,if_true]
        go_wp2_with fail
        exact⟨⟨a+1,fm,(orM rm d.a),by first | (unfold orM; rfl) | rfl | trivial,by first | (unfold orM; rfl) | rfl | trivial,by congr 1,by first | rfl | trivial,HX⟩,by simp only [intOf]; omega⟩
     | false =>
      have HX:Hid (R=rdL t.ds (T.toNat - (a+1)) (a+1) (fm,rm)):=by show _=_; rw [HD.out]; unfold rd1; simp [h2,h3,h4]
      go_wp2_with fail
      exact⟨⟨a+1,fm,rm,rfl,rfl,by congr 1,by first | rfl | trivial,HX⟩,by simp only [intOf]; omega⟩
  ·have HX:Hid (R=(fm,rm)):=by show _=_; rw [HRR.out,show T.toNat - a=0 by omega]; rfl
   go_wp2_with fail
   go_ret2
   exact⟨by rw [HX.out]; rfl,HB1.out⟩
theorem rreadsDT (t:TbM) (x:Sp) (w:World) (hl:DsL w t):Calls zG 90 #[.agg t.vals,.agg x.vals] w fun e w'=>e=.returned (.tuple #[.int .u16 (Ql t.ds x).1,.int .u16 (Ql t.ds x).2])∧Below w§ w w':=by
 obtain⟨W2,e2⟩:∃ W,(w.alloc (.cells t.vals 26)).alloc (.cells x.vals 65)=W:=⟨_,rfl⟩
 have E2:Hid ((w.alloc (.cells t.vals 26)).alloc (.cells x.vals 65)=W2):=e2
 obtain⟨hn1,hn2,hb2,hs2⟩:=J9 e2
 have HB2:Hid (Below w§ w W2):=hb2
 have HN1:Hid (W2.heap[w§]? = some (.cells t.vals 26 (0,0))):=hn1
 have HN2:Hid (W2.heap[w§+1]? = some (.cells x.vals 65 (0,0))):=hn2
 clear e2
 have HL:Hid (DsL w t):=hl
 obtain⟨x0,x1⟩:=cl2 hn2
 have f0:=Fo hn2 0
 have f1:=Fo hn2 1
 have c4:W2.cell? ⟨w§,4,none⟩=some (.slice t.da t.ds.length t.dc):=Co hn1 4
 obtain⟨R,eR⟩:∃ q,Ql t.ds x=q:=⟨_,rfl⟩
 have HR:Hid (rdL t.ds ((mnL x.t t.ds.length).toNat - (mx0 x.f).toNat) (mx0 x.f).toNat (0,0)=R):=eR
 rw [eR]
 clear eR hn1 hn2 hb2 hs2 hl
 go_enter Tryz.func90,Tryz.ntmps90
 go_upto_region 1 with fail
 rw [E2.out]
 clear E2
 obtain⟨XB,eXB⟩:∃ b,w§+1=b:=⟨_,rfl⟩
 have HXB:Hid (w§ < XB):=by show _ < _; omega
 rw [eXB] at x0 x1 f0 f1 HN2 ⊢
 clear eXB
 cases hA:decide (x.f < 0) with
 | true =>
  cases hC:decide ((t.ds.length:Int) < x.t) with
  | true =>
   have HXX : Hid (((W2.setCell ⟨XB, 0, none⟩ (zI 0)).setCell ⟨XB, 1, none⟩ (zI (t.ds.length : Int))).heap[XB]? = some (.cells #[zI 0, zI (t.ds.length : Int)] 65 (0, 0))) := (Hs0 (zI (t.ds.length : Int)) (Hs0 (zI 0) HN2.out))
   have HBV:Hid (Below w§ w ((W2.setCell ⟨XB,0,none⟩ (zI 0)).setCell ⟨XB,1,none⟩ (zI (t.ds.length:Int)))):=((HB2.out.setCell (p:=⟨XB,0,none⟩) (Nat.le_of_lt HXB.out) _).setCell (p:=⟨XB,1,none⟩) (Nat.le_of_lt HXB.out) _)
   have HTV:Hid (((W2.setCell ⟨XB,0,none⟩ (zI 0)).setCell ⟨XB,1,none⟩ (zI (t.ds.length:Int))).heap[w§]? = some (.cells t.vals 26 (0,0))):=((heap_setCell_other _ _ _ _ (by show w§≠XB; have:=HXB.out; omega)).trans ((heap_setCell_other _ _ _ _ (by show w§≠XB; have:=HXB.out; omega)).trans HN1.out))
   have hF:(mx0 x.f).toNat=(0:Nat):=by unfold mx0; rw [if_pos (show (0:Int) > x.f from of_decide_eq_true hA)]; rfl
   have hT:mnL x.t t.ds.length=(t.ds.length:Int):=by unfold mnL; rw [if_pos (of_decide_eq_true hC)]
   rw [hF,hT] at HR
   have hff:(((0:Nat):Nat):Int)=0:=by rfl
   have cR:∀ v:World,DsL v t→Calls zG 30 #[.slice t.da t.ds.length t.dc,.agg #[zI 0,zI (t.ds.length:Int)]] v fun e w'=>e=.returned (.tuple #[.int .u16 R.1,.int .u16 R.2])∧Below v§ v w':=fun v hv=>by
    have h:=rreadsD_a t (0:Nat) (t.ds.length:Int) v hv (by exact Int.le_refl _)
    rw [HR.out] at h
    unfold Sp.vals at h
    rw [hff] at h
    exact h
   have HCR:=QY cR
   clear cR hF hT hff
   go_upto_region 5 with fail
   generalize eV:((W2.setCell ⟨XB,0,none⟩ (zI 0)).setCell ⟨XB,1,none⟩ (zI (t.ds.length:Int)))=V at HXX HBV HTV ⊢
   clear eV x0 x1 f0 f1 c4
   have c4:V.cell? ⟨w§,4,none⟩=some (.slice t.da t.ds.length t.dc):=Co HTV.out 4
   go_wp2_with (refine wpList_load_row rfl 65 (.tmp 3) rfl XB rfl 65 #[zI 0,zI (t.ds.length:Int)] (0,0) _ HXX.out Tryz.underlying65 rfl Qt ?_)
   refine (HCR.out V (HL.out.on HBV.out)).mono ?_
   rintro e w3 ⟨rfl,hb3⟩
   have HB3:Hid (Below w§ w w3):=Qa HBV.out hb3
   clear hb3
   go_wp2_with fail
   go_ret2
   exact⟨rfl,HB3.out⟩
  | false =>
   have HXX:Hid ((W2.setCell ⟨XB,0,none⟩ (zI 0)).heap[XB]? = some (.cells #[zI 0,zI x.t] 65 (0,0))):=(Hs0 (zI 0) HN2.out)
   have HBV:Hid (Below w§ w (W2.setCell ⟨XB,0,none⟩ (zI 0))):=(HB2.out.setCell (p:=⟨XB,0,none⟩) (Nat.le_of_lt HXB.out) _)
   have HTV:Hid ((W2.setCell ⟨XB,0,none⟩ (zI 0)).heap[w§]? = some (.cells t.vals 26 (0,0))):=((heap_setCell_other _ _ _ _ (by show w§≠XB; have:=HXB.out; omega)).trans HN1.out)
   have hF:(mx0 x.f).toNat=(0:Nat):=by unfold mx0; rw [if_pos (show (0:Int) > x.f from of_decide_eq_true hA)]; rfl
   have hT:mnL x.t t.ds.length=x.t:=by unfold mnL; rw [if_neg (show ¬ (t.ds.length:Int) < x.t from of_decide_eq_false hC)]
   rw [hF,hT] at HR
   have hff:(((0:Nat):Nat):Int)=0:=by rfl
   have cR:∀ v:World,DsL v t→Calls zG 30 #[.slice t.da t.ds.length t.dc,.agg #[zI 0,zI x.t]] v fun e w'=>e=.returned (.tuple #[.int .u16 R.1,.int .u16 R.2])∧Below v§ v w':=fun v hv=>by
    have h:=rreadsD_a t (0:Nat) x.t v hv (by have:=of_decide_eq_false hC; omega)
    rw [HR.out] at h
    unfold Sp.vals at h
    rw [hff] at h
    exact h
   have HCR:=QY cR
   clear cR hF hT hff
   go_upto_region 5 with fail
   generalize eV:(W2.setCell ⟨XB,0,none⟩ (zI 0))=V at HXX HBV HTV ⊢
   clear eV x0 x1 f0 f1 c4
   have c4:V.cell? ⟨w§,4,none⟩=some (.slice t.da t.ds.length t.dc):=Co HTV.out 4
   go_wp2_with (refine wpList_load_row rfl 65 (.tmp 3) rfl XB rfl 65 #[zI 0,zI x.t] (0,0) _ HXX.out Tryz.underlying65 rfl Qt ?_)
   refine (HCR.out V (HL.out.on HBV.out)).mono ?_
   rintro e w3 ⟨rfl,hb3⟩
   have HB3:Hid (Below w§ w w3):=Qa HBV.out hb3
   clear hb3
   go_wp2_with fail
   go_ret2
   exact⟨rfl,HB3.out⟩
 | false =>
  cases hC:decide ((t.ds.length:Int) < x.t) with
  | true =>
   have HXX:Hid ((W2.setCell ⟨XB,1,none⟩ (zI (t.ds.length:Int))).heap[XB]? = some (.cells #[zI x.f,zI (t.ds.length:Int)] 65 (0,0))):=(Hs0 (zI (t.ds.length:Int)) HN2.out)
   have HBV:Hid (Below w§ w (W2.setCell ⟨XB,1,none⟩ (zI (t.ds.length:Int)))):=(HB2.out.setCell (p:=⟨XB,1,none⟩) (Nat.le_of_lt HXB.out) _)
   have HTV:Hid ((W2.setCell ⟨XB,1,none⟩ (zI (t.ds.length:Int))).heap[w§]? = some (.cells t.vals 26 (0,0))):=((heap_setCell_other _ _ _ _ (by show w§≠XB; have:=HXB.out; omega)).trans HN1.out)
   have hF:(mx0 x.f).toNat=x.f.toNat:=by unfold mx0; rw [if_neg (show ¬ (0:Int) > x.f from of_decide_eq_false hA)]
   have hT:mnL x.t t.ds.length=(t.ds.length:Int):=by unfold mnL; rw [if_pos (of_decide_eq_true hC)]
   rw [hF,hT] at HR
   have hff:((x.f.toNat:Nat):Int)=x.f:=by have:=of_decide_eq_false hA; omega
   have cR:∀ v:World,DsL v t→Calls zG 30 #[.slice t.da t.ds.length t.dc,.agg #[zI x.f,zI (t.ds.length:Int)]] v fun e w'=>e=.returned (.tuple #[.int .u16 R.1,.int .u16 R.2])∧Below v§ v w':=fun v hv=>by
    have h:=rreadsD_a t x.f.toNat (t.ds.length:Int) v hv (by exact Int.le_refl _)
    rw [HR.out] at h
    unfold Sp.vals at h
    rw [hff] at h
    exact h
   have HCR:=QY cR
   clear cR hF hT hff
   go_upto_region 5 with fail
   generalize eV:(W2.setCell ⟨XB,1,none⟩ (zI (t.ds.length:Int)))=V at HXX HBV HTV ⊢
   clear eV x0 x1 f0 f1 c4
   have c4:V.cell? ⟨w§,4,none⟩=some (.slice t.da t.ds.length t.dc):=Co HTV.out 4
   go_wp2_with (refine wpList_load_row rfl 65 (.tmp 3) rfl XB rfl 65 #[zI x.f,zI (t.ds.length:Int)] (0,0) _ HXX.out Tryz.underlying65 rfl Qt ?_)
   refine (HCR.out V (HL.out.on HBV.out)).mono ?_
   rintro e w3 ⟨rfl,hb3⟩
   have HB3:Hid (Below w§ w w3):=Qa HBV.out hb3
   clear hb3
   go_wp2_with fail
   go_ret2
   exact⟨rfl,HB3.out⟩
  | false =>
   have HXX:Hid (W2.heap[XB]? = some (.cells #[zI x.f,zI x.t] 65 (0,0))):=HN2.out
   have HBV:Hid (Below w§ w W2):=HB2.out
   have HTV:Hid (W2.heap[w§]? = some (.cells t.vals 26 (0,0))):=HN1.out
   have hF:(mx0 x.f).toNat=x.f.toNat:=by unfold mx0; rw [if_neg (show ¬ (0:Int) > x.f from of_decide_eq_false hA)]
   have hT:mnL x.t t.ds.length=x.t:=by unfold mnL; rw [if_neg (show ¬ (t.ds.length:Int) < x.t from of_decide_eq_false hC)]
   rw [hF, hT] at HR
   have hff:((x.f.toNat:Nat):Int)=x.f:=by have:=of_decide_eq_false hA; omega
   have cR:∀ v:World,DsL v t→Calls zG 30 #[.slice t.da t.ds.length t.dc,.agg #[zI x.f,zI x.t]] v fun e w'=>e=.returned (.tuple #[.int .u16 R.1,.int .u16 R.2])∧Below v§ v w':=fun v hv=>by
    have h:=rreadsD_a t x.f.toNat x.t v hv (by have:=of_decide_eq_false hC; omega)
    rw [HR.out] at h
    unfold Sp.vals at h
    rw [hff] at h
    exact h
   have HCR:=QY cR
   clear cR hF hT hff
   go_upto_region 5 with fail
   obtain⟨V,eV⟩:∃ V,W2=V:=⟨_,rfl⟩
   rw [eV] at HXX HBV HTV ⊢
   clear eV x0 x1 f0 f1 c4
   have c4:V.cell? ⟨w§,4,none⟩=some (.slice t.da t.ds.length t.dc):=Co HTV.out 4
   go_wp2_with (refine wpList_load_row rfl 65 (.tmp 3) rfl XB rfl 65 #[zI x.f,zI x.t] (0,0) _ HXX.out Tryz.underlying65 rfl Qt ?_)
   refine (HCR.out V (HL.out.on HBV.out)).mono ?_
   rintro e w3 ⟨rfl,hb3⟩
   have HB3:Hid (Below w§ w w3):=Qa HBV.out hb3
   clear hb3
   go_wp2_with fail
   go_ret2
   exact⟨rfl,HB3.out⟩
set_option maxHeartbeats 16000000
theorem QV {l1 l2:List Bx}(h:∀ (_:DecidableEq Bx) (x:Bx),l1.count x=l2.count x):l1.Perm l2:=by
 letI d:DecidableEq Bx:=fun a b=>Classical.propDecidable (a=b)
 exact List.perm_iff_count.2 (h d)
inductive JB {α:Type}(Rel:α→Array Value→List Bx→Prop):List α→List (Array Value)→List Bx→Prop
 | nil:JB Rel [] [] []
 | cons {al:List α}{xs:List (Array Value)}{nbs:List Bx}{a:α}{x:Array Value}{nb:List Bx}:Rel a x nb→JB Rel al xs nbs→JB Rel (a :: al) (x :: xs) (nb ++ nbs)
theorem JB.snoc {α:Type}{Rel:α→Array Value→List Bx→Prop}{al:List α}{xs:List (Array Value)}{nbs:List Bx}{a:α}{x:Array Value}{nb:List Bx}(h:JB Rel al xs nbs) (k:Rel a x nb):JB Rel (al ++ [a]) (xs ++ [x]) (nbs ++ nb):=by
 induction h with
 | nil=>have:=JB.cons k JB.nil; simpa using this
 | cons h1 _ ih=>rw [List.cons_append,List.cons_append,List.append_assoc]; exact JB.cons h1 ih
theorem Rels.toC {α:Type}{Rel:α→Array Value→List Bx→Prop}{al:List α}{xs:List (Array Value)}{nbs:List Bx}(h:Rels Rel al xs nbs):∃ nbs',nbs'.Perm nbs∧JB Rel al xs nbs':=by
 induction h with
 | nil=>exact⟨[],List.Perm.refl _,JB.nil⟩
 | snoc _ k ih =>
  obtain⟨nbs',p,hc⟩:=ih
  exact⟨_,(p.append_right _).trans List.perm_append_comm,hc.snoc k⟩
theorem JB.len {α:Type}{Rel:α→Array Value→List Bx→Prop}{al:List α}{xs:List (Array Value)}{nbs:List Bx}(h:JB Rel al xs nbs):al.length=xs.length:=by
 induction h with
 | nil=>rfl
 | cons _ _ ih=>simp [ih]
def mkG (ds:List InM) (g:GdP):GdP:=⟨g.wh,(Ql ds g.wh).1,(Ql ds g.wh).2,g.rs⟩
theorem JD.at_ {nb:List Bx}{e sz:Nat}{a:Option Addr}{c:Nat}{vs:List (Array Value)}(h:JD nb e sz a c vs) (i:Nat) (hi:i < vs.length):∃ g cur,nb = [(g,e,cur)]∧a=some ⟨g,0,none⟩∧vs.length≤c∧c≤9223372036854775807∧∀ i (hi:i < vs.length) j,j < sz→cur[i * sz+j]? = vs[i][j]?:=by
 rcases h with ⟨rfl,rfl,rfl,rfl⟩ | h
 ·exact absurd hi (Nat.not_lt_zero _)
 ·exact h
theorem JD.mask {cur:Array Value}{ys1 ys2:List (Array Value)}{wh:Sp}{fd rg fd' rg':Int}{ar:Option Addr}{cr:Nat}{rs:List RowM}
  (h3:∀ i (hi:i < (ys1 ++ GdM.vals ⟨wh,fd,rg,ar,cr,rs⟩ :: ys2).length) j,j < 5→cur[i * 5+j]? = (ys1 ++ GdM.vals ⟨wh,fd,rg,ar,cr,rs⟩ :: ys2)[i][j]?) :
  ∀ i (hi:i < (ys1 ++ GdM.vals ⟨wh,fd',rg',ar,cr,rs⟩ :: ys2).length) j,j < 5→((cur.setIfInBounds (ys1.length * 5+2) (.int .u16 fd')).setIfInBounds (ys1.length * 5+3) (.int .u16 rg'))[i * 5+j]? = (ys1 ++ GdM.vals ⟨wh,fd',rg',ar,cr,rs⟩ :: ys2)[i][j]?:=by
 intro i hi j hj
 have hi2:i < (ys1 ++ GdM.vals ⟨wh,fd,rg,ar,cr,rs⟩ :: ys2).length:=by simpa using hi
 have hk:ys1.length < (ys1 ++ GdM.vals ⟨wh,fd,rg,ar,cr,rs⟩ :: ys2).length:=by simp
 have e2:cur[ys1.length * 5+2]? = some (.int .u16 fd):=by rw [h3 _ hk 2 (by decide)]; simp; rfl
 have e3:cur[ys1.length * 5+3]? = some (.int .u16 rg):=by rw [h3 _ hk 3 (by decide)]; simp; rfl
 have s2:=(Array.getElem?_eq_some_iff.1 e2).1
 have s3:=(Array.getElem?_eq_some_iff.1 e3).1
 have hold:=h3 i hi2 j hj
 rw [Array.getElem?_setIfInBounds,Array.getElem?_setIfInBounds]
 by_cases hik:i=ys1.length
 ·subst hik
  have g1:(ys1 ++ GdM.vals ⟨wh,fd,rg,ar,cr,rs⟩ :: ys2)[ys1.length]=GdM.vals ⟨wh,fd,rg,ar,cr,rs⟩:=by simp
  have g2:(ys1 ++ GdM.vals ⟨wh,fd',rg',ar,cr,rs⟩ :: ys2)[ys1.length]=GdM.vals ⟨wh,fd',rg',ar,cr,rs⟩:=by simp
  rw [g1] at hold
  rw [g2]
  obtain rfl | rfl | rfl | rfl | rfl:j=0∨j=1∨j=2∨j=3∨j=4:=by omega
  ·rw [if_neg (by omega),if_neg (by omega),hold]; rfl
  ·rw [if_neg (by omega),if_neg (by omega),hold]; rfl
  ·rw [if_neg (by omega),if_pos rfl,if_pos s2]; rfl
  ·rw [if_pos rfl,if_pos (by rw [Array.size_setIfInBounds]; exact s3)]; rfl
  ·rw [if_neg (by omega),if_neg (by omega),hold]; rfl
 ·rw [if_neg (by omega),if_neg (by omega),hold]
  rcases Nat.lt_or_ge i ys1.length with h1 | h1
  ·rw [List.getElem_append_left h1,List.getElem_append_left h1]
  ·rw [List.getElem_append_right h1,List.getElem_append_right h1]
   obtain⟨m,hm⟩:∃ m,i - ys1.length=m+1:=⟨i - ys1.length - 1,by omega⟩
   simp only [hm,List.getElem_cons_succ]
theorem rmasks {w V:World}{bs nt nbs:List Bx}{xs:List (Array Value)}{al:List (List GdP)}(t:TbM) (hB:Bs w V (nt ++ (nbs ++ bs))) (hD:Keep bs (fun U=>SlAt U 2 t.da t.dc (t.ds.map InM.vals))) (hT:JD nt 69 1 t.ta t.tc xs) (hR:Rels JC al xs nbs) (hn:t.ts.length=al.length) :
  Calls zG 48 #[.agg t.vals] V fun e V'=>e=.returned (.agg t.vals)∧∃ nbs',Bs w V' (nt ++ (nbs' ++ bs))∧Rels JC (al.map (List.map (mkG t.ds))) xs nbs':=by
 obtain⟨nb0,hp0,hC0⟩:=hR.toC
 have hB0:Bs w V (nt ++ (nb0 ++ bs)):=hB.perm ((hp0.symm.append_right _).append_left _)
 have hq1:=Hn V (.cells t.vals 26)
 have hB1:=hB0.new (Bn V (.cells t.vals 26)) (Nat.le_refl _) hq1
 have hq2:=Hn (V.alloc (.cells t.vals 26)) (.cells zA3 26)
 have hB2:=hB1.new (Bn (V.alloc (.cells t.vals 26)) (.cells zA3 26)) (Nat.le_refl _) hq2
 rw [Sa] at hB2
 obtain⟨W2,e2⟩:∃ W,(V.alloc (.cells t.vals 26)).alloc (.cells zA3 26)=W:=⟨_,rfl⟩
 have E2:=zH e2
 rw [e2] at hB2
 have HB2:=zH hB2
 have HD:=zH hD
 have HTT:=zH hT
 have HNL:=zH hn
 have HXL:=zH hC0.len
 have HC0:=zH hC0
 have HMX:Hid (t.ts.length≤9223372036854775807):=by
  show _≤_
  rcases hT with ⟨_,_,_,h4⟩ | ⟨g,cur,_,_,h1,h2,h3⟩
  ·rw [hn,hC0.len,h4]; decide
  ·rw [hn,hC0.len]; omega
 clear hB hD hT hR hn hp0 hC0 hB0 hq1 hB1 hq2 hB2 e2
 obtain⟨B1,eB1⟩:∃ q,V§=q:=⟨_,rfl⟩
 obtain⟨B2,eB2⟩:∃ q,V§+1=q:=⟨_,rfl⟩
 have HE1:Hid (V§=B1):=eB1
 have HE2:Hid (V§+1=B2):=eB2
 rw [eB2,eB1] at HB2
 clear eB1 eB2
 go_enter Tryz.func48,Tryz.ntmps48
 go_upto_region 1 with fail
 rw [E2.out]
 rw [HE2.out,HE1.out]
 clear E2 HE1 HE2
 go_wp2_with fail
 go_loopw [3] (fun q wr=>∃ (i:Nat) (al1 al2:List (List GdP)) (xs1 xs2:List (Array Value)) (nb1 nb2:List Bx),i≤t.ts.length∧q=zI i∧Hid (al=al1 ++ al2∧xs=xs1 ++ xs2∧al1.length=i∧xs1.length=i)∧Hid (Rels JC (al1.map (List.map (mkG t.ds))) xs1 nb1)∧Hid (JB JC al2 xs2 nb2)∧Hid (Bs w wr ((B2,26,tb0) :: (B1,26,t.vals) :: (nt ++ (nb1 ++ (nb2 ++ bs)))))) (fun q _=>t.ts.length - (intOf q).toNat)
 case atStart=>exact⟨0,[],al,[],xs,[],nb0,Nat.zero_le _,rfl,⟨rfl,rfl,rfl,rfl⟩,Rels.nil,HC0,HB2⟩
 case round =>
  obtain⟨i,al1,al2,xs1,xs2,nb1,nb2,hi,rfl,HA,HR1,HC2,HBR⟩:=hrel
  have hb1:=(HBR.out.K (B1,26,t.vals) (by simp)).1
  have HT1:=zH hb1
  have c5:wr.cell? ⟨B1,5,none⟩=some (.slice t.ta t.ts.length t.tc):=Co hb1 5
  clear hb1
  by_cases hlt:i < t.ts.length
  ·have hlt':(i:Int) < (t.ts.length:Int):=by omega
   have hmxi:(i:Int)+1≤9223372036854775807:=by have:=HMX.out; omega
   have HLTi:Hid (i < t.ts.length∧(i:Int)+1≤9223372036854775807):=⟨hlt,hmxi⟩
   obtain⟨gs,al2',x,xs2',nbx,nb2',e1,e2,e3,hrel1,hC2'⟩:∃ gs al2' x xs2' nbx nb2',al2=gs :: al2'∧xs2=x :: xs2'∧nb2=nbx ++ nb2'∧JC gs x nbx∧JB JC al2' xs2' nb2':=by
    have h:=HC2.out
    cases h with
    | nil =>
     exfalso
     obtain⟨h1,h2,h3,h4⟩:=HA.out
     have:=HNL.out
     rw [h1,List.append_nil] at this
     omega
    | cons k1 k2=>exact⟨_,_,_,_,_,_,rfl,rfl,rfl,k1,k2⟩
   subst e1 e2 e3
   obtain⟨a,c,ys,nbg,nbr,rfl,rfl,hG1,hLB⟩:=hrel1
   obtain⟨nbr0,hpr,hCr⟩:=hG1.toC
   obtain⟨gt,curt,ent,eta,_,_,hcur⟩:=HTT.out.at_ i (by have h1:=HA.out; have h2:=HXL.out; have h3:=HNL.out; omega)
   have hcx:=hcur i (by have h1:=HA.out; have h2:=HXL.out; have h3:=HNL.out; omega) 0 (by decide)
   have hxi:xs[i]'(by have h1:=HA.out; have h2:=HXL.out; have h3:=HNL.out; omega)=#[.slice a gs.length c]:=by
    obtain⟨h1,h2,h3,h4⟩:=HA.out
    have:xs[i]? = some #[.slice a gs.length c]:=by rw [h2,List.getElem?_append_right (by omega),h4,Nat.sub_self]; rfl
    exact (List.getElem?_eq_some_iff.1 this).2
   rw [hxi,Nat.mul_one,Nat.add_zero] at hcx
   have HCX:Hid (∀ v:World,v.heap[gt]? = some (.cells curt 69 (0,0))→v.cell? ⟨gt,i,none⟩=some (.slice a gs.length c)):=fun v hv=>by rw [Co hv]; exact hcx
   have HNT:=zH ent
   have HTA:=zH eta
   have HLB0:=zH hLB
   have HCr:=zH hCr
   have HC2':=zH hC2'
   have HB0:Hid (Bs w wr ((B2,26,tb0) :: (B1,26,t.vals) :: (nt ++ (nb1 ++ ((nbg ++ (([]:List Bx) ++ nbr0)) ++ (nb2' ++ bs)))))):=HBR.out.perm (QV (fun _ z=>by have:=hpr.count_eq z; simp only [List.count_cons,List.count_append,List.count_nil] at *; omega))
   have HYL:=zH hCr.len
   have HCPk:Hid (gs.length≤9223372036854775807):=by
    show _≤_
    rcases hLB with ⟨_,_,_,h4⟩ | ⟨g,cur,_,_,h1,h2,h3⟩
    ·rw [hCr.len,h4]; decide
    ·rw [hCr.len]; omega
   clear hG1 hpr hCr hLB hcur hcx hxi hC2' HBR HC2 hlt hmxi
   go_upto_region 4 with fail
   clear hlt' c5 HT1
   subst ent
   go_wp2_with fail
   go_loopw [4] (fun q wr=>∃ (k:Nat) (gs1 gs2:List GdP) (ys1 ys2:List (Array Value)) (nbA nbB nbg:List Bx),k≤gs.length∧q=zI k∧Hid (gs=gs1 ++ gs2∧gs1.length=k∧ys1.length=k)∧Hid (Rels RelGD (gs1.map (mkG t.ds)) ys1 nbA)∧Hid (JB RelGD gs2 ys2 nbB)∧Hid (JD nbg 68 5 a c (ys1 ++ ys2))∧Hid (Bs w wr ((B2,26,tb0) :: (B1,26,t.vals) :: ([(gt,69,curt)] ++ (nb1 ++ ((nbg ++ (nbA ++ nbB)) ++ (nb2' ++ bs))))))) (fun q _=>gs.length - (intOf q).toNat)
   case atStart=>exact⟨0,[],gs,[],ys,[],nbr0,nbg,Nat.zero_le _,rfl,⟨rfl,rfl,rfl⟩,Rels.nil,HCr,HLB0,HB0⟩
   case round =>
    obtain⟨k,gs1,gs2,ys1,ys2,nbA,nbB,nbh,hk,rfl,HG,HRA,HCB,HLB,HBk⟩:=hrel
    have hb1:=(HBk.out.K (B1,26,t.vals) (by simp)).1
    have hbt:=(HBk.out.K (gt,69,curt) (by simp)).1
    have HT1:=zH hb1
    have HTt:=zH hbt
    have c5:wr.cell? ⟨B1,5,none⟩=some (.slice (some ⟨gt,0,none⟩) t.ts.length t.tc):=by rw [← HTA.out]; exact Co hb1 5
    have cs:wr.cell? ⟨gt,i,none⟩=some (.slice a gs.length c):=HCX.out wr hbt
    have hli:(i:Int) < (t.ts.length:Int):=by have:=HLTi.out.1; omega
    clear hb1 hbt
    by_cases hlt:k < gs.length
    ·have hlt':(k:Int) < (gs.length:Int):=by omega
     have hmxk:(k:Int)+1≤9223372036854775807:=by have:=HCPk.out; omega
     obtain⟨g,gs2',y,ys2',nbx,nbB',e1,e2,e3,hrel1,hCB'⟩:∃ g gs2' y ys2' nbx nbB',gs2=g :: gs2'∧ys2=y :: ys2'∧nbB=nbx ++ nbB'∧RelGD g y nbx∧JB RelGD gs2' ys2' nbB':=by
      have h:=HCB.out
      cases h with
      | nil =>
       exfalso
       obtain⟨h1,h2,h3⟩:=HG.out
       rw [h1,List.append_nil] at hlt
       omega
      | cons k1 k2=>exact⟨_,_,_,_,_,_,rfl,rfl,rfl,k1,k2⟩
     subst e1 e2 e3
     obtain⟨ar,cr,rfl,hLr⟩:=hrel1
     obtain⟨gg,cur,e4,e5,hl1,hl2,hcur⟩:=HLB.out.at_ k (by have:=HG.out.2.2; simp; omega)
     subst e4 e5
     have hlk:k < (ys1 ++ GdM.vals ⟨g.wh,g.fd,g.rg,ar,cr,g.rs⟩ :: ys2').length:=by have:=HG.out.2.2; simp; omega
     have hyk:(ys1 ++ GdM.vals ⟨g.wh,g.fd,g.rg,ar,cr,g.rs⟩ :: ys2')[k]=GdM.vals ⟨g.wh,g.fd,g.rg,ar,cr,g.rs⟩:=by
      have h3:=HG.out.2.2
      subst h3
      simp
     have HCC:Hid (∀ j,j < 5→cur[k * 5+j]? = (GdM.vals ⟨g.wh,g.fd,g.rg,ar,cr,g.rs⟩)[j]?):=fun j hj=>by rw [hcur k hlk j hj,hyk]
     have HBG:Hid (Bs w wr ((gg,68,cur) :: (B2,26,tb0) :: (B1,26,t.vals) :: ([(gt,69,curt)] ++ (nb1 ++ ((nbA ++ (nbx ++ nbB')) ++ (nb2' ++ bs)))))):=HBk.out.perm (QV (fun _ z=>by simp only [List.count_cons,List.count_append,List.count_nil,List.cons_append,List.nil_append]; omega))
     have hgg:=(HBG.out.K _ (List.mem_cons_self ..)).1
     have HGG:=zH hgg
     have HFA:Hid (∀ v:World,Below wr§ wr v→v.heap[B1]? = some (.cells t.vals 26 (0,0))):=fun v hv=>(hv.block _ (Qy HT1.out)).trans HT1.out
     have HFB:Hid (∀ v:World,Below wr§ wr v→v.cell? ⟨B1,5,none⟩=some (.slice (some ⟨gt,0,none⟩) t.ts.length t.tc)):=fun v hv=>Qf c5 hv
     have HFC:Hid (∀ v:World,Below wr§ wr v→v.cell? ⟨gt,i,none⟩=some (.slice (some ⟨gg,0,none⟩) gs.length c)):=fun v hv=>Qf cs hv
     have HFD:Hid (∀ v:World,Below wr§ wr v→v.rangeAt gg (k * 5) (Sp.vals g.wh).toList):=fun v hv j u hu=>by
      have hj:j < 2:=(List.getElem?_eq_some_iff.1 hu).1
      have e:=(hv.block _ (Qy HGG.out)).trans HGG.out
      rw [Co e,HCC.out j (by omega),← hu]
      obtain rfl | rfl:j=0∨j=1:=by omega
      ·rfl
      ·rfl
     have hDs:DsL wr t:=⟨HD.out wr (fun b hb=>(HBG.out.K b (by simp [hb])).1)⟩
     have cR:=rreadsDT t g.wh wr.drew (hDs.on ⟨rfl,rfl,rfl,Nat.le_refl _,fun _ _=>rfl⟩)
     obtain⟨m1,em1⟩:∃ q,(Ql t.ds g.wh).1=q:=⟨_,rfl⟩
     obtain⟨m2,em2⟩:∃ q,(Ql t.ds g.wh).2=q:=⟨_,rfl⟩
     rw [em1,em2] at cR
     have HMK:Hid (mkG t.ds g=⟨g.wh,m1,m2,g.rs⟩):=by show _=_; unfold mkG; rw [em1,em2]
     have HLr:=zH hLr
     have HCB':=zH hCB'
     have HCUR:Hid ((ys1 ++ GdM.vals ⟨g.wh,g.fd,g.rg,ar,cr,g.rs⟩ :: ys2').length≤c∧c≤9223372036854775807∧∀ i (hi:i < (ys1 ++ GdM.vals ⟨g.wh,g.fd,g.rg,ar,cr,g.rs⟩ :: ys2').length) j,j < 5→cur[i * 5+j]? = (ys1 ++ GdM.vals ⟨g.wh,g.fd,g.rg,ar,cr,g.rs⟩ :: ys2')[i][j]?):=⟨hl1,hl2,hcur⟩
     clear hDs em1 em2 hgg hlk hyk hl1 hl2 hcur hLr hCB' HLB HCB HBk hlt
     go_upto_region 7 with fail
     clear c5 cs
     refine wp_region_held_drew (S:=fun v=>Below wr§ wr v) zK ⟨rfl,rfl,rfl,Nat.le_refl _,fun _ _=>rfl⟩ (fun hHeld=>?_)
     refine wpAnyH_take (i:=0) (v:=.agg t.vals) rfl zK zK zK (fun _ _ _ h=>h) (yl_row (by rfl) 26 (.tmp 1) rfl B1 rfl 26 t.vals (0,0) _ HFA.out Tryz.underlying26 rfl Qe) (by assumption) ?_
     try simp [Act.put]
     refine wpAnyH_take (i:=1) (v:=?_) rfl zK zK zK (fun _ _ _ h=>h) (Or.inl ⟨by rfl,?_⟩) (by assumption) ?_
     rotate_left
     ·(intro v hv; go_simp; try (with_reducible rfl))
     try simp [Act.put]
     refine wpAnyH_take (i:=2) (v:=?_) rfl zK zK zK (fun _ _ _ h=>h) (Or.inl ⟨by rfl,?_⟩) (by assumption) ?_
     rotate_left
     ·(intro v hv; have hF:=HFB.out v hv; go_simp; try (with_reducible rfl))
     try simp [Act.put]
     refine wpAnyH_take (i:=3) (v:=?_) rfl zK zK zK (fun _ _ _ h=>h) (Or.inl ⟨by rfl,?_⟩) (by assumption) ?_
     rotate_left
     ·(intro v hv; go_simp; try (with_reducible rfl))
     try simp [Act.put]
     refine wpAnyH_take (i:=4) (v:=?_) rfl zK zK zK (fun _ _ _ h=>h) (Or.inl ⟨by rfl,?_⟩) (by assumption) ?_
     rotate_left
     ·(intro v hv; go_simp; try (with_reducible rfl))
     try simp [Act.put]
     refine wpAnyH_take (i:=5) (v:=?_) rfl zK zK zK (fun _ _ _ h=>h) (Or.inl ⟨by rfl,?_⟩) (by assumption) ?_
     rotate_left
     ·(intro v hv; have hF:=HFC.out v hv; go_simp; try (with_reducible rfl))
     try simp [Act.put]
     refine wpAnyH_take (i:=6) (v:=?_) rfl zK zK zK (fun _ _ _ h=>h) (Or.inl ⟨by rfl,?_⟩) (by assumption) ?_
     rotate_left
     ·(intro v hv; go_simp; try (with_reducible rfl))
     try simp [Act.put]
     refine wpAnyH_take (i:=7) (v:=?_) rfl zK zK zK (fun _ _ _ h=>h) (Or.inl ⟨by rfl,?_⟩) (by assumption) ?_
     rotate_left
     ·(intro v hv; go_simp; try (with_reducible rfl))
     try simp [Act.put]
     refine wpAnyH_take (i:=8) (v:=?_) rfl zK zK zK (fun _ _ _ h=>h) (Or.inl ⟨by rfl,?_⟩) (by assumption) ?_
     rotate_left
     ·(intro v hv; go_simp; try (with_reducible rfl))
     try simp [Act.put]
     refine wpAnyH_take (i:=9) (v:=.agg (Sp.vals g.wh)) rfl zK zK zK (fun _ _ _ h=>h) (yl_mid (by rfl) 65 (.tmp 33) rfl gg (k * 5) rfl (Sp.vals g.wh) _ HFD.out Tryz.underlying65 rfl (by show _=some 2; exact size65d)) (by assumption) ?_
     try simp [Act.put]
     refine wpAnyH_ready (rs:=[10]) zK (by simp) ?_
     refine AllReadyH.cons rfl (fun K hK=>?_) AllReadyH.nil
     go_simp
     refine cR.mono ?_
     rintro e w7 ⟨rfl,hb7⟩
     have hB7:Below wr§ wr w7:=⟨hb7.os,hb7.tape,hb7.output,hb7.size,hb7.block⟩
     have HB7:=zH (HBG.out.on hB7)
     have d5:=HFB.out w7 hB7
     have ds:=HFC.out w7 hB7
     refine hK.out _ _ hB7 (fun hHeld=>?_)
     clear hK K cR hb7 hB7
     try simp [Act.put]
     refine wpAnyH_take (i:=11) (v:=?_) rfl zK zK zK (fun _ _ _ h=>h) (Or.inl ⟨by rfl,?_⟩) (by assumption) ?_
     rotate_left
     ·(intro v hv; go_simp; try (with_reducible rfl))
     try simp [Act.put]
     refine wpAnyH_take (i:=12) (v:=?_) rfl zK zK zK (fun _ _ _ h=>h) (Or.inl ⟨by rfl,?_⟩) (by assumption) ?_
     rotate_left
     ·(intro v hv; go_simp; try (with_reducible rfl))
     try simp [Act.put]
     refine wpAnyH_take (i:=13) (v:=?_) rfl zK zK zK (fun _ _ _ h=>h) (Or.inl ⟨by rfl,?_⟩) (by assumption) ?_
     rotate_left
     ·(intro v hv; go_simp; try (with_reducible rfl))
     try simp [Act.put]
     refine wpAnyH_take (i:=14) (v:=?_) rfl zK zK zK (fun _ _ _ h=>h) (Or.inl ⟨by rfl,?_⟩) (by assumption) ?_
     rotate_left
     ·(intro v hv; go_simp; try (with_reducible rfl))
     try simp [Act.put]
     refine wpAnyH_take (i:=15) (v:=?_) rfl zK zK zK (fun _ _ _ h=>h) (Or.inl ⟨by rfl,?_⟩) (by assumption) ?_
     rotate_left
     ·(intro v hv; go_simp; try (with_reducible rfl))
     try simp [Act.put]
     refine wpAnyH_done zK ?_ _
     have hg7:=(HB7.out.K _ (List.mem_cons_self ..)).1
     have z2:w7.cell? ⟨gg,k * 5+2,none⟩=some (.int .u16 g.fd):=by rw [Co hg7,HCC.out 2 (by decide)]; rfl
     have y2:w7.frozen? ⟨gg,k * 5+2,none⟩=false:=Fo hg7 _
     have HS8:Hid (Bs w (w7.setCell ⟨gg,k * 5+2,none⟩ (.int .u16 m1)) ((gg,68,cur.setIfInBounds (k * 5+2) (.int .u16 m1)) :: (B2,26,tb0) :: (B1,26,t.vals) :: ([(gt,69,curt)] ++ (nb1 ++ ((nbA ++ (nbx ++ nbB')) ++ (nb2' ++ bs)))))):=HB7.out.set _ _
     clear hg7
     go_upto_region 9 with fail
     generalize World.setCell w7 _ _=w8 at HS8 ⊢
     clear z2 y2 d5 ds HB7
     have hg8:=(HS8.out.K _ (List.mem_cons_self ..)).1
     have z3:w8.cell? ⟨gg,k * 5+3,none⟩=some (.int .u16 g.rg):=by
      rw [Co hg8,Array.getElem?_setIfInBounds,if_neg (by omega),HCC.out 3 (by decide)]; rfl
     have y3:w8.frozen? ⟨gg,k * 5+3,none⟩=false:=Fo hg8 _
     have hbb:=(HS8.out.K (B1,26,t.vals) (by simp)).1
     have hbt:=(HS8.out.K (gt,69,curt) (by simp)).1
     have d5:w8.cell? ⟨B1,5,none⟩=some (.slice (some ⟨gt,0,none⟩) t.ts.length t.tc):=by rw [← HTA.out]; exact Co hbb 5
     have ds:w8.cell? ⟨gt,i,none⟩=some (.slice (some ⟨gg,0,none⟩) gs.length c):=HCX.out w8 hbt
     have HS9:Hid (Bs w (w8.setCell ⟨gg,k * 5+3,none⟩ (.int .u16 m2)) ((gg,68,(cur.setIfInBounds (k * 5+2) (.int .u16 m1)).setIfInBounds (k * 5+3) (.int .u16 m2)) :: (B2,26,tb0) :: (B1,26,t.vals) :: ([(gt,69,curt)] ++ (nb1 ++ ((nbA ++ (nbx ++ nbB')) ++ (nb2' ++ bs)))))):=HS8.out.set _ _
     clear hg8 hbb hbt HS8
     go_upto_region 6 with fail
     generalize World.setCell w8 _ _=w9 at HS9 ⊢
     clear z3 y3 d5 ds
     have HG2:Hid (gs=(gs1 ++ [g]) ++ gs2'∧(gs1 ++ [g]).length=k+1∧(ys1 ++ [GdM.vals ⟨g.wh,m1,m2,ar,cr,g.rs⟩]).length=k+1):=by
      obtain⟨h1,h2,h3⟩:=HG.out
      exact⟨by rw [h1]; simp,by simp [h2],by simp [h3]⟩
     have HRA2:Hid (Rels RelGD ((gs1 ++ [g]).map (mkG t.ds)) (ys1 ++ [GdM.vals ⟨g.wh,m1,m2,ar,cr,g.rs⟩]) (nbx ++ nbA)):=by
      rw [List.map_append,List.map_singleton,HMK.out]
      exact Rels.snoc HRA.out ⟨ar,cr,rfl,HLr.out⟩
     have HLB2:Hid (JD [(gg,68,(cur.setIfInBounds (k * 5+2) (.int .u16 m1)).setIfInBounds (k * 5+3) (.int .u16 m2))] 68 5 (some ⟨gg,0,none⟩) c ((ys1 ++ [GdM.vals ⟨g.wh,m1,m2,ar,cr,g.rs⟩]) ++ ys2')):=by
      obtain⟨h1,h2,h3⟩:=HCUR.out
      have hk3:=HG.out.2.2
      have hm:=JD.mask (fd':=m1) (rg':=m2) h3
      rw [hk3] at hm
      refine .inr ⟨gg,_,rfl,rfl,by simpa using h1,h2,?_⟩
      rw [List.append_assoc,List.singleton_append]
      exact hm
     have HBF:Hid (Bs w w9 ((B2,26,tb0) :: (B1,26,t.vals) :: ([(gt,69,curt)] ++ (nb1 ++ (([(gg,68,(cur.setIfInBounds (k * 5+2) (.int .u16 m1)).setIfInBounds (k * 5+3) (.int .u16 m2))] ++ ((nbx ++ nbA) ++ nbB')) ++ (nb2' ++ bs)))))):=HS9.out.perm (QV (fun _ z=>by simp only [List.count_cons,List.count_append,List.count_nil,List.cons_append,List.nil_append]; omega))
     go_wp2_with fail
     exact⟨⟨k+1,gs1 ++ [g],gs2',ys1 ++ [GdM.vals ⟨g.wh,m1,m2,ar,cr,g.rs⟩],ys2',nbx ++ nbA,nbB',_,by omega,rfl,HG2,HRA2,HCB',HLB2,HBF⟩,by simp only [intOf]; omega⟩
    ·obtain rfl:k=gs.length:=by omega
     have hnot:¬ (gs.length:Int) < (gs.length:Int):=by omega
     obtain⟨e1,e2,e3⟩:gs2 = []∧ys2 = []∧nbB = []:=by
      have h:=HCB.out
      obtain⟨h1,h2,h3⟩:=HG.out
      have h4:gs2 = []:=by
       have:=congrArg List.length h1
       rw [List.length_append] at this
       exact List.eq_nil_of_length_eq_zero (by omega)
      subst h4
      cases h with
      | nil=>exact⟨rfl,rfl,rfl⟩
     subst e1 e2 e3
     have hgs:gs=gs1:=by rw [HG.out.1,List.append_nil]
     have HREL:Hid (JC (gs.map (mkG t.ds)) #[.slice a gs.length c] (nbh ++ nbA)):=by
      refine⟨a,c,ys1,nbh,nbA,by rw [List.length_map],rfl,?_,?_⟩
      ·rw [hgs]; exact HRA.out
      ·have:=HLB.out; rw [List.append_nil] at this; exact this
     have hmxi:(i:Int)+1≤9223372036854775807:=HLTi.out.2
     have HA2:Hid (al=(al1 ++ [gs]) ++ al2'∧xs=(xs1 ++ [(#[Value.slice a gs.length c]:Array Value)]) ++ xs2'∧(al1 ++ [gs]).length=i+1∧(xs1 ++ [(#[Value.slice a gs.length c]:Array Value)]).length=i+1):=by
      obtain⟨h1,h2,h3,h4⟩:=HA.out
      exact⟨by rw [h1]; simp,by rw [h2]; simp,by simp [h3],by simp [h4]⟩
     have HRN:Hid (Rels JC ((al1 ++ [gs]).map (List.map (mkG t.ds))) (xs1 ++ [(#[Value.slice a gs.length c]:Array Value)]) ((nbh ++ nbA) ++ nb1)):=by
      rw [List.map_append,List.map_singleton]
      exact Rels.snoc HR1.out HREL.out
     have HBF:Hid (Bs w wr ((B2,26,tb0) :: (B1,26,t.vals) :: ([(gt,69,curt)] ++ (((nbh ++ nbA) ++ nb1) ++ (nb2' ++ bs))))):=HBk.out.perm (QV (fun _ z=>by simp only [List.count_cons,List.count_append,List.count_nil,List.cons_append,List.nil_append]; omega))
     clear hgs HREL HBk HRA HCB HLB
     go_wp2_with fail
     exact⟨⟨i+1,al1 ++ [gs],al2',xs1 ++ [(#[Value.slice a gs.length c]:Array Value)],xs2',(nbh ++ nbA) ++ nb1,nb2',HLTi.out.1,rfl,HA2,HRN,HC2',HBF⟩,by simp only [intOf]; have:=HLTi.out.1; omega⟩
  ·obtain rfl:i=t.ts.length:=by omega
   have hnot:¬ (t.ts.length:Int) < (t.ts.length:Int):=by omega
   obtain⟨e1,e2,e3⟩:al2 = []∧xs2 = []∧nb2 = []:=by
    have h:=HC2.out
    obtain⟨h1,h2,h3,h4⟩:=HA.out
    have h5:al2 = []:=by
     have:=congrArg List.length h1
     rw [List.length_append,← HNL.out] at this
     exact List.eq_nil_of_length_eq_zero (by omega)
    subst h5
    cases h with
    | nil=>exact⟨rfl,rfl,rfl⟩
   subst e1 e2 e3
   have hh2:=(HBR.out.K (B2,26,tb0) (by simp)).1
   have HH2:=zH hh2
   have HNF:Hid ((wr.setRow B2 t.vals).heap[B2]? = some (.cells t.vals 26 (0,0))):=setRow_heap _ _ _ _ _ _ hh2
   have HEND:Hid (∃ nbs',Bs w (wr.setRow B2 t.vals) (nt ++ (nbs' ++ bs))∧Rels JC (al.map (List.map (mkG t.ds))) xs nbs'):=by
    obtain⟨h1,h2,h3,h4⟩:=HA.out
    refine⟨nb1,(HBR.out.row t.vals).tail.tail,?_⟩
    rw [h1,h2,List.append_nil,List.append_nil]
    exact HR1.out
   clear hh2 HBR
   go_wp2_with (first | (refine wpList_load_row rfl 26 (.tmp 1) rfl B1 rfl 26 t.vals (0,0) _ HT1.out Tryz.underlying26 rfl Qe ?_) | (refine wpList_store_row rfl 26 (.tmp 2) (.tmp 56) rfl B2 t.vals rfl rfl 26 tb0 HH2.out Qe rfl (JN t) ?_))
   exact bodyPost_ret (results_cell_row rfl _ _ B2 26 t.vals (0,0) _ rfl HNF.out Tryz.underlying26 rfl Qe) rfl ⟨rfl,HEND.out⟩
def cdS (l:List UInt8) (f:Int) (st:Option Int):InM × Int × Option Int:=(⟨(numS 9 l st).1,(numS 4096 l (numS 9 l st).2).1⟩,f,(numS 4096 l (numS 9 l st).2).2)
def codeS (l:List UInt8) (st:Option Int):List InM × Int × Option Int:=Qm (cdS l) (numS 4096 l st).1.toNat 0 (numS 4096 l st).2
def JE (l:List UInt8) (x:ByteArray) (p:Int):TbP × Option Int :=
 (⟨x,(sgnS 12 l (some p)).1,(numS 4 l (sgnS 12 l (some p)).2).1,(sgnS 1024 l (numS 4 l (sgnS 12 l (some p)).2).2).1,(codeS l (sgnS 1024 l (numS 4 l (sgnS 12 l (some p)).2).2).2).1,(QZ l (codeS l (sgnS 1024 l (numS 4 l (sgnS 12 l (some p)).2).2).2).2.2).1⟩,(QZ l (codeS l (sgnS 1024 l (numS 4 l (sgnS 12 l (some p)).2).2).2).2.2).2.2)
def mkTb (T:TbP):TbP:=⟨T.x,T.rs,T.sl,T.cs,T.ds,T.ts.map (List.map (mkG T.ds))⟩
def decP (b:ByteArray):Option TbP :=
 if W.unE b.data.toList 0=0 then (if W.unP b.data.toList 0 == (b.size:Int) then (txtR (W.unS b.data.toList 0) 0).bind fun x=>if (JE (W.unS b.data.toList 0) x.1 x.2).2=some ((W.unS b.data.toList 0).length:Int) then some (mkTb (JE (W.unS b.data.toList 0) x.1 x.2).1) else none else none) else none
theorem numS_I (k:Int) (hk:0≤k∧k≤100000) (l:List UInt8) (st:Option Int):I64 (numS k l st).1:=by have:=Qk k hk.1 l st; exact⟨by omega,by omega⟩
theorem spsS_I (l:List UInt8):∀ (bs:List Bool) (f:Int) (st:Option Int),0≤f∧f≤1000000000000 - 4096 * bs.length→∀ y ∈ (spsS l bs f st).1,SpI y
 | [],f,st,_=>by simp [spsS]
 | b :: bs,f,st,hf=>by
  have h0:=Qk 4096 (by decide) l st
  rw [List.length_cons] at hf
  simp only [spsS]
  intro y hy
  split at hy
  ·rcases List.mem_cons.1 hy with rfl | hy
   ·exact⟨⟨by simp only; omega,by simp only; omega⟩,by simp only; omega,by simp only; omega⟩
   ·exact spsS_I l bs _ _ (by omega) y hy
  ·rcases List.mem_cons.1 hy with rfl | hy
   ·exact sp0_I
   ·exact spsS_I l bs _ _ (by omega) y hy
theorem rowS_I (l:List UInt8) (f:Int) (st:Option Int) (hf:0≤f∧f≤900000000000):RowI (rowS l f st).1:=by
 have k1:=Qk 6 (by decide) l st
 have o1:=Qk 5 (by decide) l (numS 6 l st).2
 have i1:=Qk 1000 (by decide) l (numS 5 l (numS 6 l st).2).2
 have hy:=spsS_I l (prts (Qn (numS 6 l st).1 (numS 5 l (numS 6 l st).2).1)) f (numS 1000 l (numS 5 l (numS 6 l st).2).2).2 (by simp only [prts,List.length_cons,List.length_nil]; omega)
 unfold rowS
 exact⟨⟨k1.1,by show (numS 6 l st).1≤255; omega⟩,⟨o1.1,by show _≤(255:Int); simp only [Qr]; omega⟩,⟨by simp only [Qr]; omega,by simp only [Qr]; omega⟩,getD_I hy 0,getD_I hy 1,getD_I hy 2,getD_I hy 3⟩
theorem listS_I {α:Type}{step:Int→Option Int→α × Int × Option Int}{K B:Int}{P:α→Prop}(hK:0≤K) (hs:∀ f st,f≤(step f st).2.1∧(step f st).2.1≤f+K) (hP:∀ f st,0≤f∧f≤B→P (step f st).1):∀ (n:Nat) (f:Int) (st:Option Int),0≤f∧f+K * n≤B→∀ a ∈ (Qm step n f st).1,P a
 | 0,f,st,_=>by simp [Qm]
 | n+1,f,none,_=>by simp [Qm]
 | n+1,f,some p,hf=>by
  have h1:=hs f (some p)
  have e:K * ((n+1:Nat):Int)=K * (n:Int)+K:=by rw [Int.natCast_add,Int.mul_add]; simp
  have h2:0≤K * (n:Int):=Int.mul_nonneg hK (by omega)
  intro a ha
  simp only [Qm] at ha
  rcases List.mem_cons.1 ha with rfl | ha
  ·exact hP f (some p) ⟨hf.1,by omega⟩
  ·exact listS_I hK hs hP n _ _ ⟨by omega,by omega⟩ a ha
theorem gdS_I (l:List UInt8) (f:Int) (st:Option Int) (hf:0≤f∧f≤800000000000):GdI (gdS l f st).1:=by
 have h0:=Qk 4096 (by decide) l st
 have h1:=Qk 8 (by decide) l (numS 4096 l st).2
 refine⟨⟨⟨by show _≤f; omega,by show f≤_; omega⟩,by show _≤f+_; omega,by show f+_≤_; omega⟩,⟨Int.le_refl _,by show (0:Int)≤65535; decide⟩,⟨Int.le_refl _,by show (0:Int)≤65535; decide⟩,?_⟩
 exact listS_I (step:=rowS l) (K:=16384) (B:=900000000000) (by decide) (rowS_bd l) (fun f st hf=>rowS_I l f st hf) _ _ _ (by omega)
theorem stS_I (l:List UInt8) (f:Int) (st:Option Int) (hf:0≤f∧f≤700000000000):∀ g ∈ (stS l f st).1,GdI g:=by
 have h1:=Qk 12 (by decide) l st
 exact listS_I (step:=gdS l) (K:=140000) (B:=800000000000) (by decide) (gdS_bd l) (fun f st hf=>gdS_I l f st hf) _ _ _ (by omega)
theorem statesS_I (l:List UInt8) (st:Option Int):∀ gs ∈ (QZ l st).1,∀ g ∈ gs,GdI g:=by
 have h1:=Qk 12 (by decide) l st
 exact listS_I (step:=stS l) (K:=1680000) (B:=700000000000) (P:=fun gs=>∀ g ∈ gs,GdI g) (by decide) (stS_bd l) (fun f st hf=>stS_I l f st hf) _ _ _ (by omega)
theorem mkG_I (ds:List InM) {g:GdP}(h:GdI g):GdI (mkG ds g):=by
 have hr:=readsN_16 ds g.wh
 exact⟨h.1,hr.1,hr.2,h.2.2.2⟩
theorem ints_I {l:List UInt8}:∀ (n:Nat) (p q:Int) (xs:List Int),Qx l n p=some (xs,q)→∀ x ∈ xs,I64 x
 | 0,p,q,xs,h=>by
  simp only [Qx,Option.some.injEq,Prod.mk.injEq] at h
  obtain⟨e1,_⟩:=h
  subst e1
  simp
 | n+1,p,q,xs,h=>by
  simp only [Qx] at h
  obtain⟨d,k1,k2⟩:=Option.bind_eq_some_iff.1 h
  obtain⟨r,k3,k4⟩:=Option.map_eq_some_iff.1 k2
  simp only [Prod.mk.injEq] at k4
  obtain⟨e1,_⟩:=k4
  subst e1
  intro x hx
  rcases List.mem_cons.1 hx with rfl | hx
  ·exact signR_I k1
  ·exact ints_I n _ _ _ k3 x hx
theorem sgnS_I (k:Int) (l:List UInt8) (st:Option Int):∀ x ∈ (sgnS k l st).1,I64 x:=by
 unfold sgnS
 cases (numS k l st).2 with
 | none=>simp
 | some p =>
  simp only
  cases h:Qx l (numS k l st).1.toNat p with
  | none=>simp [finI]
  | some r=>obtain⟨xs,q⟩:=r; exact ints_I _ _ _ _ h
theorem codeS_I (l:List UInt8) (st:Option Int):∀ d ∈ (codeS l st).1,B8 d.k∧I64 d.a:=by
 have h1:=Qk 4096 (by decide) l st
 refine listS_I (step:=cdS l) (K:=0) (B:=0) (P:=fun d=>B8 d.k∧I64 d.a) (Int.le_refl _) (fun f st=>⟨Int.le_refl _,by show f≤f+0; omega⟩) (fun f st _=>?_) _ _ _ (by omega)
 have h2:=Qk 9 (by decide) l st
 exact⟨⟨h2.1,by show (numS 9 l st).1≤255; omega⟩,numS_I 4096 (by decide) l _⟩
theorem relsD_G {al:List GdP}{xs:List (Array Value)}{nbs:List Bx}(h:Rels RelGD al xs nbs):∃ gm:List GdM,xs=gm.map GdM.vals∧gm.map plG=al∧Keep nbs (fun V=>∀ g ∈ gm,SlAt V 11 g.a g.c (g.rs.map RowM.vals)):=by
 induction h with
 | nil=>exact⟨[],rfl,rfl,fun V _=>by simp⟩
 | snoc _ k ih =>
  rename_i a x nb hr
  obtain⟨gm,rfl,rfl,i3⟩:=ih
  obtain⟨ad,cd,rfl,k2⟩:=k
  refine⟨gm ++ [⟨a.wh,a.fd,a.rg,ad,cd,a.rs⟩],by simp,by simp [plG],fun V hV=>?_⟩
  obtain⟨h1,h2⟩:=(k2.keep.app i3) V hV
  intro g hg
  rcases List.mem_append.1 hg with hg | hg
  ·exact h2 g hg
  ·rw [List.mem_singleton.1 hg]; exact h1
theorem relsD_S {al:List (List GdP)}{xs:List (Array Value)}{nbs:List Bx}(h:Rels JC al xs nbs) (hI:∀ gs ∈ al,∀ g ∈ gs,GdI g):∃ ts:List StM,xs=ts.map StM.vals∧ts.map (fun s=>s.gs.map plG)=al∧Keep nbs (fun V=>∀ s ∈ ts,StL V s):=by
 induction h with
 | nil=>exact⟨[],rfl,rfl,fun V _=>by simp⟩
 | snoc _ k ih =>
  rename_i al' xs' nbs' a x nb hr
  obtain⟨ts,rfl,rfl,i3⟩:=ih (fun gs hgs=>hI gs (List.mem_append_left _ hgs))
  obtain⟨ad,cd,ys,nb1,nbs2,rfl,rfl,k1,k3⟩:=k
  obtain⟨gm,rfl,rfl,g3⟩:=relsD_G k1
  have hGI:=hI _ (List.mem_append_right _ (List.mem_singleton.2 rfl))
  refine⟨ts ++ [⟨ad,cd,gm⟩],by simp [StM.vals],by simp,fun V hV=>?_⟩
  obtain⟨⟨h1,h2⟩,h3⟩:=((k3.keep.app g3).app i3) V hV
  intro s hs
  rcases List.mem_append.1 hs with hs | hs
  ·exact h3 s hs
  ·rw [List.mem_singleton.1 hs]
   refine⟨h1,fun g hg=>?_⟩
   obtain⟨y1,y2,y3,y4⟩:=hGI (plG g) (List.mem_map.2 ⟨g,hg,rfl⟩)
   exact⟨y1,y2,y3,h2 g hg,y4⟩
def spD (t:TbM) (x:Sp):Int:=(QE t (fun _=>0) x.f.toNat x.t.toNat).1
def spsD (t:TbM):List Sp→Int
 | []=>0
 | x :: l=>if spD t x == 0 then spsD t l else spD t x
def hasR (r:RowM) (i:Nat):List Sp:=(((prts (Qn r.k r.o)).zip (spL r)).drop i).filterMap (fun q=>if q.1 then some q.2 else none)
theorem hasR_0 (r:RowM):hasR r 0=hasL r:=by
 unfold hasR hasL hasI
 rw [List.drop_zero,List.take_of_length_le (by simp [prts,spL])]
theorem hasR_4 (r:RowM):hasR r 4 = []:=by
 unfold hasR
 rw [List.drop_of_length_le (by simp [prts,spL])]; rfl
theorem hasR_s (r:RowM) (i:Nat) (hi:i < 4):hasR r i=(if (prts (Qn r.k r.o)).getD i false then [(spL r).getD i ⟨0,0⟩] else []) ++ hasR r (i+1):=by
 obtain⟨p,ep⟩:∃ p,Qn r.k r.o=p:=⟨_,rfl⟩
 unfold hasR
 rw [ep]
 match i,hi with
 | 0,_=>cases h:p.a <;> simp [prts,spL,h]
 | 1,_=>cases h:p.b <;> simp [prts,spL,h]
 | 2,_=>cases h:p.c <;> simp [prts,spL,h]
 | 3,_=>cases h:p.d <;> simp [prts,spL,h]
theorem hasR_mem {r:RowM}{i:Nat}{x:Sp}(h:x ∈ hasR r i):x ∈ hasL r:=by
 rw [← hasR_0]
 unfold hasR at h ⊢
 obtain⟨q,h1,h2⟩:=List.mem_filterMap.1 h
 exact List.mem_filterMap.2 ⟨q,by rw [List.drop_zero]; exact List.mem_of_mem_drop h1,h2⟩
theorem rspan_sp (t:TbM) (x:Sp) (w:World) (hl:TbL w t) (hm:t.ds.length≤4096) (hx:SpW t x):Calls zG 29 #[.agg t.vals,.agg x.vals] w fun e w'=>e=.returned (zI (spD t x))∧Below w§ w w':=by
 obtain⟨f,b⟩:=x
 obtain⟨h0,h1,h2⟩:=hx
 simp only at h0 h1 h2
 obtain⟨n,rfl⟩:=Int.eq_ofNat_of_zero_le h0
 obtain⟨m,rfl⟩:=Int.eq_ofNat_of_zero_le (show 0≤b by omega)
 exact rspan_any' t n m w hl (by omega) (by omega) hm
theorem rrows_any (t:TbM) (r:RowM) (w:World) (hl:TbL w t) (hm:t.ds.length≤4096) (hx:∀ x ∈ hasL r,SpW t x):Calls zG 31 #[.agg t.vals,.agg r.vals] w fun e w'=>e=.returned (zI (spsD t (hasL r)))∧Below w§ w w':=by
 obtain⟨W2,e2⟩:∃ W,(w.alloc (.cells t.vals 26)).alloc (.cells r.vals 85)=W:=⟨_,rfl⟩
 have E2:=zH e2
 obtain⟨hn1,hn2,hb2,hs2⟩:=J9 e2
 have HB2:=zH hb2
 have HN1:=zH hn1
 have HN2:=zH hn2
 clear e2
 have HL:Hid (TbL W2 t):=hl.on hb2
 have HSX:=zH hx
 have HMM:Hid (t.ds.length≤4096):=hm
 clear hn1 hn2 hb2 hs2 hl hx hm
 obtain⟨ANS,eA⟩:∃ q,spsD t (hasL r)=q:=⟨_,rfl⟩
 have HA:Hid (spsD t (hasR r 0)=ANS):=by show _=_; rw [hasR_0]; exact eA
 rw [eA]
 clear eA
 have cH:=JK r W2
 go_enter Tryz.func31,Tryz.ntmps31
 go_upto_region 1 with fail
 rw [E2.out]
 clear E2
 obtain⟨B1,eB1⟩:∃ b,w§+1=b:=⟨_,rfl⟩
 rw [eB1] at HN2 ⊢
 clear eB1
 go_wp2_with (refine wpList_load_row rfl 85 (.tmp 3) rfl B1 rfl 85 r.vals (0,0) _ HN2.out Tryz.underlying85 rfl Qi ?_)
 refine cH.mono ?_
 rintro e w5 ⟨HC,rfl,hh,hge,hb5⟩
 have hn5:w5.heap[B1]? = some (.cells r.vals 85 (0,0)):=(hb5.block _ (Qy HN2.out)).trans HN2.out
 have s3:w5.cell? ⟨B1,3,none⟩=some (zI r.sd.f):=Co hn5 3
 have s4:w5.cell? ⟨B1,4,none⟩=some (zI r.sd.t):=Co hn5 4
 have s5:w5.cell? ⟨B1,5,none⟩=some (zI r.qt.f):=Co hn5 5
 have s6:w5.cell? ⟨B1,6,none⟩=some (zI r.qt.t):=Co hn5 6
 have s7:w5.cell? ⟨B1,7,none⟩=some (zI r.pr.f):=Co hn5 7
 have s8:w5.cell? ⟨B1,8,none⟩=some (zI r.pr.t):=Co hn5 8
 have s9:w5.cell? ⟨B1,9,none⟩=some (zI r.vl.f):=Co hn5 9
 have s10:w5.cell? ⟨B1,10,none⟩=some (zI r.vl.t):=Co hn5 10
 have HH:=zH hh
 have HB5:=zH hb5
 have HSV:Hid ((w5.alloc (.cells (spV r) 65)).heap[w5§]? = some (.cells (spV r) 65 (0,0))):=Hn _ _
 have HS6:Hid (Below w5§ w5 (w5.alloc (.cells (spV r) 65))):=Bn _ _
 clear cH hh hge hb5 hn5 HN2
 go_upto_region 3 with fail
 clear s3 s4 s5 s6 s7 s8 s9 s10
 rw [show (w5.alloc (.cells #[zI r.sd.f,zI r.sd.t,zI r.qt.f,zI r.qt.t,zI r.pr.f,zI r.pr.t,zI r.vl.f,zI r.vl.t] 65))=w5.alloc (.cells (spV r) 65) from rfl]
 generalize w5.alloc (.cells (spV r) 65)=W6 at HSV HS6 ⊢
 generalize w5§=SB at HSV ⊢
 have HH6:Hid (W6.heap[HC]? = some (.cells (Qn r.k r.o).vals 4 (0,0))):=(HS6.out.block _ (Qy HH.out)).trans HH.out
 have HB6:=zH (Qa HB5.out HS6.out)
 clear HH HB5 HS6
 go_wp2_with fail
 go_loopw [7] (fun q wr=>∃ (i:Nat),i≤4∧q=zI i∧Hid (Below W6§ W6 wr)∧Hid (spsD t (hasR r i)=ANS)) (fun q _=>4 - (intOf q).toNat)
 case atStart=>exact⟨0,by omega,rfl,Below.refl _ _,HA⟩
 case round =>
  obtain⟨i,hi,rfl,HBR,HSR⟩:=hrel
  by_cases hlt:i < 4
  ·have hlt':(i:Int) < 4:=by omega
   have hmx:(i:Int)+1≤9223372036854775807:=by omega
   have cP:=Qf (par_cell HH6.out i hlt) HBR.out
   obtain⟨q1,q2⟩:=spn_cell HSV.out i hlt
   have hR:=HSR.out
   rw [hasR_s r i hlt] at hR
   have hME:∀ x,x ∈ hasR r i→SpW t x:=fun x hx=>HSX.out x (hasR_mem hx)
   rw [hasR_s r i hlt] at hME
   obtain⟨d,ed⟩:∃ d,(spL r).getD i ⟨0,0⟩=d:=⟨_,rfl⟩
   rw [ed] at q1 q2 hR hME
   obtain⟨bp,ebp⟩:∃ b,(prts (Qn r.k r.o)).getD i false=b:=⟨_,rfl⟩
   rw [ebp] at cP hR hME
   clear ed ebp
   cases bp with
   | false =>
    have HN:Hid (spsD t (hasR r (i+1))=ANS):=by show _=_; simpa using hR
    clear hR hME q1 q2
    go_wp2_with fail
    exact⟨⟨i+1,hlt,rfl,HBR,HN⟩,by simp only [intOf]; omega⟩
   | true =>
    have hSD:SpW t d:=hME d (by simp)
    have hR2:(if spD t d == 0 then spsD t (hasR r (i+1)) else spD t d)=ANS:=by simpa [spsD] using hR
    have HR2:=QY hR2
    have HFA:Hid (∀ v:World,Below wr§ wr v→v.heap[w§]? = some (.cells t.vals 26 (0,0))):=fun v hv=>((Qa HB6.out (Qa HBR.out hv)).block _ (Qy HN1.out)).trans HN1.out
    have HFD:Hid (∀ v:World,Below wr§ wr v→v.rangeAt SB (i * 2) d.vals.toList):=fun v hv j x hx=>by
     have hj:j < 2:=(List.getElem?_eq_some_iff.1 hx).1
     obtain rfl | rfl:j=0∨j=1:=by omega
     ·cases hx; exact Qf q1 (Qa HBR.out hv)
     ·cases hx; exact Qf q2 (Qa HBR.out hv)
    have cS:=rspan_sp t d wr.drew ((HL.out.on (Qa HB6.out HBR.out)).on ⟨rfl,rfl,rfl,Nat.le_refl _,fun _ _=>rfl⟩) HMM.out hSD
    obtain⟨E,eE⟩:∃ E,spD t d=E:=⟨_,rfl⟩
    rw [eE] at cS HR2
    clear hR hME q1 q2 hSD hR2 eE
    go_upto_region 7 with fail
    clear cP
    refine wp_region_held_drew (S:=fun v=>Below wr§ wr v) zK ⟨rfl,rfl,rfl,Nat.le_refl _,fun _ _=>rfl⟩ (fun hHeld=>?_)
    refine wpAnyH_take (i:=0) (v:=.agg t.vals) rfl zK zK zK (fun _ _ _ h=>h) (yl_row (by rfl) 26 (.tmp 2) rfl w§ rfl 26 t.vals (0,0) _ HFA.out Tryz.underlying26 rfl Qe) (by assumption) ?_
    try simp [Act.put]
    refine wpAnyH_take (i:=1) (v:=?_) rfl zK zK zK (fun _ _ _ h=>h) (Or.inl ⟨by rfl,?_⟩) (by assumption) ?_
    rotate_left
    ·(intro v hv; go_simp; try (with_reducible rfl))
    try simp [Act.put]
    refine wpAnyH_take (i:=2) (v:=?_) rfl zK zK zK (fun _ _ _ h=>h) (Or.inl ⟨by rfl,?_⟩) (by assumption) ?_
    rotate_left
    ·(intro v hv; go_simp; try (with_reducible rfl))
    try simp [Act.put]
    refine wpAnyH_take (i:=3) (v:=?_) rfl zK zK zK (fun _ _ _ h=>h) (Or.inl ⟨by rfl,?_⟩) (by assumption) ?_
    rotate_left
    ·(intro v hv; go_simp; try (with_reducible rfl))
    try simp [Act.put]
    refine wpAnyH_take (i:=4) (v:=.agg d.vals) rfl zK zK zK (fun _ _ _ h=>h) (yl_mid (by rfl) 65 (.tmp 31) rfl SB (i * 2) rfl d.vals _ HFD.out Tryz.underlying65 rfl (by show _=some 2; exact Qt)) (by assumption) ?_
    try simp [Act.put]
    refine wpAnyH_ready (rs:=[5]) zK (by simp) ?_
    refine AllReadyH.cons rfl (fun K hK=>?_) AllReadyH.nil
    go_simp
    refine cS.mono ?_
    rintro e w7 ⟨rfl,hb7⟩
    have hB7:Below wr§ wr w7:=⟨hb7.os,hb7.tape,hb7.output,hb7.size,hb7.block⟩
    have HB7:=zH (Qa HBR.out hB7)
    refine hK.out _ _ hB7 (fun hHeld=>?_)
    clear hK K cS hb7 hB7
    try simp [Act.put]
    refine wpAnyH_take (i:=6) (v:=?_) rfl zK zK zK (fun _ _ _ h=>h) (Or.inl ⟨by rfl,?_⟩) (by assumption) ?_
    rotate_left
    ·(intro v hv; go_simp; try (with_reducible rfl))
    try simp [Act.put]
    refine wpAnyH_done zK ?_ _
    cases hE:(E != 0) with
    | true =>
     have HN:Hid (ANS=E):=by show _=_; rw [← HR2.out,if_neg (by simpa using hE)]
     go_wp2_with fail
     go_ret
     exact⟨by rw [HN.out]; rfl,Qa HB2.out (Qa HB6.out HB7.out)⟩
    | false =>
     have HN:Hid (spsD t (hasR r (i+1))=ANS):=by show _=_; rw [← HR2.out,if_pos (by simpa using hE)]
     go_wp2_with fail
     exact⟨⟨i+1,hlt,rfl,HB7,HN⟩,by simp only [intOf]; omega⟩
  ·obtain rfl:i=4:=by omega
   have HN:Hid (ANS=0):=by show _=_; rw [← HSR.out,hasR_4]; rfl
   go_wp2_with fail
   go_ret
   exact⟨by rw [HN.out]; rfl,Qa HB2.out (Qa HB6.out HBR.out)⟩
end Go.Proofs.YteedmmljahgpjaaGreatDoor
