import Derived.Test.YteedmmljahgpjaaGreatDoorA0
import Derived.Test.YteedmmljahgpjaaGreatDoorA19
namespace Go.Proofs.YteedmmljahgpjaaGreatDoor
set_option maxRecDepth 100000
set_option maxHeartbeats 8000000
open Go.RowKit
set_option linter.unusedVariables false
set_option linter.unusedSimpArgs false
theorem cutZ50 {P:Program}{c:Code}{Q:Exit→Act→World→Prop}{a:Act}{w:World}(A:Value→Value→Value→Value→Value→Value→Value→Value→Value→Value→Value→Value→Value→Value→Value→Value→Value→Value→Value→Value→Value→Value→Value→Value→Value→Value→Value→Value→Value→Value→Value→Value→Value→Value→Value→Value→Value→Value→Value→Value→Value→Value→Value→Value→Value→Value→Value→Value→Value→Value→Act) (I:World→Prop) (f:Hid (∀ (y0 y1 y2 y3 y4 y5 y6 y7 y8 y9 y10 y11 y12 y13 y14 y15 y16 y17 y18 y19 y20 y21 y22 y23 y24 y25 y26 y27 y28 y29 y30 y31 y32 y33 y34 y35 y36 y37 y38 y39 y40 y41 y42 y43 y44 y45 y46 y47 y48 y49:Value) (w':World),I w'→Q .normal (A y0 y1 y2 y3 y4 y5 y6 y7 y8 y9 y10 y11 y12 y13 y14 y15 y16 y17 y18 y19 y20 y21 y22 y23 y24 y25 y26 y27 y28 y29 y30 y31 y32 y33 y34 y35 y36 y37 y38 y39 y40 y41 y42 y43 y44 y45 y46 y47 y48 y49) w')→c.wp P Q a w) (h:∀ (y0 y1 y2 y3 y4 y5 y6 y7 y8 y9 y10 y11 y12 y13 y14 y15 y16 y17 y18 y19 y20 y21 y22 y23 y24 y25 y26 y27 y28 y29 y30 y31 y32 y33 y34 y35 y36 y37 y38 y39 y40 y41 y42 y43 y44 y45 y46 y47 y48 y49:Value) (w':World),I w'→Q .normal (A y0 y1 y2 y3 y4 y5 y6 y7 y8 y9 y10 y11 y12 y13 y14 y15 y16 y17 y18 y19 y20 y21 y22 y23 y24 y25 y26 y27 y28 y29 y30 y31 y32 y33 y34 y35 y36 y37 y38 y39 y40 y41 y42 y43 y44 y45 y46 y47 y48 y49) w'):c.wp P Q a w:=f h
theorem cutZ28 {P:Program}{c:Code}{Q:Exit→Act→World→Prop}{a:Act}{w:World}(A:Value→Value→Value→Value→Value→Value→Value→Value→Value→Value→Value→Value→Value→Value→Value→Value→Value→Value→Value→Value→Value→Value→Value→Value→Value→Value→Value→Value→Act) (I:World→Prop) (f:Hid (∀ (y0 y1 y2 y3 y4 y5 y6 y7 y8 y9 y10 y11 y12 y13 y14 y15 y16 y17 y18 y19 y20 y21 y22 y23 y24 y25 y26 y27:Value) (w':World),I w'→Q .normal (A y0 y1 y2 y3 y4 y5 y6 y7 y8 y9 y10 y11 y12 y13 y14 y15 y16 y17 y18 y19 y20 y21 y22 y23 y24 y25 y26 y27) w')→c.wp P Q a w) (h:∀ (y0 y1 y2 y3 y4 y5 y6 y7 y8 y9 y10 y11 y12 y13 y14 y15 y16 y17 y18 y19 y20 y21 y22 y23 y24 y25 y26 y27:Value) (w':World),I w'→Q .normal (A y0 y1 y2 y3 y4 y5 y6 y7 y8 y9 y10 y11 y12 y13 y14 y15 y16 y17 y18 y19 y20 y21 y22 y23 y24 y25 y26 y27) w'):c.wp P Q a w:=f h
theorem treesTable_any (wE W1 w0:World) (bk:Nat) (U A:Nat→Prop) (NI NR NG NW NL:Nat) (lI lR lG lW lL:Value) (x:ByteArray) (sl:Int) (vR vC vD vT:Value) (nT:Nat) (stV:Nat→Value) (nG:Nat→Nat) (rwV:Nat→Nat→Value) (cnt:Nat→Nat)
  (E1:wE.alloc (.cells #[.string x,vR,zI sl,vC,vD,vT] 26)=W1) (hU3:U wE§) (h:TBs w0 W1 bk U A NI NR NG NW NL W1 lI lR lG lW lL) (ht:TO W1 U A vR vC vD vT nT stV nG rwV)
  (hc0:cnt 0=0) (hc1:∀ i,i < nT→cnt (i+1)=cnt i+nG i) (hcb:∀ i,i < nT→NR+cnt i+nG i≤900000) (hb:NI≤900000∧NL≤900000∧NW≤900000∧NG+nT≤900000) :
  Calls zG 20 #[zP bk,.agg #[.string x,vR,zI sl,vC,vD,vT]] wE fun e w'=>(∃ r,e=.returned r)∧∃ lI lR lG lW lL,TBs w0 W1 bk U (AA A vR vC vD vT nT stV nG rwV nT nT 0) (NI+1) (NR+cnt nT) (NG+nT) (NW+1) (NL+1+1) w' lI lR lG lW lL:=by
 have hn3:W1.heap[wE§]? = some (.cells #[.string x,vR,zI sl,vC,vD,vT] 26 (0,0)):=by rw [← E1]; exact Hn _ _
 have HA:Hid (∀ b,A b→U b):=h.sub
 have HTO:=zH ht
 obtain⟨mR,fR,r1,r2,r3⟩:=ht.R
 obtain⟨mC,fC,c1,c2,c3⟩:=ht.C
 obtain⟨mD,fD,d1,d2,d3⟩:=ht.D
 obtain⟨fT,t1,t2,t3⟩:=ht.T
 have HR:Hid (RowX W1 2 1 vR mR fR∧oqL fR mR∧mR≤100000000):=⟨r1,r2,r3⟩
 have HCc:Hid (RowX W1 2 1 vC mC fC∧oqL fC mC∧mC≤100000000):=⟨c1,c2,c3⟩
 have HD:Hid (RowX W1 61 2 vD mD fD∧oqI fD mD∧mD≤100000000):=⟨d1,d2,d3⟩
 have hokT:oqW fT nT:=fun i hi=>by
  obtain⟨f,hr,_⟩:=ht.S i hi
  obtain⟨ao,c,e1,_⟩:=hr.form
  exact⟨ao,nG i,c,by rw [t2 i hi,e1]⟩
 have HTt:Hid (RowX W1 69 1 vT nT fT∧oqW fT nT∧nT≤100000000):=⟨t1,hokT,by omega⟩
 have HT2:=zH t2
 obtain⟨aR,pR,eR,_⟩:=r1.form
 obtain⟨aC,pC,eC,_⟩:=c1.form
 obtain⟨aD,pD,eD,_⟩:=d1.form
 obtain⟨aT,pT,eT,hT0,_⟩:=t1.form
 have HT0:=zH hT0
 subst eR; subst eC; subst eD; subst eT
 have HFA:Hid (∀ v:World,(∀ b,U b→v.heap[b]? = W1.heap[b]?)→v.cell? ⟨wE§,1,none⟩=some (.slice aR mR pR)∧v.cell? ⟨wE§,3,none⟩=some (.slice aC mC pC)∧v.cell? ⟨wE§,4,none⟩=some (.slice aD mD pD)∧v.cell? ⟨wE§,5,none⟩=some (.slice aT nT pT)):=fun v hv=>by
  have hv3:=(hv wE§ hU3).trans hn3
  exact⟨Co hv3 1,Co hv3 3,Co hv3 4,Co hv3 5⟩
 have uR:=zH ht.uR
 have uC:Hid (∀ b,(Value.slice aC mC pC).ownBlock=some b→U b∧¬ (A b∨(Value.slice aR mR pR).ownBlock=some b)):=fun b hb=>by
  obtain⟨q1,q2,q3⟩:=ht.uC b hb
  exact⟨q1,fun e=>e.elim q2 q3⟩
 have uD:Hid (∀ b,(Value.slice aD mD pD).ownBlock=some b→U b∧¬ ((A b∨(Value.slice aR mR pR).ownBlock=some b)∨(Value.slice aC mC pC).ownBlock=some b)):=fun b hb=>by
  obtain⟨q1,q2⟩:=ht.uD b hb
  exact⟨q1,fun e=>e.elim (fun e=>e.elim q2 (d1.apartX r1 (by decide) b hb)) (d1.apartX c1 (by decide) b hb)⟩
 have uT:Hid (∀ b,(Value.slice aT nT pT).ownBlock=some b→U b∧¬ (((A b∨(Value.slice aR mR pR).ownBlock=some b)∨(Value.slice aC mC pC).ownBlock=some b)∨(Value.slice aD mD pD).ownBlock=some b)):=fun b hb=>by
  obtain⟨q1,q2⟩:=ht.uT b hb
  exact⟨q1,fun e=>e.elim (fun e=>e.elim (fun e=>e.elim q2 (t1.apartX r1 (by decide) b hb)) (t1.apartX c1 (by decide) b hb)) (t1.apartX d1 (by decide) b hb)⟩
 have HINV:Hid (∃ lI lR lG lW lL,TBs w0 W1 bk U A NI NR NG NW NL W1 lI lR lG lW lL):=⟨_,_,_,_,_,h⟩
 have HE1:=zH E1
 have HC1:=zH hc1
 have HCB:=zH hcb
 have nTb:(nT:Int)≤100000:=by omega
 clear h ht r1 r2 c1 c2 d1 d2 t1 t2 hokT hT0 E1 hn3 hU3 hc1 hcb r3 c3 d3
 obtain⟨hb1,hb2,hb3,hb4⟩:=hb
 go_enter Tryz.func20,Tryz.ntmps20
 go_upto_region 1 with fail
 rw [HE1.out]
 refine cutZ97 (fun y1 y2 y4 y5 y6 y7 y8 y9 y10 y11 y12 y13 y14 y15 y16 y17 y18 y19 y20 y21 y22 y23 y24 y25 y26 y27 y28 y29 y30 y31 y32 y33 y34 y35 y36 y37 y38 y39 y40 y41 y42 y43 y44 y45 y46 y47 y48 y49 y50 y51 y52 y53 y54 y55 y56 y57 y58 y59 y60 y61 y62 y63 y64 y65 y66 y67 y68 y69 y70 y71 y72 y73 y74 y75 y76 y77 y78 y79 y80 y81 y82 y83 y84 y85 y86 y87 y88 y89 y90 y91 y92 y93 y94 y95 y96 y97 y98=>⟨#[zP bk,y1,y2,zP wE§,y4,y5,y6,y7,y8,y9,y10,y11,y12,y13,y14,y15,y16,y17,y18,y19,y20,y21,y22,y23,y24,y25,y26,y27,y28,y29,y30,y31,y32,y33,y34,y35,y36,y37,y38,y39,y40,y41,y42,y43,y44,y45,y46,y47,y48,y49,y50,y51,y52,y53,y54,y55,y56,y57,y58,y59,y60,y61,y62,y63,y64,y65,y66,y67,y68,y69,y70,y71,y72,y73,y74,y75,y76,y77,y78,y79,y80,y81,y82,y83,y84,y85,y86,y87,y88,y89,y90,y91,y92,y93,y94,y95,y96,y97,y98],[]⟩) (fun w'=>∃ lI lR lG lW lL,TBs w0 W1 bk U (fun b=>(A) b∨(Value.slice aR mR pR).ownBlock=some b) NI NR NG NW (NL+1) w' lI lR lG lW lL) (fun HC=>?_) ?_
 ·obtain⟨lI,lR,lG,lW,lL,hT⟩:=HINV.out
  clear HINV
  have hT1:=hT.below (v':=World.drew W1) ⟨rfl,rfl,rfl,Nat.le_refl _,fun _ _=>rfl⟩
  refine wp_region_held_drew (S:=fun v=>∀ b,U b→v.heap[b]? = W1.heap[b]?) zK hT1.same (fun hHeld=>?_)
  obtain⟨V1,eV1⟩:∃ V1,V1=World.drew W1:=⟨_,rfl⟩
  rw [← eV1] at hT1 hHeld ⊢
  clear eV1 hT
  obtain⟨ao,cc,elv⟩:=hT1.L.form
  subst elv
  obtain⟨Vv,nn,CC,k1,k2,k3⟩:=hT1.L
  have HT:=hT1.hid
  have HK1:=zH k1
  have HK2:=zH k2
  have HK3:=zH k3
  have p0:V1.cell? ⟨bk,11,none⟩=some (.slice ao NL cc):=Co hT1.B 11
  have p1:(V1.alloc (.cells #[.slice aR mR pR] 22)).cell? ⟨bk,11,none⟩=some (.slice ao NL cc):=Co ((hT1.below (Bn V1 _)).B) 11
  have HS1:Hid (∀ b,U b→(V1.alloc (.cells #[.slice aR mR pR] 22)).heap[b]? = W1.heap[b]?):=(hT1.below (Bn V1 _)).same
  clear hT1 k1 k2 k3
  refine wpAnyH_take (i:=0) (v:=?_) rfl zK zK zK (fun _ _ _ h=>h) (Or.inl ⟨by rfl,?_⟩) (by assumption) ?_
  rotate_left
  ·(intro v hv; go_simp; try (with_reducible rfl))
  try simp [Act.put]
  refine wpAnyH_take (i:=1) (v:=?_) rfl zK zK zK (fun _ _ _ h=>h) (Or.inl ⟨by rfl,?_⟩) (by assumption) ?_
  rotate_left
  ·(intro v hv; go_simp; try (with_reducible rfl))
  try simp [Act.put]
  refine wpAnyH_take (i:=2) (v:=?_) rfl zK zK zK (fun _ _ _ h=>h) (Or.inl ⟨by rfl,?_⟩) (by assumption) ?_
  rotate_left
  ·(intro v hv; go_simp; try (with_reducible rfl))
  try simp [Act.put]
  refine wpAnyH_take (i:=3) (v:=?_) rfl zK zK zK (fun _ _ _ h=>h) (Or.inl ⟨by rfl,?_⟩) (by assumption) ?_
  rotate_left
  ·(intro v hv; go_simp; try (with_reducible rfl))
  try simp [Act.put]
  refine wpAnyH_take (i:=5) (v:=?_) rfl zK zK zK (fun _ _ _ h=>h) (Or.inl ⟨by rfl,?_⟩) (by assumption) ?_
  rotate_left
  ·(intro v hv; go_simp; try (with_reducible rfl))
  try simp [Act.put]
  refine wpAnyH_take (i:=6) (v:=?_) rfl zK zK zK (fun _ _ _ h=>h) (Or.inl ⟨by rfl,?_⟩) (by assumption) ?_
  rotate_left
  ·(intro v hv; obtain⟨a1,a3,a4,a5⟩:=HFA.out v hv; go_simp; try (with_reducible rfl))
  try simp [Act.put]
  refine wpAnyH_ready (rs:=[4,7]) zK (by simp) ?_
  refine AllReadyH.cons rfl (fun K hK=>?_) (AllReadyH.cons rfl (fun K hK=>?_) AllReadyH.nil)
  ·go_simp
   refine hK.out _ _ hHeld (fun hHeld=>?_)
   clear hK K
   try simp [Act.put]
   refine wpAnyH_ready (rs:=[7]) zK (by simp) ?_
   refine AllReadyH.cons rfl (fun K hK=>?_) AllReadyH.nil
   go_simp
   refine hK.out _ _ HS1.out (fun hHeld=>?_)
   clear hK K
   try simp [Act.put]
   refine wpAnyH_ready (rs:=[8]) zK (by simp) ?_
   refine AllReadyH.cons rfl (fun K hK=>?_) AllReadyH.nil
   refine Jk HK1.out.long rfl 50 Tryz.underlying50 infL22 (by omega) rfl (.tmp 10) (.tmp 13) rfl (by simp [Act.eval]) (by simp [Act.eval]) ?_
   intro g cap w' hr hg hq
   obtain⟨hB',hs',hT'⟩:=HT.out.addL HK1.out HK2.out HK3.out HR.out.1 HR.out.2.1 HR.out.2.2 uR.out hr hg hq rfl
   have q0:w'.cell? ⟨bk,11,none⟩=some (.slice ao NL cc):=Co hB' 11
   have q1:=Fo hB' 11
   have HT':=hT'.hid
   clear hr hg hq hB' hT' p0 p1
   refine hK.out _ _ hs' (fun hHeld=>?_)
   clear hK K
   try simp [Act.put]
   refine wpAnyH_take (i:=9) (v:=?_) rfl zK zK zK (fun _ _ _ h=>h) (Or.inl ⟨by rfl,?_⟩) (by assumption) ?_
   rotate_left
   ·(intro v hv; go_simp; try (with_reducible rfl))
   try simp [Act.put]
   refine wpAnyH_take (i:=10) (v:=?_) rfl zK zK zK (fun _ _ _ h=>h) (Or.inl ⟨by rfl,?_⟩) (by assumption) ?_
   rotate_left
   ·(intro v hv; go_simp; try (with_reducible rfl))
   try simp [Act.put]
   refine wpAnyH_ready (rs:=[11]) zK (by simp) ?_
   refine AllReadyH.cons rfl (fun K hK=>?_) AllReadyH.nil
   go_simp
   refine hK.out _ _ HT'.out.same (fun hHeld=>?_)
   clear hK K
   try simp [Act.put]
   refine wpAnyH_done zK ?_ _
   exact HC.out _ _ _ _ _ _ _ _ _ _ _ _ _ _ _ _ _ _ _ _ _ _ _ _ _ _ _ _ _ _ _ _ _ _ _ _ _ _ _ _ _ _ _ _ _ _ _ _ _ _ _ _ _ _ _ _ _ _ _ _ _ _ _ _ _ _ _ _ _ _ _ _ _ _ _ _ _ _ _ _ _ _ _ _ _ _ _ _ _ _ _ _ _ _ _ _ _ _ ⟨_,_,_,_,_,HT'.out⟩
  ·go_simp
   refine hK.out _ _ HS1.out (fun hHeld=>?_)
   clear hK K
   try simp [Act.put]
   refine wpAnyH_ready (rs:=[4]) zK (by simp) ?_
   refine AllReadyH.cons rfl (fun K hK=>?_) AllReadyH.nil
   go_simp
   refine hK.out _ _ HS1.out (fun hHeld=>?_)
   clear hK K
   try simp [Act.put]
   refine wpAnyH_ready (rs:=[8]) zK (by simp) ?_
   refine AllReadyH.cons rfl (fun K hK=>?_) AllReadyH.nil
   refine Jk HK1.out.long rfl 50 Tryz.underlying50 infL22 (by omega) rfl (.tmp 10) (.tmp 13) rfl (by simp [Act.eval]) (by simp [Act.eval]) ?_
   intro g cap w' hr hg hq
   obtain⟨hB',hs',hT'⟩:=HT.out.addL HK1.out HK2.out HK3.out HR.out.1 HR.out.2.1 HR.out.2.2 uR.out hr hg hq rfl
   have q0:w'.cell? ⟨bk,11,none⟩=some (.slice ao NL cc):=Co hB' 11
   have q1:=Fo hB' 11
   have HT':=hT'.hid
   clear hr hg hq hB' hT' p0 p1
   refine hK.out _ _ hs' (fun hHeld=>?_)
   clear hK K
   try simp [Act.put]
   refine wpAnyH_take (i:=9) (v:=?_) rfl zK zK zK (fun _ _ _ h=>h) (Or.inl ⟨by rfl,?_⟩) (by assumption) ?_
   rotate_left
   ·(intro v hv; go_simp; try (with_reducible rfl))
   try simp [Act.put]
   refine wpAnyH_take (i:=10) (v:=?_) rfl zK zK zK (fun _ _ _ h=>h) (Or.inl ⟨by rfl,?_⟩) (by assumption) ?_
   rotate_left
   ·(intro v hv; go_simp; try (with_reducible rfl))
   try simp [Act.put]
   refine wpAnyH_ready (rs:=[11]) zK (by simp) ?_
   refine AllReadyH.cons rfl (fun K hK=>?_) AllReadyH.nil
   go_simp
   refine hK.out _ _ HT'.out.same (fun hHeld=>?_)
   clear hK K
   try simp [Act.put]
   refine wpAnyH_done zK ?_ _
   exact HC.out _ _ _ _ _ _ _ _ _ _ _ _ _ _ _ _ _ _ _ _ _ _ _ _ _ _ _ _ _ _ _ _ _ _ _ _ _ _ _ _ _ _ _ _ _ _ _ _ _ _ _ _ _ _ _ _ _ _ _ _ _ _ _ _ _ _ _ _ _ _ _ _ _ _ _ _ _ _ _ _ _ _ _ _ _ _ _ _ _ _ _ _ _ _ _ _ _ _ ⟨_,_,_,_,_,HT'.out⟩
 intro y1 y2 y4 y5 y6 y7 y8 y9 y10 y11 y12 y13 y14 y15 y16 y17 y18 y19 y20 y21 y22 y23 y24 y25 y26 y27 y28 y29 y30 y31 y32 y33 y34 y35 y36 y37 y38 y39 y40 y41 y42 y43 y44 y45 y46 y47 y48 y49 y50 y51 y52 y53 y54 y55 y56 y57 y58 y59 y60 y61 y62 y63 y64 y65 y66 y67 y68 y69 y70 y71 y72 y73 y74 y75 y76 y77 y78 y79 y80 y81 y82 y83 y84 y85 y86 y87 y88 y89 y90 y91 y92 y93 y94 y95 y96 y97 y98 Vw1 hI1
 have HINV:=zH hI1
 clear hI1
 go_upto_region 2 with fail
 refine cutZ97 (fun y1 y2 y4 y5 y6 y7 y8 y9 y10 y11 y12 y13 y14 y15 y16 y17 y18 y19 y20 y21 y22 y23 y24 y25 y26 y27 y28 y29 y30 y31 y32 y33 y34 y35 y36 y37 y38 y39 y40 y41 y42 y43 y44 y45 y46 y47 y48 y49 y50 y51 y52 y53 y54 y55 y56 y57 y58 y59 y60 y61 y62 y63 y64 y65 y66 y67 y68 y69 y70 y71 y72 y73 y74 y75 y76 y77 y78 y79 y80 y81 y82 y83 y84 y85 y86 y87 y88 y89 y90 y91 y92 y93 y94 y95 y96 y97 y98=>⟨#[zP bk,y1,y2,zP wE§,y4,y5,y6,y7,y8,y9,y10,y11,y12,y13,y14,y15,y16,y17,y18,y19,y20,y21,y22,y23,y24,y25,y26,y27,y28,y29,y30,y31,y32,y33,y34,y35,y36,y37,y38,y39,y40,y41,y42,y43,y44,y45,y46,y47,y48,y49,y50,y51,y52,y53,y54,y55,y56,y57,y58,y59,y60,y61,y62,y63,y64,y65,y66,y67,y68,y69,y70,y71,y72,y73,y74,y75,y76,y77,y78,y79,y80,y81,y82,y83,y84,y85,y86,y87,y88,y89,y90,y91,y92,y93,y94,y95,y96,y97,y98],[]⟩) (fun w'=>∃ lI lR lG lW lL,TBs w0 W1 bk U (fun b=>(fun b=>(A) b∨(Value.slice aR mR pR).ownBlock=some b) b∨(Value.slice aC mC pC).ownBlock=some b) NI NR NG NW ((NL+1)+1) w' lI lR lG lW lL) (fun HC=>?_) ?_
 ·obtain⟨lI,lR,lG,lW,lL,hT⟩:=HINV.out
  clear HINV
  have hT1:=hT.below (v':=World.drew Vw1) ⟨rfl,rfl,rfl,Nat.le_refl _,fun _ _=>rfl⟩
  refine wp_region_held_drew (S:=fun v=>∀ b,U b→v.heap[b]? = W1.heap[b]?) zK hT1.same (fun hHeld=>?_)
  obtain⟨V1,eV1⟩:∃ V1,V1=World.drew Vw1:=⟨_,rfl⟩
  rw [← eV1] at hT1 hHeld ⊢
  clear eV1 hT
  obtain⟨ao,cc,elv⟩:=hT1.L.form
  subst elv
  obtain⟨Vv,nn,CC,k1,k2,k3⟩:=hT1.L
  have HT:=hT1.hid
  have HK1:=zH k1
  have HK2:=zH k2
  have HK3:=zH k3
  have p0:V1.cell? ⟨bk,11,none⟩=some (.slice ao (NL+1) cc):=Co hT1.B 11
  have p1:(V1.alloc (.cells #[.slice aC mC pC] 22)).cell? ⟨bk,11,none⟩=some (.slice ao (NL+1) cc):=Co ((hT1.below (Bn V1 _)).B) 11
  have HS1:Hid (∀ b,U b→(V1.alloc (.cells #[.slice aC mC pC] 22)).heap[b]? = W1.heap[b]?):=(hT1.below (Bn V1 _)).same
  clear hT1 k1 k2 k3
  refine wpAnyH_take (i:=0) (v:=?_) rfl zK zK zK (fun _ _ _ h=>h) (Or.inl ⟨by rfl,?_⟩) (by assumption) ?_
  rotate_left
  ·(intro v hv; go_simp; try (with_reducible rfl))
  try simp [Act.put]
  refine wpAnyH_take (i:=1) (v:=?_) rfl zK zK zK (fun _ _ _ h=>h) (Or.inl ⟨by rfl,?_⟩) (by assumption) ?_
  rotate_left
  ·(intro v hv; go_simp; try (with_reducible rfl))
  try simp [Act.put]
  refine wpAnyH_take (i:=2) (v:=?_) rfl zK zK zK (fun _ _ _ h=>h) (Or.inl ⟨by rfl,?_⟩) (by assumption) ?_
  rotate_left
  ·(intro v hv; go_simp; try (with_reducible rfl))
  try simp [Act.put]
  refine wpAnyH_take (i:=3) (v:=?_) rfl zK zK zK (fun _ _ _ h=>h) (Or.inl ⟨by rfl,?_⟩) (by assumption) ?_
  rotate_left
  ·(intro v hv; go_simp; try (with_reducible rfl))
  try simp [Act.put]
  refine wpAnyH_take (i:=5) (v:=?_) rfl zK zK zK (fun _ _ _ h=>h) (Or.inl ⟨by rfl,?_⟩) (by assumption) ?_
  rotate_left
  ·(intro v hv; go_simp; try (with_reducible rfl))
  try simp [Act.put]
  refine wpAnyH_take (i:=6) (v:=?_) rfl zK zK zK (fun _ _ _ h=>h) (Or.inl ⟨by rfl,?_⟩) (by assumption) ?_
  rotate_left
  ·(intro v hv; obtain⟨a1,a3,a4,a5⟩:=HFA.out v hv; go_simp; try (with_reducible rfl))
  try simp [Act.put]
  refine wpAnyH_ready (rs:=[4,7]) zK (by simp) ?_
  refine AllReadyH.cons rfl (fun K hK=>?_) (AllReadyH.cons rfl (fun K hK=>?_) AllReadyH.nil)
  ·go_simp
   refine hK.out _ _ hHeld (fun hHeld=>?_)
   clear hK K
   try simp [Act.put]
   refine wpAnyH_ready (rs:=[7]) zK (by simp) ?_
   refine AllReadyH.cons rfl (fun K hK=>?_) AllReadyH.nil
   go_simp
   refine hK.out _ _ HS1.out (fun hHeld=>?_)
   clear hK K
   try simp [Act.put]
   refine wpAnyH_ready (rs:=[8]) zK (by simp) ?_
   refine AllReadyH.cons rfl (fun K hK=>?_) AllReadyH.nil
   refine Jk HK1.out.long rfl 50 Tryz.underlying50 infL22 (by omega) rfl (.tmp 21) (.tmp 24) rfl (by simp [Act.eval]) (by simp [Act.eval]) ?_
   intro g cap w' hr hg hq
   obtain⟨hB',hs',hT'⟩:=HT.out.addL HK1.out HK2.out HK3.out HCc.out.1 HCc.out.2.1 HCc.out.2.2 uC.out hr hg hq rfl
   have q0:w'.cell? ⟨bk,11,none⟩=some (.slice ao (NL+1) cc):=Co hB' 11
   have q1:=Fo hB' 11
   have HT':=hT'.hid
   clear hr hg hq hB' hT' p0 p1
   refine hK.out _ _ hs' (fun hHeld=>?_)
   clear hK K
   try simp [Act.put]
   refine wpAnyH_take (i:=9) (v:=?_) rfl zK zK zK (fun _ _ _ h=>h) (Or.inl ⟨by rfl,?_⟩) (by assumption) ?_
   rotate_left
   ·(intro v hv; go_simp; try (with_reducible rfl))
   try simp [Act.put]
   refine wpAnyH_take (i:=10) (v:=?_) rfl zK zK zK (fun _ _ _ h=>h) (Or.inl ⟨by rfl,?_⟩) (by assumption) ?_
   rotate_left
   ·(intro v hv; go_simp; try (with_reducible rfl))
   try simp [Act.put]
   refine wpAnyH_ready (rs:=[11]) zK (by simp) ?_
   refine AllReadyH.cons rfl (fun K hK=>?_) AllReadyH.nil
   go_simp
   refine hK.out _ _ HT'.out.same (fun hHeld=>?_)
   clear hK K
   try simp [Act.put]
   refine wpAnyH_done zK ?_ _
   exact HC.out _ _ _ _ _ _ _ _ _ _ _ _ _ _ _ _ _ _ _ _ _ _ _ _ _ _ _ _ _ _ _ _ _ _ _ _ _ _ _ _ _ _ _ _ _ _ _ _ _ _ _ _ _ _ _ _ _ _ _ _ _ _ _ _ _ _ _ _ _ _ _ _ _ _ _ _ _ _ _ _ _ _ _ _ _ _ _ _ _ _ _ _ _ _ _ _ _ _ ⟨_,_,_,_,_,HT'.out⟩
  ·go_simp
   refine hK.out _ _ HS1.out (fun hHeld=>?_)
   clear hK K
   try simp [Act.put]
   refine wpAnyH_ready (rs:=[4]) zK (by simp) ?_
   refine AllReadyH.cons rfl (fun K hK=>?_) AllReadyH.nil
   go_simp
   refine hK.out _ _ HS1.out (fun hHeld=>?_)
   clear hK K
   try simp [Act.put]
   refine wpAnyH_ready (rs:=[8]) zK (by simp) ?_
   refine AllReadyH.cons rfl (fun K hK=>?_) AllReadyH.nil
   refine Jk HK1.out.long rfl 50 Tryz.underlying50 infL22 (by omega) rfl (.tmp 21) (.tmp 24) rfl (by simp [Act.eval]) (by simp [Act.eval]) ?_
   intro g cap w' hr hg hq
   obtain⟨hB',hs',hT'⟩:=HT.out.addL HK1.out HK2.out HK3.out HCc.out.1 HCc.out.2.1 HCc.out.2.2 uC.out hr hg hq rfl
   have q0:w'.cell? ⟨bk,11,none⟩=some (.slice ao (NL+1) cc):=Co hB' 11
   have q1:=Fo hB' 11
   have HT':=hT'.hid
   clear hr hg hq hB' hT' p0 p1
   refine hK.out _ _ hs' (fun hHeld=>?_)
   clear hK K
   try simp [Act.put]
   refine wpAnyH_take (i:=9) (v:=?_) rfl zK zK zK (fun _ _ _ h=>h) (Or.inl ⟨by rfl,?_⟩) (by assumption) ?_
   rotate_left
   ·(intro v hv; go_simp; try (with_reducible rfl))
   try simp [Act.put]
   refine wpAnyH_take (i:=10) (v:=?_) rfl zK zK zK (fun _ _ _ h=>h) (Or.inl ⟨by rfl,?_⟩) (by assumption) ?_
   rotate_left
   ·(intro v hv; go_simp; try (with_reducible rfl))
   try simp [Act.put]
   refine wpAnyH_ready (rs:=[11]) zK (by simp) ?_
   refine AllReadyH.cons rfl (fun K hK=>?_) AllReadyH.nil
   go_simp
   refine hK.out _ _ HT'.out.same (fun hHeld=>?_)
   clear hK K
   try simp [Act.put]
   refine wpAnyH_done zK ?_ _
   exact HC.out _ _ _ _ _ _ _ _ _ _ _ _ _ _ _ _ _ _ _ _ _ _ _ _ _ _ _ _ _ _ _ _ _ _ _ _ _ _ _ _ _ _ _ _ _ _ _ _ _ _ _ _ _ _ _ _ _ _ _ _ _ _ _ _ _ _ _ _ _ _ _ _ _ _ _ _ _ _ _ _ _ _ _ _ _ _ _ _ _ _ _ _ _ _ _ _ _ _ ⟨_,_,_,_,_,HT'.out⟩
 intro y1 y2 y4 y5 y6 y7 y8 y9 y10 y11 y12 y13 y14 y15 y16 y17 y18 y19 y20 y21 y22 y23 y24 y25 y26 y27 y28 y29 y30 y31 y32 y33 y34 y35 y36 y37 y38 y39 y40 y41 y42 y43 y44 y45 y46 y47 y48 y49 y50 y51 y52 y53 y54 y55 y56 y57 y58 y59 y60 y61 y62 y63 y64 y65 y66 y67 y68 y69 y70 y71 y72 y73 y74 y75 y76 y77 y78 y79 y80 y81 y82 y83 y84 y85 y86 y87 y88 y89 y90 y91 y92 y93 y94 y95 y96 y97 y98 Vw2 hI2
 have HINV:=zH hI2
 clear hI2
 go_upto_region 3 with fail
 refine cutZ97 (fun y1 y2 y4 y5 y6 y7 y8 y9 y10 y11 y12 y13 y14 y15 y16 y17 y18 y19 y20 y21 y22 y23 y24 y25 y26 y27 y28 y29 y30 y31 y32 y33 y34 y35 y36 y37 y38 y39 y40 y41 y42 y43 y44 y45 y46 y47 y48 y49 y50 y51 y52 y53 y54 y55 y56 y57 y58 y59 y60 y61 y62 y63 y64 y65 y66 y67 y68 y69 y70 y71 y72 y73 y74 y75 y76 y77 y78 y79 y80 y81 y82 y83 y84 y85 y86 y87 y88 y89 y90 y91 y92 y93 y94 y95 y96 y97 y98=>⟨#[zP bk,y1,y2,zP wE§,y4,y5,y6,y7,y8,y9,y10,y11,y12,y13,y14,y15,y16,y17,y18,y19,y20,y21,y22,y23,y24,y25,y26,y27,y28,y29,y30,y31,y32,y33,y34,y35,y36,y37,y38,y39,y40,y41,y42,y43,y44,y45,y46,y47,y48,y49,y50,y51,y52,y53,y54,y55,y56,y57,y58,y59,y60,y61,y62,y63,y64,y65,y66,y67,y68,y69,y70,y71,y72,y73,y74,y75,y76,y77,y78,y79,y80,y81,y82,y83,y84,y85,y86,y87,y88,y89,y90,y91,y92,y93,y94,y95,y96,y97,y98],[]⟩) (fun w'=>∃ lI lR lG lW lL,TBs w0 W1 bk U (fun b=>(fun b=>(fun b=>(A) b∨(Value.slice aR mR pR).ownBlock=some b) b∨(Value.slice aC mC pC).ownBlock=some b) b∨(Value.slice aD mD pD).ownBlock=some b) (NI+1) NR NG NW ((NL+1)+1) w' lI lR lG lW lL) (fun HC=>?_) ?_
 ·obtain⟨lI,lR,lG,lW,lL,hT⟩:=HINV.out
  clear HINV
  have hT1:=hT.below (v':=World.drew Vw2) ⟨rfl,rfl,rfl,Nat.le_refl _,fun _ _=>rfl⟩
  refine wp_region_held_drew (S:=fun v=>∀ b,U b→v.heap[b]? = W1.heap[b]?) zK hT1.same (fun hHeld=>?_)
  obtain⟨V1,eV1⟩:∃ V1,V1=World.drew Vw2:=⟨_,rfl⟩
  rw [← eV1] at hT1 hHeld ⊢
  clear eV1 hT
  obtain⟨ao,cc,elv⟩:=hT1.I.form
  subst elv
  obtain⟨Vv,nn,CC,k1,k2,k3⟩:=hT1.I
  have HT:=hT1.hid
  have HK1:=zH k1
  have HK2:=zH k2
  have HK3:=zH k3
  have p0:V1.cell? ⟨bk,7,none⟩=some (.slice ao NI cc):=Co hT1.B 7
  have p1:(V1.alloc (.cells #[.slice aD mD pD] 23)).cell? ⟨bk,7,none⟩=some (.slice ao NI cc):=Co ((hT1.below (Bn V1 _)).B) 7
  have HS1:Hid (∀ b,U b→(V1.alloc (.cells #[.slice aD mD pD] 23)).heap[b]? = W1.heap[b]?):=(hT1.below (Bn V1 _)).same
  clear hT1 k1 k2 k3
  refine wpAnyH_take (i:=0) (v:=?_) rfl zK zK zK (fun _ _ _ h=>h) (Or.inl ⟨by rfl,?_⟩) (by assumption) ?_
  rotate_left
  ·(intro v hv; go_simp; try (with_reducible rfl))
  try simp [Act.put]
  refine wpAnyH_take (i:=1) (v:=?_) rfl zK zK zK (fun _ _ _ h=>h) (Or.inl ⟨by rfl,?_⟩) (by assumption) ?_
  rotate_left
  ·(intro v hv; go_simp; try (with_reducible rfl))
  try simp [Act.put]
  refine wpAnyH_take (i:=2) (v:=?_) rfl zK zK zK (fun _ _ _ h=>h) (Or.inl ⟨by rfl,?_⟩) (by assumption) ?_
  rotate_left
  ·(intro v hv; go_simp; try (with_reducible rfl))
  try simp [Act.put]
  refine wpAnyH_take (i:=3) (v:=?_) rfl zK zK zK (fun _ _ _ h=>h) (Or.inl ⟨by rfl,?_⟩) (by assumption) ?_
  rotate_left
  ·(intro v hv; go_simp; try (with_reducible rfl))
  try simp [Act.put]
  refine wpAnyH_take (i:=5) (v:=?_) rfl zK zK zK (fun _ _ _ h=>h) (Or.inl ⟨by rfl,?_⟩) (by assumption) ?_
  rotate_left
  ·(intro v hv; go_simp; try (with_reducible rfl))
  try simp [Act.put]
  refine wpAnyH_take (i:=6) (v:=?_) rfl zK zK zK (fun _ _ _ h=>h) (Or.inl ⟨by rfl,?_⟩) (by assumption) ?_
  rotate_left
  ·(intro v hv; obtain⟨a1,a3,a4,a5⟩:=HFA.out v hv; go_simp; try (with_reducible rfl))
  try simp [Act.put]
  refine wpAnyH_ready (rs:=[4,7]) zK (by simp) ?_
  refine AllReadyH.cons rfl (fun K hK=>?_) (AllReadyH.cons rfl (fun K hK=>?_) AllReadyH.nil)
  ·go_simp
   refine hK.out _ _ hHeld (fun hHeld=>?_)
   clear hK K
   try simp [Act.put]
   refine wpAnyH_ready (rs:=[7]) zK (by simp) ?_
   refine AllReadyH.cons rfl (fun K hK=>?_) AllReadyH.nil
   go_simp
   refine hK.out _ _ HS1.out (fun hHeld=>?_)
   clear hK K
   try simp [Act.put]
   refine wpAnyH_ready (rs:=[8]) zK (by simp) ?_
   refine AllReadyH.cons rfl (fun K hK=>?_) AllReadyH.nil
   refine Jk HK1.out.long rfl 47 Tryz.underlying47 infL23 (by omega) rfl (.tmp 32) (.tmp 35) rfl (by simp [Act.eval]) (by simp [Act.eval]) ?_
   intro g cap w' hr hg hq
   obtain⟨hB',hs',hT'⟩:=HT.out.addI HK1.out HK2.out HK3.out HD.out.1 HD.out.2.1 HD.out.2.2 uD.out hr hg hq rfl
   have q0:w'.cell? ⟨bk,7,none⟩=some (.slice ao NI cc):=Co hB' 7
   have q1:=Fo hB' 7
   have HT':=hT'.hid
   clear hr hg hq hB' hT' p0 p1
   refine hK.out _ _ hs' (fun hHeld=>?_)
   clear hK K
   try simp [Act.put]
   refine wpAnyH_take (i:=9) (v:=?_) rfl zK zK zK (fun _ _ _ h=>h) (Or.inl ⟨by rfl,?_⟩) (by assumption) ?_
   rotate_left
   ·(intro v hv; go_simp; try (with_reducible rfl))
   try simp [Act.put]
   refine wpAnyH_take (i:=10) (v:=?_) rfl zK zK zK (fun _ _ _ h=>h) (Or.inl ⟨by rfl,?_⟩) (by assumption) ?_
   rotate_left
   ·(intro v hv; go_simp; try (with_reducible rfl))
   try simp [Act.put]
   refine wpAnyH_ready (rs:=[11]) zK (by simp) ?_
   refine AllReadyH.cons rfl (fun K hK=>?_) AllReadyH.nil
   go_simp
   refine hK.out _ _ HT'.out.same (fun hHeld=>?_)
   clear hK K
   try simp [Act.put]
   refine wpAnyH_done zK ?_ _
   exact HC.out _ _ _ _ _ _ _ _ _ _ _ _ _ _ _ _ _ _ _ _ _ _ _ _ _ _ _ _ _ _ _ _ _ _ _ _ _ _ _ _ _ _ _ _ _ _ _ _ _ _ _ _ _ _ _ _ _ _ _ _ _ _ _ _ _ _ _ _ _ _ _ _ _ _ _ _ _ _ _ _ _ _ _ _ _ _ _ _ _ _ _ _ _ _ _ _ _ _ ⟨_,_,_,_,_,HT'.out⟩
  ·go_simp
   refine hK.out _ _ HS1.out (fun hHeld=>?_)
   clear hK K
   try simp [Act.put]
   refine wpAnyH_ready (rs:=[4]) zK (by simp) ?_
   refine AllReadyH.cons rfl (fun K hK=>?_) AllReadyH.nil
   go_simp
   refine hK.out _ _ HS1.out (fun hHeld=>?_)
   clear hK K
   try simp [Act.put]
   refine wpAnyH_ready (rs:=[8]) zK (by simp) ?_
   refine AllReadyH.cons rfl (fun K hK=>?_) AllReadyH.nil
   refine Jk HK1.out.long rfl 47 Tryz.underlying47 infL23 (by omega) rfl (.tmp 32) (.tmp 35) rfl (by simp [Act.eval]) (by simp [Act.eval]) ?_
   intro g cap w' hr hg hq
   obtain⟨hB',hs',hT'⟩:=HT.out.addI HK1.out HK2.out HK3.out HD.out.1 HD.out.2.1 HD.out.2.2 uD.out hr hg hq rfl
   have q0:w'.cell? ⟨bk,7,none⟩=some (.slice ao NI cc):=Co hB' 7
   have q1:=Fo hB' 7
   have HT':=hT'.hid
   clear hr hg hq hB' hT' p0 p1
   refine hK.out _ _ hs' (fun hHeld=>?_)
   clear hK K
   try simp [Act.put]
   refine wpAnyH_take (i:=9) (v:=?_) rfl zK zK zK (fun _ _ _ h=>h) (Or.inl ⟨by rfl,?_⟩) (by assumption) ?_
   rotate_left
   ·(intro v hv; go_simp; try (with_reducible rfl))
   try simp [Act.put]
   refine wpAnyH_take (i:=10) (v:=?_) rfl zK zK zK (fun _ _ _ h=>h) (Or.inl ⟨by rfl,?_⟩) (by assumption) ?_
   rotate_left
   ·(intro v hv; go_simp; try (with_reducible rfl))
   try simp [Act.put]
   refine wpAnyH_ready (rs:=[11]) zK (by simp) ?_
   refine AllReadyH.cons rfl (fun K hK=>?_) AllReadyH.nil
   go_simp
   refine hK.out _ _ HT'.out.same (fun hHeld=>?_)
   clear hK K
   try simp [Act.put]
   refine wpAnyH_done zK ?_ _
   exact HC.out _ _ _ _ _ _ _ _ _ _ _ _ _ _ _ _ _ _ _ _ _ _ _ _ _ _ _ _ _ _ _ _ _ _ _ _ _ _ _ _ _ _ _ _ _ _ _ _ _ _ _ _ _ _ _ _ _ _ _ _ _ _ _ _ _ _ _ _ _ _ _ _ _ _ _ _ _ _ _ _ _ _ _ _ _ _ _ _ _ _ _ _ _ _ _ _ _ _ ⟨_,_,_,_,_,HT'.out⟩
 intro y1 y2 y4 y5 y6 y7 y8 y9 y10 y11 y12 y13 y14 y15 y16 y17 y18 y19 y20 y21 y22 y23 y24 y25 y26 y27 y28 y29 y30 y31 y32 y33 y34 y35 y36 y37 y38 y39 y40 y41 y42 y43 y44 y45 y46 y47 y48 y49 y50 y51 y52 y53 y54 y55 y56 y57 y58 y59 y60 y61 y62 y63 y64 y65 y66 y67 y68 y69 y70 y71 y72 y73 y74 y75 y76 y77 y78 y79 y80 y81 y82 y83 y84 y85 y86 y87 y88 y89 y90 y91 y92 y93 y94 y95 y96 y97 y98 Vw3 hI3
 have HINV:=zH hI3
 clear hI3
 go_upto_region 4 with fail
 refine cutZ97 (fun y1 y2 y4 y5 y6 y7 y8 y9 y10 y11 y12 y13 y14 y15 y16 y17 y18 y19 y20 y21 y22 y23 y24 y25 y26 y27 y28 y29 y30 y31 y32 y33 y34 y35 y36 y37 y38 y39 y40 y41 y42 y43 y44 y45 y46 y47 y48 y49 y50 y51 y52 y53 y54 y55 y56 y57 y58 y59 y60 y61 y62 y63 y64 y65 y66 y67 y68 y69 y70 y71 y72 y73 y74 y75 y76 y77 y78 y79 y80 y81 y82 y83 y84 y85 y86 y87 y88 y89 y90 y91 y92 y93 y94 y95 y96 y97 y98=>⟨#[zP bk,y1,y2,zP wE§,y4,y5,y6,y7,y8,y9,y10,y11,y12,y13,y14,y15,y16,y17,y18,y19,y20,y21,y22,y23,y24,y25,y26,y27,y28,y29,y30,y31,y32,y33,y34,y35,y36,y37,y38,y39,y40,y41,y42,y43,y44,y45,y46,y47,y48,y49,y50,y51,y52,y53,y54,y55,y56,y57,y58,y59,y60,y61,y62,y63,y64,y65,y66,y67,y68,y69,y70,y71,y72,y73,y74,y75,y76,y77,y78,y79,y80,y81,y82,y83,y84,y85,y86,y87,y88,y89,y90,y91,y92,y93,y94,y95,y96,y97,y98],[]⟩) (fun w'=>∃ lI lR lG lW lL,TBs w0 W1 bk U (fun b=>(fun b=>(fun b=>(fun b=>(A) b∨(Value.slice aR mR pR).ownBlock=some b) b∨(Value.slice aC mC pC).ownBlock=some b) b∨(Value.slice aD mD pD).ownBlock=some b) b∨(Value.slice aT nT pT).ownBlock=some b) (NI+1) NR NG (NW+1) ((NL+1)+1) w' lI lR lG lW lL) (fun HC=>?_) ?_
 ·obtain⟨lI,lR,lG,lW,lL,hT⟩:=HINV.out
  clear HINV
  have hT1:=hT.below (v':=World.drew Vw3) ⟨rfl,rfl,rfl,Nat.le_refl _,fun _ _=>rfl⟩
  refine wp_region_held_drew (S:=fun v=>∀ b,U b→v.heap[b]? = W1.heap[b]?) zK hT1.same (fun hHeld=>?_)
  obtain⟨V1,eV1⟩:∃ V1,V1=World.drew Vw3:=⟨_,rfl⟩
  rw [← eV1] at hT1 hHeld ⊢
  clear eV1 hT
  obtain⟨ao,cc,elv⟩:=hT1.W.form
  subst elv
  obtain⟨Vv,nn,CC,k1,k2,k3⟩:=hT1.W
  have HT:=hT1.hid
  have HK1:=zH k1
  have HK2:=zH k2
  have HK3:=zH k3
  have p0:V1.cell? ⟨bk,10,none⟩=some (.slice ao NW cc):=Co hT1.B 10
  have p1:(V1.alloc (.cells #[.slice aT nT pT] 24)).cell? ⟨bk,10,none⟩=some (.slice ao NW cc):=Co ((hT1.below (Bn V1 _)).B) 10
  have HS1:Hid (∀ b,U b→(V1.alloc (.cells #[.slice aT nT pT] 24)).heap[b]? = W1.heap[b]?):=(hT1.below (Bn V1 _)).same
  clear hT1 k1 k2 k3
  refine wpAnyH_take (i:=0) (v:=?_) rfl zK zK zK (fun _ _ _ h=>h) (Or.inl ⟨by rfl,?_⟩) (by assumption) ?_
  rotate_left
  ·(intro v hv; go_simp; try (with_reducible rfl))
  try simp [Act.put]
  refine wpAnyH_take (i:=1) (v:=?_) rfl zK zK zK (fun _ _ _ h=>h) (Or.inl ⟨by rfl,?_⟩) (by assumption) ?_
  rotate_left
  ·(intro v hv; go_simp; try (with_reducible rfl))
  try simp [Act.put]
  refine wpAnyH_take (i:=2) (v:=?_) rfl zK zK zK (fun _ _ _ h=>h) (Or.inl ⟨by rfl,?_⟩) (by assumption) ?_
  rotate_left
  ·(intro v hv; go_simp; try (with_reducible rfl))
  try simp [Act.put]
  refine wpAnyH_take (i:=3) (v:=?_) rfl zK zK zK (fun _ _ _ h=>h) (Or.inl ⟨by rfl,?_⟩) (by assumption) ?_
  rotate_left
  ·(intro v hv; go_simp; try (with_reducible rfl))
  try simp [Act.put]
  refine wpAnyH_take (i:=5) (v:=?_) rfl zK zK zK (fun _ _ _ h=>h) (Or.inl ⟨by rfl,?_⟩) (by assumption) ?_
  rotate_left
  ·(intro v hv; go_simp; try (with_reducible rfl))
  try simp [Act.put]
  refine wpAnyH_take (i:=6) (v:=?_) rfl zK zK zK (fun _ _ _ h=>h) (Or.inl ⟨by rfl,?_⟩) (by assumption) ?_
  rotate_left
  ·(intro v hv; obtain⟨a1,a3,a4,a5⟩:=HFA.out v hv; go_simp; try (with_reducible rfl))
  try simp [Act.put]
  refine wpAnyH_ready (rs:=[4,7]) zK (by simp) ?_
  refine AllReadyH.cons rfl (fun K hK=>?_) (AllReadyH.cons rfl (fun K hK=>?_) AllReadyH.nil)
  ·go_simp
   refine hK.out _ _ hHeld (fun hHeld=>?_)
   clear hK K
   try simp [Act.put]
   refine wpAnyH_ready (rs:=[7]) zK (by simp) ?_
   refine AllReadyH.cons rfl (fun K hK=>?_) AllReadyH.nil
   go_simp
   refine hK.out _ _ HS1.out (fun hHeld=>?_)
   clear hK K
   try simp [Act.put]
   refine wpAnyH_ready (rs:=[8]) zK (by simp) ?_
   refine AllReadyH.cons rfl (fun K hK=>?_) AllReadyH.nil
   refine Jk HK1.out.long rfl 49 Tryz.underlying49 infL24 (by omega) rfl (.tmp 43) (.tmp 46) rfl (by simp [Act.eval]) (by simp [Act.eval]) ?_
   intro g cap w' hr hg hq
   obtain⟨hB',hs',hT'⟩:=HT.out.addW HK1.out HK2.out HK3.out HTt.out.1 HTt.out.2.1 HTt.out.2.2 uT.out hr hg hq rfl
   have q0:w'.cell? ⟨bk,10,none⟩=some (.slice ao NW cc):=Co hB' 10
   have q1:=Fo hB' 10
   have HT':=hT'.hid
   clear hr hg hq hB' hT' p0 p1
   refine hK.out _ _ hs' (fun hHeld=>?_)
   clear hK K
   try simp [Act.put]
   refine wpAnyH_take (i:=9) (v:=?_) rfl zK zK zK (fun _ _ _ h=>h) (Or.inl ⟨by rfl,?_⟩) (by assumption) ?_
   rotate_left
   ·(intro v hv; go_simp; try (with_reducible rfl))
   try simp [Act.put]
   refine wpAnyH_take (i:=10) (v:=?_) rfl zK zK zK (fun _ _ _ h=>h) (Or.inl ⟨by rfl,?_⟩) (by assumption) ?_
   rotate_left
   ·(intro v hv; go_simp; try (with_reducible rfl))
   try simp [Act.put]
   refine wpAnyH_ready (rs:=[11]) zK (by simp) ?_
   refine AllReadyH.cons rfl (fun K hK=>?_) AllReadyH.nil
   go_simp
   refine hK.out _ _ HT'.out.same (fun hHeld=>?_)
   clear hK K
   try simp [Act.put]
   refine wpAnyH_done zK ?_ _
   exact HC.out _ _ _ _ _ _ _ _ _ _ _ _ _ _ _ _ _ _ _ _ _ _ _ _ _ _ _ _ _ _ _ _ _ _ _ _ _ _ _ _ _ _ _ _ _ _ _ _ _ _ _ _ _ _ _ _ _ _ _ _ _ _ _ _ _ _ _ _ _ _ _ _ _ _ _ _ _ _ _ _ _ _ _ _ _ _ _ _ _ _ _ _ _ _ _ _ _ _ ⟨_,_,_,_,_,HT'.out⟩
  ·go_simp
   refine hK.out _ _ HS1.out (fun hHeld=>?_)
   clear hK K
   try simp [Act.put]
   refine wpAnyH_ready (rs:=[4]) zK (by simp) ?_
   refine AllReadyH.cons rfl (fun K hK=>?_) AllReadyH.nil
   go_simp
   refine hK.out _ _ HS1.out (fun hHeld=>?_)
   clear hK K
   try simp [Act.put]
   refine wpAnyH_ready (rs:=[8]) zK (by simp) ?_
   refine AllReadyH.cons rfl (fun K hK=>?_) AllReadyH.nil
   refine Jk HK1.out.long rfl 49 Tryz.underlying49 infL24 (by omega) rfl (.tmp 43) (.tmp 46) rfl (by simp [Act.eval]) (by simp [Act.eval]) ?_
   intro g cap w' hr hg hq
   obtain⟨hB',hs',hT'⟩:=HT.out.addW HK1.out HK2.out HK3.out HTt.out.1 HTt.out.2.1 HTt.out.2.2 uT.out hr hg hq rfl
   have q0:w'.cell? ⟨bk,10,none⟩=some (.slice ao NW cc):=Co hB' 10
   have q1:=Fo hB' 10
   have HT':=hT'.hid
   clear hr hg hq hB' hT' p0 p1
   refine hK.out _ _ hs' (fun hHeld=>?_)
   clear hK K
   try simp [Act.put]
   refine wpAnyH_take (i:=9) (v:=?_) rfl zK zK zK (fun _ _ _ h=>h) (Or.inl ⟨by rfl,?_⟩) (by assumption) ?_
   rotate_left
   ·(intro v hv; go_simp; try (with_reducible rfl))
   try simp [Act.put]
   refine wpAnyH_take (i:=10) (v:=?_) rfl zK zK zK (fun _ _ _ h=>h) (Or.inl ⟨by rfl,?_⟩) (by assumption) ?_
   rotate_left
   ·(intro v hv; go_simp; try (with_reducible rfl))
   try simp [Act.put]
   refine wpAnyH_ready (rs:=[11]) zK (by simp) ?_
   refine AllReadyH.cons rfl (fun K hK=>?_) AllReadyH.nil
   go_simp
   refine hK.out _ _ HT'.out.same (fun hHeld=>?_)
   clear hK K
   try simp [Act.put]
   refine wpAnyH_done zK ?_ _
   exact HC.out _ _ _ _ _ _ _ _ _ _ _ _ _ _ _ _ _ _ _ _ _ _ _ _ _ _ _ _ _ _ _ _ _ _ _ _ _ _ _ _ _ _ _ _ _ _ _ _ _ _ _ _ _ _ _ _ _ _ _ _ _ _ _ _ _ _ _ _ _ _ _ _ _ _ _ _ _ _ _ _ _ _ _ _ _ _ _ _ _ _ _ _ _ _ _ _ _ _ ⟨_,_,_,_,_,HT'.out⟩
 intro y1 y2 y4 y5 y6 y7 y8 y9 y10 y11 y12 y13 y14 y15 y16 y17 y18 y19 y20 y21 y22 y23 y24 y25 y26 y27 y28 y29 y30 y31 y32 y33 y34 y35 y36 y37 y38 y39 y40 y41 y42 y43 y44 y45 y46 y47 y48 y49 y50 y51 y52 y53 y54 y55 y56 y57 y58 y59 y60 y61 y62 y63 y64 y65 y66 y67 y68 y69 y70 y71 y72 y73 y74 y75 y76 y77 y78 y79 y80 y81 y82 y83 y84 y85 y86 y87 y88 y89 y90 y91 y92 y93 y94 y95 y96 y97 y98 Vw4 hI4
 have HINV:=zH hI4
 clear hI4
 have HI0:Hid (∃ lI lR lG lW lL,TBs w0 W1 bk U (AA A (.slice aR mR pR) (.slice aC mC pC) (.slice aD mD pD) (.slice aT nT pT) nT stV nG rwV 0 0 0) (NI+1) (NR+cnt 0) (NG+0) (NW+1) ((NL+1)+1) Vw4 lI lR lG lW lL):=by
  obtain⟨lI,lR,lG,lW,lL,hT⟩:=HINV.out
  refine⟨lI,lR,lG,lW,lL,?_⟩
  rw [hc0]
  exact hT.mono (fun b hb=>AA.start hb) (HTO.out.sub HA.out 0 0 0)
 have hbox:=(HFA.out Vw4 (by obtain⟨lI,lR,lG,lW,lL,hT⟩:=HINV.out; exact hT.same)).2.2.2
 clear HINV
 go_wp2
 go_loopw [4] (fun xx wr=>∃ i:Nat,i≤nT∧xx=zI i∧∃ lI lR lG lW lL,TBs w0 W1 bk U (AA A (.slice aR mR pR) (.slice aC mC pC) (.slice aD mD pD) (.slice aT nT pT) nT stV nG rwV i i 0) (NI+1) (NR+cnt i) (NG+i) (NW+1) ((NL+1)+1) wr lI lR lG lW lL) (fun xx _=>nT - (intOf xx).toNat)
 case atStart=>exact⟨0,by omega,rfl,HI0.out⟩
 case round =>
  obtain⟨i,hiN,rfl,hp⟩:=hrel
  clear HI0 hbox
  have hbox:=(HFA.out wr (by obtain⟨lI,lR,lG,lW,lL,hT⟩:=hp; exact hT.same)).2.2.2
  have HINV:=zH hp
  clear hp
  by_cases hi:i < nT
  ·have hi':(i:Int) < (nT:Int):=by omega
   obtain⟨bT,rfl⟩:=HT0.out (by omega)
   obtain⟨fG,g1,g2,g3,g4⟩:=HTO.out.S i hi
   obtain⟨m,em⟩:∃ m,nG i=m:=⟨_,rfl⟩
   obtain⟨aS,pS,eS,hS0,_⟩:=g1.form
   rw [em] at eS hS0 g3
   have HS0:=zH hS0
   have HSV:=zH eS
   have HM:Hid (nG i=m):=em
   have hmb:(m:Int)≤1000000:=by omega
   have HFG:Hid (RowX W1 68 5 (.slice aS m pS) m fG∧oqG fG m∧m≤100000000):=by rw [em,eS] at g1; rw [em] at g2; exact⟨g1,g2,by omega⟩
   have HG4:Hid (∀ k,k < m→fG (k * 5+4)=rwV i k):=by rw [← em]; exact g4
   have HFS:Hid (∀ v:World,(∀ b,U b→v.heap[b]? = W1.heap[b]?)→v.cell? ⟨wE§,5,none⟩=some (.slice (some ⟨bT,0,none⟩) nT pT)∧v.cell? ⟨bT,i,none⟩=some (.slice aS m pS)):=fun v hv=>⟨(HFA.out v hv).2.2.2,by
    have hr:=HTt.out.1.of_block (w':=v) (fun b hb=>hv b (uT.out b hb).1)
    have:=hr.cell (j:=i) (by omega)
    rw [HT2.out i hi,HSV.out] at this
    exact this⟩
   have uS:Hid (∀ b,(Value.slice aS m pS).ownBlock=some b→U b∧¬ (AA A (.slice aR mR pR) (.slice aC mC pC) (.slice aD mD pD) (.slice (some ⟨bT,0,none⟩) nT pT) nT stV nG rwV i i 0) b):=fun b hb=>by
    rw [← HSV.out] at hb
    exact⟨(HTO.out.uS i hi b hb).1,HTO.out.g_new hi b hb⟩
   clear g1 g2 g3 g4 eS hS0 em
   go_upto_region 8 with fail
   refine cutZ50 (fun z5 z50 z51 z52 z53 z54 z55 z56 z57 z58 z59 z60 z61 z62 z63 z64 z65 z66 z67 z68 z69 z70 z71 z72 z73 z74 z75 z76 z77 z78 z79 z80 z81 z82 z83 z84 z85 z86 z87 z88 z89 z90 z91 z92 z93 z94 z95 z96 z97 z98=>⟨#[zP bk,y1,y2,zP wE§,zI (i:Int),z5,y6,y7,y8,y9,y10,y11,y12,y13,y14,y15,y16,y17,y18,y19,y20,y21,y22,y23,y24,y25,y26,y27,y28,y29,y30,y31,y32,y33,y34,y35,y36,y37,y38,y39,y40,y41,y42,y43,y44,y45,y46,y47,y48,y49,z50,z51,z52,z53,z54,z55,z56,z57,z58,z59,z60,z61,z62,z63,z64,z65,z66,z67,z68,z69,z70,z71,z72,z73,z74,z75,z76,z77,z78,z79,z80,z81,z82,z83,z84,z85,z86,z87,z88,z89,z90,z91,z92,z93,z94,z95,z96,z97,z98],[]⟩) (fun w'=>∃ lI lR lG lW lL,TBs w0 W1 bk U (AA A (.slice aR mR pR) (.slice aC mC pC) (.slice aD mD pD) (.slice (some ⟨bT,0,none⟩) nT pT) nT stV nG rwV (i+1) i 0) (NI+1) (NR+cnt i) ((NG+i)+1) (NW+1) ((NL+1)+1) w' lI lR lG lW lL) (fun HC=>?_) ?_
   ·obtain⟨lI,lR,lG,lW,lL,hT⟩:=HINV.out
    clear HINV
    have hT1:=hT.below (v':=World.drew wr) ⟨rfl,rfl,rfl,Nat.le_refl _,fun _ _=>rfl⟩
    refine wp_region_held_drew (S:=fun v=>∀ b,U b→v.heap[b]? = W1.heap[b]?) zK hT1.same (fun hHeld=>?_)
    obtain⟨V1,eV1⟩:∃ V1,V1=World.drew wr:=⟨_,rfl⟩
    rw [← eV1] at hT1 hHeld ⊢
    clear eV1 hT
    obtain⟨ao,cc,elv⟩:=hT1.G.form
    subst elv
    obtain⟨Vv,nn,CC,k1,k2,k3⟩:=hT1.G
    have HT:=hT1.hid
    have HK1:=zH k1
    have HK2:=zH k2
    have HK3:=zH k3
    have p0:V1.cell? ⟨bk,8,none⟩=some (.slice ao (NG+i) cc):=Co hT1.B 8
    have p1:(V1.alloc (.cells #[.slice aS m pS] 69)).cell? ⟨bk,8,none⟩=some (.slice ao (NG+i) cc):=Co ((hT1.below (Bn V1 _)).B) 8
    have HS1:Hid (∀ b,U b→(V1.alloc (.cells #[.slice aS m pS] 69)).heap[b]? = W1.heap[b]?):=(hT1.below (Bn V1 _)).same
    clear hT1 k1 k2 k3
    refine wpAnyH_take (i:=0) (v:=?_) rfl zK zK zK (fun _ _ _ h=>h) (Or.inl ⟨by rfl,?_⟩) (by assumption) ?_
    rotate_left
    ·(intro v hv; go_simp; try (with_reducible rfl))
    try simp [Act.put]
    refine wpAnyH_take (i:=1) (v:=?_) rfl zK zK zK (fun _ _ _ h=>h) (Or.inl ⟨by rfl,?_⟩) (by assumption) ?_
    rotate_left
    ·(intro v hv; go_simp; try (with_reducible rfl))
    try simp [Act.put]
    refine wpAnyH_take (i:=2) (v:=?_) rfl zK zK zK (fun _ _ _ h=>h) (Or.inl ⟨by rfl,?_⟩) (by assumption) ?_
    rotate_left
    ·(intro v hv; go_simp; try (with_reducible rfl))
    try simp [Act.put]
    refine wpAnyH_take (i:=3) (v:=?_) rfl zK zK zK (fun _ _ _ h=>h) (Or.inl ⟨by rfl,?_⟩) (by assumption) ?_
    rotate_left
    ·(intro v hv; go_simp; try (with_reducible rfl))
    try simp [Act.put]
    refine wpAnyH_take (i:=5) (v:=?_) rfl zK zK zK (fun _ _ _ h=>h) (Or.inl ⟨by rfl,?_⟩) (by assumption) ?_
    rotate_left
    ·(intro v hv; go_simp; try (with_reducible rfl))
    try simp [Act.put]
    refine wpAnyH_take (i:=6) (v:=?_) rfl zK zK zK (fun _ _ _ h=>h) (Or.inl ⟨by rfl,?_⟩) (by assumption) ?_
    rotate_left
    ·(intro v hv; obtain⟨a5,a6⟩:=HFS.out v hv; go_simp; try (with_reducible rfl))
    try simp [Act.put]
    refine wpAnyH_take (i:=7) (v:=?_) rfl zK zK zK (fun _ _ _ h=>h) (Or.inl ⟨by rfl,?_⟩) (by assumption) ?_
    rotate_left
    ·(intro v hv; go_simp; try (with_reducible rfl))
    try simp [Act.put]
    refine wpAnyH_take (i:=8) (v:=?_) rfl zK zK zK (fun _ _ _ h=>h) (Or.inl ⟨by rfl,?_⟩) (by assumption) ?_
    rotate_left
    ·(intro v hv; obtain⟨a5,a6⟩:=HFS.out v hv; go_simp; try (with_reducible rfl))
    try simp [Act.put]
    refine wpAnyH_take (i:=9) (v:=?_) rfl zK zK zK (fun _ _ _ h=>h) (Or.inl ⟨by rfl,?_⟩) (by assumption) ?_
    rotate_left
    ·(intro v hv; obtain⟨a5,a6⟩:=HFS.out v hv; go_simp; try (with_reducible rfl))
    try simp [Act.put]
    refine wpAnyH_ready (rs:=[4,10]) zK (by simp) ?_
    refine AllReadyH.cons rfl (fun K hK=>?_) (AllReadyH.cons rfl (fun K hK=>?_) AllReadyH.nil)
    ·go_simp
     refine hK.out _ _ hHeld (fun hHeld=>?_)
     clear hK K
     try simp [Act.put]
     refine wpAnyH_ready (rs:=[10]) zK (by simp) ?_
     refine AllReadyH.cons rfl (fun K hK=>?_) AllReadyH.nil
     go_simp
     refine hK.out _ _ HS1.out (fun hHeld=>?_)
     clear hK K
     try simp [Act.put]
     refine wpAnyH_ready (rs:=[11]) zK (by simp) ?_
     refine AllReadyH.cons rfl (fun K hK=>?_) AllReadyH.nil
     refine Jk HK1.out.long rfl 24 Tryz.underlying24 infL69 (by omega) rfl (.tmp 61) (.tmp 67) rfl (by simp [Act.eval]) (by simp [Act.eval]) ?_
     intro g cap w' hr hg hq
     obtain⟨hB',hs',hT'⟩:=HT.out.addG HK1.out HK2.out HK3.out HFG.out.1 HFG.out.2.1 HFG.out.2.2 uS.out hr hg hq rfl
     have q0:w'.cell? ⟨bk,8,none⟩=some (.slice ao (NG+i) cc):=Co hB' 8
     have q1:=Fo hB' 8
     have HT':=hT'.hid
     clear hr hg hq hB' hT' p0 p1
     refine hK.out _ _ hs' (fun hHeld=>?_)
     clear hK K
     try simp [Act.put]
     refine wpAnyH_take (i:=12) (v:=?_) rfl zK zK zK (fun _ _ _ h=>h) (Or.inl ⟨by rfl,?_⟩) (by assumption) ?_
     rotate_left
     ·(intro v hv; go_simp; try (with_reducible rfl))
     try simp [Act.put]
     refine wpAnyH_take (i:=13) (v:=?_) rfl zK zK zK (fun _ _ _ h=>h) (Or.inl ⟨by rfl,?_⟩) (by assumption) ?_
     rotate_left
     ·(intro v hv; go_simp; try (with_reducible rfl))
     try simp [Act.put]
     refine wpAnyH_ready (rs:=[14]) zK (by simp) ?_
     refine AllReadyH.cons rfl (fun K hK=>?_) AllReadyH.nil
     go_simp
     refine hK.out _ _ HT'.out.same (fun hHeld=>?_)
     clear hK K
     try simp [Act.put]
     refine wpAnyH_done zK ?_ _
     exact HC.out _ _ _ _ _ _ _ _ _ _ _ _ _ _ _ _ _ _ _ _ _ _ _ _ _ _ _ _ _ _ _ _ _ _ _ _ _ _ _ _ _ _ _ _ _ _ _ _ _ _ _ ⟨_,_,_,_,_,HT'.out.mono (fun b hb=>AA.g_put hi (by rw [HSV.out]; exact hb)) (HTO.out.sub HA.out _ _ _)⟩
    ·go_simp
     refine hK.out _ _ HS1.out (fun hHeld=>?_)
     clear hK K
     try simp [Act.put]
     refine wpAnyH_ready (rs:=[4]) zK (by simp) ?_
     refine AllReadyH.cons rfl (fun K hK=>?_) AllReadyH.nil
     go_simp
     refine hK.out _ _ HS1.out (fun hHeld=>?_)
     clear hK K
     try simp [Act.put]
     refine wpAnyH_ready (rs:=[11]) zK (by simp) ?_
     refine AllReadyH.cons rfl (fun K hK=>?_) AllReadyH.nil
     refine Jk HK1.out.long rfl 24 Tryz.underlying24 infL69 (by omega) rfl (.tmp 61) (.tmp 67) rfl (by simp [Act.eval]) (by simp [Act.eval]) ?_
     intro g cap w' hr hg hq
     obtain⟨hB',hs',hT'⟩:=HT.out.addG HK1.out HK2.out HK3.out HFG.out.1 HFG.out.2.1 HFG.out.2.2 uS.out hr hg hq rfl
     have q0:w'.cell? ⟨bk,8,none⟩=some (.slice ao (NG+i) cc):=Co hB' 8
     have q1:=Fo hB' 8
     have HT':=hT'.hid
     clear hr hg hq hB' hT' p0 p1
     refine hK.out _ _ hs' (fun hHeld=>?_)
     clear hK K
     try simp [Act.put]
     refine wpAnyH_take (i:=12) (v:=?_) rfl zK zK zK (fun _ _ _ h=>h) (Or.inl ⟨by rfl,?_⟩) (by assumption) ?_
     rotate_left
     ·(intro v hv; go_simp; try (with_reducible rfl))
     try simp [Act.put]
     refine wpAnyH_take (i:=13) (v:=?_) rfl zK zK zK (fun _ _ _ h=>h) (Or.inl ⟨by rfl,?_⟩) (by assumption) ?_
     rotate_left
     ·(intro v hv; go_simp; try (with_reducible rfl))
     try simp [Act.put]
     refine wpAnyH_ready (rs:=[14]) zK (by simp) ?_
     refine AllReadyH.cons rfl (fun K hK=>?_) AllReadyH.nil
     go_simp
     refine hK.out _ _ HT'.out.same (fun hHeld=>?_)
     clear hK K
     try simp [Act.put]
     refine wpAnyH_done zK ?_ _
     exact HC.out _ _ _ _ _ _ _ _ _ _ _ _ _ _ _ _ _ _ _ _ _ _ _ _ _ _ _ _ _ _ _ _ _ _ _ _ _ _ _ _ _ _ _ _ _ _ _ _ _ _ _ ⟨_,_,_,_,_,HT'.out.mono (fun b hb=>AA.g_put hi (by rw [HSV.out]; exact hb)) (HTO.out.sub HA.out _ _ _)⟩
   intro z5 z50 z51 z52 z53 z54 z55 z56 z57 z58 z59 z60 z61 z62 z63 z64 z65 z66 z67 z68 z69 z70 z71 z72 z73 z74 z75 z76 z77 z78 z79 z80 z81 z82 z83 z84 z85 z86 z87 z88 z89 z90 z91 z92 z93 z94 z95 z96 z97 z98 Vw8 hI8
   have HI1:=zH hI8
   obtain⟨b5,b6⟩:=HFS.out Vw8 (by obtain⟨lI,lR,lG,lW,lL,hT⟩:=hI8; exact hT.same)
   clear hI8 hbox
   go_wp2
   go_loopw [5] (fun xx wr2=>∃ k:Nat,k≤m∧xx=zI k∧∃ lI lR lG lW lL,TBs w0 W1 bk U (AA A (.slice aR mR pR) (.slice aC mC pC) (.slice aD mD pD) (.slice (some ⟨bT,0,none⟩) nT pT) nT stV nG rwV (i+1) i k) (NI+1) (NR+cnt i+k) ((NG+i)+1) (NW+1) ((NL+1)+1) wr2 lI lR lG lW lL) (fun xx _=>m - (intOf xx).toNat)
   case atStart=>exact⟨0,by omega,rfl,HI1.out⟩
   case round =>
    obtain⟨k,hkm,rfl,hp⟩:=hrel
    clear HI1 b5 b6
    obtain⟨b5,b6⟩:=HFS.out wr (by obtain⟨lI,lR,lG,lW,lL,hT⟩:=hp; exact hT.same)
    have HINV:=zH hp
    clear hp
    by_cases hk:k < m
    ·have hk':(k:Int) < (m:Int):=by omega
     obtain⟨bS,rfl⟩:=HS0.out (by omega)
     have hk2:k < nG i:=by rw [HM.out]; exact hk
     obtain⟨mX,fX,x1,x2,x3⟩:=HTO.out.X i hi k hk2
     obtain⟨aX,pX,eX,_⟩:=x1.form
     have HXV:=zH eX
     have HFX:Hid (RowX W1 85 11 (.slice aX mX pX) mX fX∧oqR fX mX∧mX≤100000000):=⟨by rw [← eX]; exact x1,x2,x3⟩
     have HFR:Hid (∀ v:World,(∀ b,U b→v.heap[b]? = W1.heap[b]?)→v.cell? ⟨wE§,5,none⟩=some (.slice (some ⟨bT,0,none⟩) nT pT)∧v.cell? ⟨bT,i,none⟩=some (.slice (some ⟨bS,0,none⟩) m pS)∧v.cell? ⟨bS,k * 5+4,none⟩=some (.slice aX mX pX)):=fun v hv=>⟨(HFS.out v hv).1,(HFS.out v hv).2,by
      have hr:=HFG.out.1.of_block (w':=v) (fun b hb=>hv b (uS.out b hb).1)
      have:=hr.cell (j:=k * 5+4) (by omega)
      rw [HG4.out k hk,HXV.out] at this
      exact this⟩
     have uX:Hid (∀ b,(Value.slice aX mX pX).ownBlock=some b→U b∧¬ (AA A (.slice aR mR pR) (.slice aC mC pC) (.slice aD mD pD) (.slice (some ⟨bT,0,none⟩) nT pT) nT stV nG rwV (i+1) i k) b):=fun b hb=>by
      rw [← HXV.out] at hb
      exact⟨(HTO.out.uX i hi k hk2 b hb).1,HTO.out.r_new hi hk2 b hb⟩
     have hcn:=HCB.out i hi
     rw [HM.out] at hcn
     clear x1 x2 x3 eX
     go_upto_region 12 with fail
     refine cutZ28 (fun t71 t72 t73 t74 t75 t76 t77 t78 t79 t80 t81 t82 t83 t84 t85 t86 t87 t88 t89 t90 t91 t92 t93 t94 t95 t96 t97 t98=>⟨#[zP bk,y1,y2,zP wE§,zI (i:Int),zI (k:Int),y6,y7,y8,y9,y10,y11,y12,y13,y14,y15,y16,y17,y18,y19,y20,y21,y22,y23,y24,y25,y26,y27,y28,y29,y30,y31,y32,y33,y34,y35,y36,y37,y38,y39,y40,y41,y42,y43,y44,y45,y46,y47,y48,y49,z50,z51,z52,z53,z54,z55,z56,z57,z58,z59,z60,z61,z62,z63,z64,z65,z66,z67,z68,z69,z70,t71,t72,t73,t74,t75,t76,t77,t78,t79,t80,t81,t82,t83,t84,t85,t86,t87,t88,t89,t90,t91,t92,t93,t94,t95,t96,t97,t98],[]⟩) (fun w'=>∃ lI lR lG lW lL,TBs w0 W1 bk U (AA A (.slice aR mR pR) (.slice aC mC pC) (.slice aD mD pD) (.slice (some ⟨bT,0,none⟩) nT pT) nT stV nG rwV (i+1) i (k+1)) (NI+1) ((NR+cnt i+k)+1) ((NG+i)+1) (NW+1) ((NL+1)+1) w' lI lR lG lW lL) (fun HC=>?_) ?_
     ·obtain⟨lI,lR,lG,lW,lL,hT⟩:=HINV.out
      clear HINV
      have hT1:=hT.below (v':=World.drew wr) ⟨rfl,rfl,rfl,Nat.le_refl _,fun _ _=>rfl⟩
      refine wp_region_held_drew (S:=fun v=>∀ b,U b→v.heap[b]? = W1.heap[b]?) zK hT1.same (fun hHeld=>?_)
      obtain⟨V1,eV1⟩:∃ V1,V1=World.drew wr:=⟨_,rfl⟩
      rw [← eV1] at hT1 hHeld ⊢
      clear eV1 hT
      obtain⟨ao,cc,elv⟩:=hT1.R.form
      subst elv
      obtain⟨Vv,nn,CC,k1,k2,k3⟩:=hT1.R
      have HT:=hT1.hid
      have HK1:=zH k1
      have HK2:=zH k2
      have HK3:=zH k3
      have p0:V1.cell? ⟨bk,9,none⟩=some (.slice ao (NR+cnt i+k) cc):=Co hT1.B 9
      have p1:(V1.alloc (.cells #[.slice aX mX pX] 66)).cell? ⟨bk,9,none⟩=some (.slice ao (NR+cnt i+k) cc):=Co ((hT1.below (Bn V1 _)).B) 9
      have HS1:Hid (∀ b,U b→(V1.alloc (.cells #[.slice aX mX pX] 66)).heap[b]? = W1.heap[b]?):=(hT1.below (Bn V1 _)).same
      clear hT1 k1 k2 k3
      refine wpAnyH_take (i:=0) (v:=?_) rfl zK zK zK (fun _ _ _ h=>h) (Or.inl ⟨by rfl,?_⟩) (by assumption) ?_
      rotate_left
      ·(intro v hv; go_simp; try (with_reducible rfl))
      try simp [Act.put]
      refine wpAnyH_take (i:=1) (v:=?_) rfl zK zK zK (fun _ _ _ h=>h) (Or.inl ⟨by rfl,?_⟩) (by assumption) ?_
      rotate_left
      ·(intro v hv; go_simp; try (with_reducible rfl))
      try simp [Act.put]
      refine wpAnyH_take (i:=2) (v:=?_) rfl zK zK zK (fun _ _ _ h=>h) (Or.inl ⟨by rfl,?_⟩) (by assumption) ?_
      rotate_left
      ·(intro v hv; go_simp; try (with_reducible rfl))
      try simp [Act.put]
      refine wpAnyH_take (i:=3) (v:=?_) rfl zK zK zK (fun _ _ _ h=>h) (Or.inl ⟨by rfl,?_⟩) (by assumption) ?_
      rotate_left
      ·(intro v hv; go_simp; try (with_reducible rfl))
      try simp [Act.put]
      refine wpAnyH_take (i:=5) (v:=?_) rfl zK zK zK (fun _ _ _ h=>h) (Or.inl ⟨by rfl,?_⟩) (by assumption) ?_
      rotate_left
      ·(intro v hv; go_simp; try (with_reducible rfl))
      try simp [Act.put]
      refine wpAnyH_take (i:=6) (v:=?_) rfl zK zK zK (fun _ _ _ h=>h) (Or.inl ⟨by rfl,?_⟩) (by assumption) ?_
      rotate_left
      ·(intro v hv; obtain⟨a5,a6,a7⟩:=HFR.out v hv; go_simp; try (with_reducible rfl))
      try simp [Act.put]
      refine wpAnyH_take (i:=7) (v:=?_) rfl zK zK zK (fun _ _ _ h=>h) (Or.inl ⟨by rfl,?_⟩) (by assumption) ?_
      rotate_left
      ·(intro v hv; go_simp; try (with_reducible rfl))
      try simp [Act.put]
      refine wpAnyH_take (i:=8) (v:=?_) rfl zK zK zK (fun _ _ _ h=>h) (Or.inl ⟨by rfl,?_⟩) (by assumption) ?_
      rotate_left
      ·(intro v hv; obtain⟨a5,a6,a7⟩:=HFR.out v hv; go_simp; try (with_reducible rfl))
      try simp [Act.put]
      refine wpAnyH_take (i:=9) (v:=?_) rfl zK zK zK (fun _ _ _ h=>h) (Or.inl ⟨by rfl,?_⟩) (by assumption) ?_
      rotate_left
      ·(intro v hv; obtain⟨a5,a6,a7⟩:=HFR.out v hv; go_simp; try (with_reducible rfl))
      try simp [Act.put]
      refine wpAnyH_take (i:=10) (v:=?_) rfl zK zK zK (fun _ _ _ h=>h) (Or.inl ⟨by rfl,?_⟩) (by assumption) ?_
      rotate_left
      ·(intro v hv; go_simp; try (with_reducible rfl))
      try simp [Act.put]
      refine wpAnyH_take (i:=11) (v:=?_) rfl zK zK zK (fun _ _ _ h=>h) (Or.inl ⟨by rfl,?_⟩) (by assumption) ?_
      rotate_left
      ·(intro v hv; obtain⟨a5,a6,a7⟩:=HFR.out v hv; go_simp; try (with_reducible rfl))
      try simp [Act.put]
      refine wpAnyH_take (i:=12) (v:=?_) rfl zK zK zK (fun _ _ _ h=>h) (Or.inl ⟨by rfl,?_⟩) (by assumption) ?_
      rotate_left
      ·(intro v hv; go_simp; try (with_reducible rfl))
      try simp [Act.put]
      refine wpAnyH_take (i:=13) (v:=?_) rfl zK zK zK (fun _ _ _ h=>h) (Or.inl ⟨by rfl,?_⟩) (by assumption) ?_
      rotate_left
      ·(intro v hv; obtain⟨a5,a6,a7⟩:=HFR.out v hv; go_simp; try (with_reducible rfl))
      try simp [Act.put]
      refine wpAnyH_ready (rs:=[4,14]) zK (by simp) ?_
      refine AllReadyH.cons rfl (fun K hK=>?_) (AllReadyH.cons rfl (fun K hK=>?_) AllReadyH.nil)
      ·go_simp
       refine hK.out _ _ hHeld (fun hHeld=>?_)
       clear hK K
       try simp [Act.put]
       refine wpAnyH_ready (rs:=[14]) zK (by simp) ?_
       refine AllReadyH.cons rfl (fun K hK=>?_) AllReadyH.nil
       go_simp
       refine hK.out _ _ HS1.out (fun hHeld=>?_)
       clear hK K
       try simp [Act.put]
       refine wpAnyH_ready (rs:=[15]) zK (by simp) ?_
       refine AllReadyH.cons rfl (fun K hK=>?_) AllReadyH.nil
       refine Jk HK1.out.long rfl 48 Tryz.underlying48 infL66 (by omega) rfl (.tmp 85) (.tmp 95) rfl (by simp [Act.eval]) (by simp [Act.eval]) ?_
       intro g cap w' hr hg hq
       obtain⟨hB',hs',hT'⟩:=HT.out.addR HK1.out HK2.out HK3.out HFX.out.1 HFX.out.2.1 HFX.out.2.2 uX.out hr hg hq rfl
       have q0:w'.cell? ⟨bk,9,none⟩=some (.slice ao (NR+cnt i+k) cc):=Co hB' 9
       have q1:=Fo hB' 9
       have HT':=hT'.hid
       clear hr hg hq hB' hT' p0 p1
       refine hK.out _ _ hs' (fun hHeld=>?_)
       clear hK K
       try simp [Act.put]
       refine wpAnyH_take (i:=16) (v:=?_) rfl zK zK zK (fun _ _ _ h=>h) (Or.inl ⟨by rfl,?_⟩) (by assumption) ?_
       rotate_left
       ·(intro v hv; go_simp; try (with_reducible rfl))
       try simp [Act.put]
       refine wpAnyH_take (i:=17) (v:=?_) rfl zK zK zK (fun _ _ _ h=>h) (Or.inl ⟨by rfl,?_⟩) (by assumption) ?_
       rotate_left
       ·(intro v hv; go_simp; try (with_reducible rfl))
       try simp [Act.put]
       refine wpAnyH_ready (rs:=[18]) zK (by simp) ?_
       refine AllReadyH.cons rfl (fun K hK=>?_) AllReadyH.nil
       go_simp
       refine hK.out _ _ HT'.out.same (fun hHeld=>?_)
       clear hK K
       try simp [Act.put]
       refine wpAnyH_done zK ?_ _
       exact HC.out _ _ _ _ _ _ _ _ _ _ _ _ _ _ _ _ _ _ _ _ _ _ _ _ _ _ _ _ _ ⟨_,_,_,_,_,HT'.out.mono (fun b hb=>AA.r_put hi hk2 (by rw [HXV.out]; exact hb)) (HTO.out.sub HA.out _ _ _)⟩
      ·go_simp
       refine hK.out _ _ HS1.out (fun hHeld=>?_)
       clear hK K
       try simp [Act.put]
       refine wpAnyH_ready (rs:=[4]) zK (by simp) ?_
       refine AllReadyH.cons rfl (fun K hK=>?_) AllReadyH.nil
       go_simp
       refine hK.out _ _ HS1.out (fun hHeld=>?_)
       clear hK K
       try simp [Act.put]
       refine wpAnyH_ready (rs:=[15]) zK (by simp) ?_
       refine AllReadyH.cons rfl (fun K hK=>?_) AllReadyH.nil
       refine Jk HK1.out.long rfl 48 Tryz.underlying48 infL66 (by omega) rfl (.tmp 85) (.tmp 95) rfl (by simp [Act.eval]) (by simp [Act.eval]) ?_
       intro g cap w' hr hg hq
       obtain⟨hB',hs',hT'⟩:=HT.out.addR HK1.out HK2.out HK3.out HFX.out.1 HFX.out.2.1 HFX.out.2.2 uX.out hr hg hq rfl
       have q0:w'.cell? ⟨bk,9,none⟩=some (.slice ao (NR+cnt i+k) cc):=Co hB' 9
       have q1:=Fo hB' 9
       have HT':=hT'.hid
       clear hr hg hq hB' hT' p0 p1
       refine hK.out _ _ hs' (fun hHeld=>?_)
       clear hK K
       try simp [Act.put]
       refine wpAnyH_take (i:=16) (v:=?_) rfl zK zK zK (fun _ _ _ h=>h) (Or.inl ⟨by rfl,?_⟩) (by assumption) ?_
       rotate_left
       ·(intro v hv; go_simp; try (with_reducible rfl))
       try simp [Act.put]
       refine wpAnyH_take (i:=17) (v:=?_) rfl zK zK zK (fun _ _ _ h=>h) (Or.inl ⟨by rfl,?_⟩) (by assumption) ?_
       rotate_left
       ·(intro v hv; go_simp; try (with_reducible rfl))
       try simp [Act.put]
       refine wpAnyH_ready (rs:=[18]) zK (by simp) ?_
       refine AllReadyH.cons rfl (fun K hK=>?_) AllReadyH.nil
       go_simp
       refine hK.out _ _ HT'.out.same (fun hHeld=>?_)
       clear hK K
       try simp [Act.put]
       refine wpAnyH_done zK ?_ _
       exact HC.out _ _ _ _ _ _ _ _ _ _ _ _ _ _ _ _ _ _ _ _ _ _ _ _ _ _ _ _ _ ⟨_,_,_,_,_,HT'.out.mono (fun b hb=>AA.r_put hi hk2 (by rw [HXV.out]; exact hb)) (HTO.out.sub HA.out _ _ _)⟩
     intro t71 t72 t73 t74 t75 t76 t77 t78 t79 t80 t81 t82 t83 t84 t85 t86 t87 t88 t89 t90 t91 t92 t93 t94 t95 t96 t97 t98 Vw12 hI12
     have HI2:=zH hI12
     clear hI12
     go_wp2
     exact⟨⟨k+1,by omega,by go_num,HI2.out⟩,by simp only [intOf]; omega⟩
    ·obtain rfl:k=m:=by omega
     go_wp2
     refine⟨⟨i+1,by omega,by go_num,?_⟩,by simp only [intOf]; omega⟩
     obtain⟨lI,lR,lG,lW,lL,hT⟩:=HINV.out
     refine⟨lI,lR,lG,lW,lL,?_⟩
     rw [HC1.out i hi,HM.out,← Nat.add_assoc,← Nat.add_assoc]
     exact hT.mono (fun b hb=>AA.turn (by rw [HM.out]; exact hb)) (HTO.out.sub HA.out _ _ _)
  ·obtain rfl:nT=i:=by omega
   go_wp2
   go_end0
   exact⟨⟨_,rfl⟩,HINV.out⟩
end Go.Proofs.YteedmmljahgpjaaGreatDoor
