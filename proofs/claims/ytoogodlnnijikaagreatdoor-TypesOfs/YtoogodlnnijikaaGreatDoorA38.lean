import Derived.Test.YtoogodlnnijikaaGreatDoorA0
import Derived.Test.YtoogodlnnijikaaGreatDoorA28
import Derived.Test.YtoogodlnnijikaaGreatDoorA30
import Derived.Test.YtoogodlnnijikaaGreatDoorA37
import Derived.Test.YtoogodlnnijikaaGreatDoorA27
import Derived.Test.YtoogodlnnijikaaGreatDoorA26
namespace Go.Proofs.YtoogodlnnijikaaGreatDoor
open Go.RowKit
set_option linter.unusedVariables false
set_option linter.unusedSimpArgs false
theorem x9_ofq {S:StratM}(h:X.StratY S):StratZ9 S:=by
 obtain⟨h1,h2,h3,h4,h5⟩:=h
 refine⟨Nat.le_trans h1 (by decide),fun r hr=>Nat.le_trans (h2 r hr) (by decide),Nat.le_trans h3 (by decide),Nat.le_trans h4 (by decide),fun s hs=>?_⟩
 obtain⟨k1,k2⟩:=h5 s hs
 refine⟨Nat.le_trans k1 (by decide),fun r hr=>?_⟩
 obtain⟨l1,l2,l3⟩:=k2 r hr
 refine⟨Nat.le_trans l1 (by decide),Nat.le_trans l2 (by decide),fun d hd=>?_⟩
 obtain⟨y1,y2,y3,y4⟩:=l3 d hd
 exact⟨⟨Nat.le_trans y1 (by decide),Nat.le_trans y2 (by decide),Nat.le_trans y3 (by decide),Nat.le_trans y4 (by decide)⟩,Nat.le_trans y1 (by decide),Nat.le_trans y2 (by decide),Nat.le_trans y3 (by decide),Nat.le_trans y4 (by decide)⟩
structure Ofs (w:World) (S:StratM) (m:Nd) (S':StratM) (m':Nd) (A B lo:Nat) (V:World):Prop where
 b:Below w§ w V
 s:V.heap[w§]? = some (.cells S.vals 27 (0,0))
 n:V.heap[w§+1]? = some (.cells m.vals 48 (0,0))
 x:V.heap[A]? = some (.cells S'.vals 27 (0,0))
 y:V.heap[B]? = some (.cells m'.vals 48 (0,0))
 ls:LntS V lo S'
 ln:Lnt V lo m'
theorem Ofs.on {w:World}{S:StratM}{m:Nd}{S':StratM}{m':Nd}{A B lo:Nat}{V V':World}(h:Ofs w S m S' m' A B lo V) (k:Below V§ V V'):Ofs w S m S' m' A B lo V' :=
 ⟨below2 h.b k,(k.block _ (Array.getElem?_eq_some_iff.1 h.s).1).trans h.s,(k.block _ (Array.getElem?_eq_some_iff.1 h.n).1).trans h.n,(k.block _ (Array.getElem?_eq_some_iff.1 h.x).1).trans h.x,(k.block _ (Array.getElem?_eq_some_iff.1 h.y).1).trans h.y,h.ls.on k,h.ln.on k⟩
theorem ofE_tr {S S':StratM}{m m':Nd}(h:S'.tr=S.tr) (k:treeOf m'=treeOf m):ofE S' m'=ofE S m:=by
 rw [← ofE_b S' m',← ofE_b S m,bStr_tr,bStr_tr,h]
 unfold bare
 rw [k]
set_option maxRecDepth 100000 in
set_option maxHeartbeats 16000000 in
theorem ofs15 (S:StratM) (m:Nd) (w:World) (hl:StratL w S) (hm:Lies w m) (ht:Tab w) (hf:FTab w) (hg:Ety w) :
  Calls zG 4 #[.agg S.vals,.agg m.vals] w fun e w'=>e=.returned (.bool true)∧Below w§ w w':=by
 have HH:Hid (StratL w S∧Lies w m∧Tab w∧FTab w∧Ety w):=⟨hl,hm,ht,hf,hg⟩
 have e2:=below_two w (.cells S.vals 27) (.cells m.vals 48)
 have n1:((w.alloc (.cells S.vals 27)).alloc (.cells m.vals 48)).heap[w§]? = some (.cells S.vals 27 (0,0)):=heap_old (heap_new _ _) (by rw [size_alloc]; omega)
 have n2:((w.alloc (.cells S.vals 27)).alloc (.cells m.vals 48)).heap[w§+1]? = some (.cells m.vals 48 (0,0)):=by rw [← size_alloc w (.cells S.vals 27)]; exact heap_new _ _
 obtain⟨V,eV⟩:∃ V,(w.alloc (.cells S.vals 27)).alloc (.cells m.vals 48)=V:=⟨_,rfl⟩
 rw [eV] at e2 n1 n2
 have HV:Hid ((w.alloc (.cells S.vals 27)).alloc (.cells m.vals 48)=V):=eV
 have HB0:Hid (Below w§ w V):=e2
 have HN0:Hid (V.heap[w§]? = some (.cells S.vals 27 (0,0))):=n1
 have HM0:Hid (V.heap[w§+1]? = some (.cells m.vals 48 (0,0))):=n2
 have c1:=awake_any V (ht.on e2) (hf.on e2) (hg.on e2)
 clear hl hm ht hf hg e2 n1 n2 eV
 go_enter Tryz.func4,Tryz.ntmps4
 go_upto_region 1 with fail
 rw [HV.out]
 go_wp2_with fail
 refine c1.mono ?_
 rintro e w1 ⟨rfl,hb⟩
 have HB1:Hid (Below w§ w w1):=below2 HB0.out hb
 have HN1:Hid (w1.heap[w§]? = some (.cells S.vals 27 (0,0))):=(hb.block _ (Array.getElem?_eq_some_iff.1 HN0.out).1).trans HN0.out
 have HM1:Hid (w1.heap[w§+1]? = some (.cells m.vals 48 (0,0))):=(hb.block _ (Array.getElem?_eq_some_iff.1 HM0.out).1).trans HM0.out
 have c2:=X.far_any S m w1 (HH.out.1.on HB1.out) (HH.out.2.1.on HB1.out)
 clear c1 hb HN0 HM0 HB0 HV
 go_wp2_with (first | (refine wpList_load_row rfl 27 (.tmp 2) rfl w§ rfl 27 S.vals (0,0) _ HN1.out Tryz.underlying27 rfl X.size26s ?_) | (refine wpList_load_row rfl 48 (.tmp 3) rfl (w§+1) rfl 48 m.vals (0,0) _ HM1.out Tryz.underlying48 rfl X.sizeN ?_))
 refine c2.mono ?_
 rintro e w3 ⟨⟨f,rfl,hf⟩,hb⟩
 have HB3:Hid (Below w§ w w3):=below2 HB1.out hb
 have HN3:Hid (w3.heap[w§]? = some (.cells S.vals 27 (0,0))):=(hb.block _ (Array.getElem?_eq_some_iff.1 HN1.out).1).trans HN1.out
 have HM3:Hid (w3.heap[w§+1]? = some (.cells m.vals 48 (0,0))):=(hb.block _ (Array.getElem?_eq_some_iff.1 HM1.out).1).trans HM1.out
 clear c2 hb HN1 HM1 HB1
 cases f with
 | true =>
  clear hf
  go_wp2_with fail
  go_ret
  exact⟨rfl,HB3.out⟩
 | false =>
  have HY:Hid (StratZ9 S∧size m≤1048576):=⟨x9_ofq (hf rfl).1,(hf rfl).2⟩
  clear hf
  have c4:=lendStrat_any S w3 (HH.out.1.on HB3.out) HY.out.1
  go_upto_region 6 with (first | (refine wpList_load_row rfl 27 (.tmp 2) rfl w§ rfl 27 S.vals (0,0) _ HN3.out Tryz.underlying27 rfl X.size26s ?_) | (go_at_call 14; refine c4.mono ?_; rintro _ u ⟨S',rfl,hls,htr,hb⟩) | (refine wpList_store_row rfl 27 (.tmp 7) (.tmp 28) rfl u§ S'.vals rfl rfl 27 #[.string ⟨#[]⟩,.slice none 0 0,.slice none 0 0,.slice none 0 0] (heap_new _ _) size27s rfl (by simp [StratM.vals,Value.oneCell']) ?_))
  have HBu:Hid (Below w§ w ((u.alloc (.cells #[.string ⟨#[]⟩,.slice none 0 0,.slice none 0 0,.slice none 0 0] 27)).setRow u§ S'.vals)):=by
   have h2:Below u§ u ((u.alloc (.cells #[.string ⟨#[]⟩,.slice none 0 0,.slice none 0 0,.slice none 0 0] 27)).setRow u§ S'.vals):=below_row (below_new _ _) (Nat.le_refl _) _
   exact below2 (below2 HB3.out hb) h2
  have HX:Hid (((u.alloc (.cells #[.string ⟨#[]⟩,.slice none 0 0,.slice none 0 0,.slice none 0 0] 27)).setRow u§ S'.vals).heap[u§]? = some (.cells S'.vals 27 (0,0))∧LntS ((u.alloc (.cells #[.string ⟨#[]⟩,.slice none 0 0,.slice none 0 0,.slice none 0 0] 27)).setRow u§ S'.vals) w3§ S'∧S'.tr=S.tr):=by
   have h2:Below u§ u ((u.alloc (.cells #[.string ⟨#[]⟩,.slice none 0 0,.slice none 0 0,.slice none 0 0] 27)).setRow u§ S'.vals):=below_row (below_new _ _) (Nat.le_refl _) _
   exact⟨setRow_heap _ _ _ _ _ _ (heap_new _ _),hls.on h2,htr⟩
  have HSM:Hid (((u.alloc (.cells #[.string ⟨#[]⟩,.slice none 0 0,.slice none 0 0,.slice none 0 0] 27)).setRow u§ S'.vals).heap[w§]? = some (.cells S.vals 27 (0,0))∧((u.alloc (.cells #[.string ⟨#[]⟩,.slice none 0 0,.slice none 0 0,.slice none 0 0] 27)).setRow u§ S'.vals).heap[w§+1]? = some (.cells m.vals 48 (0,0))):=by
   have h2:Below u§ u ((u.alloc (.cells #[.string ⟨#[]⟩,.slice none 0 0,.slice none 0 0,.slice none 0 0] 27)).setRow u§ S'.vals):=below_row (below_new _ _) (Nat.le_refl _) _
   have h3:Below w3§ w3 ((u.alloc (.cells #[.string ⟨#[]⟩,.slice none 0 0,.slice none 0 0,.slice none 0 0] 27)).setRow u§ S'.vals):=below2 hb h2
   exact⟨(h3.block _ (Array.getElem?_eq_some_iff.1 HN3.out).1).trans HN3.out,(h3.block _ (Array.getElem?_eq_some_iff.1 HM3.out).1).trans HM3.out⟩
  have HLO:Hid (w3§≤u§):=hb.size
  clear c4 hls htr hb HN3 HM3
  generalize World.setRow _ _ _=U at HBu HX HSM ⊢
  generalize u§=A at HX HLO ⊢
  have c5:=lend_any m U (HH.out.2.1.on HBu.out) (by have:=HY.out.2; omega)
  go_upto_region 7 with (first | (refine wpList_load_row rfl 48 (.tmp 3) rfl (w§+1) rfl 48 m.vals (0,0) _ HSM.out.2 Tryz.underlying48 rfl X.sizeN ?_) | (go_at_call 15; refine c5.mono ?_; rintro _ z ⟨m',rfl,hln,htn,hb⟩) | (refine wpList_store_row rfl 48 (.tmp 8) (.tmp 30) rfl z§ m'.vals rfl rfl 48 zNo (heap_new _ _) X.sizeN rfl (all8 m') ?_))
  have HO:Hid (Ofs w S m S' m' A z§ w3§ ((z.alloc (.cells zNo 48)).setRow z§ m'.vals)):=by
   have h2:Below z§ z ((z.alloc (.cells zNo 48)).setRow z§ m'.vals):=below_row (below_new _ _) (Nat.le_refl _) _
   have h3:=below2 hb h2
   have hsz:=(below2 HB3.out (Below.refl _ _)).size
   exact⟨below2 HBu.out h3,(h3.block _ (Array.getElem?_eq_some_iff.1 HSM.out.1).1).trans HSM.out.1,(h3.block _ (Array.getElem?_eq_some_iff.1 HSM.out.2).1).trans HSM.out.2,(h3.block _ (Array.getElem?_eq_some_iff.1 HX.out.1).1).trans HX.out.1,setRow_heap _ _ _ _ _ _ (heap_new _ _),HX.out.2.1.on h3,(hln.lo (by have:=(Array.getElem?_eq_some_iff.1 HX.out.1).1; have:=HLO.out; omega)).on h2⟩
  have HTR:Hid (S'.tr=S.tr∧treeOf m'=treeOf m):=⟨HX.out.2.2,htn⟩
  clear c5 hln htn hb HX HSM HBu HLO
  generalize World.setRow _ _ _=U1 at HO ⊢
  generalize z§=B at HO ⊢
  generalize w3§=lo at HO
  have HE:Hid (ofE S' m'=ofE S m):=ofE_tr HTR.out.1 HTR.out.2
  have HTT:Hid (Tab w∧FTab w∧Ety w):=HH.out.2.2
  have c6:=of_any S' m' U1 HO.out.ls.lies HO.out.ln.lies (by rw [size_tr HTR.out.2]; have:=HY.out.2; omega) (HTT.out.1.on HO.out.b) (HTT.out.2.1.on HO.out.b)
  rw [HE.out] at c6
  go_upto_region 8 with (first | (refine wpList_load_row rfl 27 (.tmp 7) rfl A rfl 27 S'.vals (0,0) _ HO.out.x Tryz.underlying27 rfl X.size26s ?_) | (refine wpList_load_row rfl 48 (.tmp 8) rfl B rfl 48 m'.vals (0,0) _ HO.out.y Tryz.underlying48 rfl X.sizeN ?_) | (go_at_call 16; refine c6.mono ?_; rintro _ U2 (⟨t1,h1,rfl,hb⟩ | ⟨p1,no1,F1,h1,rfl,_,hF,hb⟩)))
  ·have HO2:Hid (Ofs w S m S' m' A B lo U2):=HO.out.on hb
   have H1:Hid (ofE S m=.ok t1):=h1
   have c7:Calls zG 10 #[.nilIface] U2 fun e w'=>e=.returned (.tuple #[zI 0,zI 0])∧Below U2§ U2 w':=by
    refine (pwrong_nil U2).mono ?_
    rintro e w' ⟨rfl,rfl⟩
    exact⟨rfl,Below.refl _ _⟩
   clear hb h1
   go_upto_region 9 with (go_at_call 10; refine c7.mono ?_; rintro _ U3 ⟨rfl,hb⟩)
   have HO3:Hid (Ofs w S m S' m' A B lo U3):=HO2.out.on hb
   clear hb c7
   have c8:=rof_any S m U3 (HH.out.1.on HO3.out.b) (HH.out.2.1.on HO3.out.b) (by have:=HY.out.2; omega)
   have c8':Calls zG 17 #[.agg S.vals,.agg m.vals] U3 fun e w'=>∃ B1,e=.returned (.tuple #[zU t1,.agg #[zI 0,zI 0,.bool B1]])∧Below U3§ U3 w':=by
    refine c8.mono ?_
    rintro e w' ⟨t,E,P,B1,rfl,hF,hb⟩
    unfold FlO at hF
    rw [H1.out] at hF
    rcases hF with ⟨e1,e2,e3,_⟩ | ⟨e1,e2,_,e3⟩
    ·cases e1; subst e2 e3; exact⟨B1,rfl,hb⟩
    ·cases e1
   clear c8
   go_upto_region 10 with (first | (refine wpList_load_row rfl 27 (.tmp 2) rfl w§ rfl 27 S.vals (0,0) _ HO3.out.s Tryz.underlying27 rfl X.size26s ?_) | (refine wpList_load_row rfl 48 (.tmp 3) rfl (w§+1) rfl 48 m.vals (0,0) _ HO3.out.n Tryz.underlying48 rfl X.sizeN ?_) | (go_at_call 17; refine c8'.mono ?_; rintro _ U4 ⟨B1,rfl,hb⟩))
   have hb5:=below2 hb (below_new U4 (.cells #[zI 0,zI 0,.bool B1] 39))
   have HO5:Hid (Ofs w S m S' m' A B lo (U4.alloc (.cells #[zI 0,zI 0,.bool B1] 39))):=HO3.out.on hb5
   have HF5:Hid ((U4.alloc (.cells #[zI 0,zI 0,.bool B1] 39)).heap[U4§]? = some (.cells #[zI 0,zI 0,.bool B1] 39 (0,0))):=heap_new _ _
   clear hb hb5 c8'
   generalize World.alloc U4 _=U5 at HO5 HF5 ⊢
   generalize U4§=C at HF5 ⊢
   have c9:=wholeStrat_any S' S U5 lo HO5.out.ls (HH.out.1.on HO5.out.b) HTR.out.1 HY.out.1
   go_upto_region 11 with (first | (refine wpList_load_row rfl 27 (.tmp 7) rfl A rfl 27 S'.vals (0,0) _ HO5.out.x Tryz.underlying27 rfl X.size26s ?_) | (refine wpList_load_row rfl 27 (.tmp 2) rfl w§ rfl 27 S.vals (0,0) _ HO5.out.s Tryz.underlying27 rfl X.size26s ?_) | (go_at_call 18; refine c9.mono ?_; rintro _ U6 ⟨rfl,hb⟩))
   have HO6:Hid (Ofs w S m S' m' A B lo U6):=HO5.out.on hb
   have HF6:Hid (U6.heap[C]? = some (.cells #[zI 0,zI 0,.bool B1] 39 (0,0))):=(hb.block _ (Array.getElem?_eq_some_iff.1 HF5.out).1).trans HF5.out
   clear hb c9 HF5
   have cA:=whole_any m' m U6 lo HO6.out.ln (HH.out.2.1.on HO6.out.b) HTR.out.2
   go_upto_region 12 with (first | (refine wpList_load_row rfl 48 (.tmp 8) rfl B rfl 48 m'.vals (0,0) _ HO6.out.y Tryz.underlying48 rfl X.sizeN ?_) | (refine wpList_load_row rfl 48 (.tmp 3) rfl (w§+1) rfl 48 m.vals (0,0) _ HO6.out.n Tryz.underlying48 rfl X.sizeN ?_) | (go_at_call 19; refine cA.mono ?_; rintro _ U7 ⟨rfl,hb⟩))
   have HB7:Hid (Below w§ w U7):=below2 HO6.out.b hb
   have g0:U7.cell? ⟨C,0,none⟩=some (zI 0):=cell_of ((hb.block _ (Array.getElem?_eq_some_iff.1 HF6.out).1).trans HF6.out) 0
   have g1:U7.cell? ⟨C,1,none⟩=some (zI 0):=cell_of ((hb.block _ (Array.getElem?_eq_some_iff.1 HF6.out).1).trans HF6.out) 1
   clear hb cA HF6
   go_wp2
   go_ret
   exact⟨rfl,HB7.out⟩
  ·have HO2:Hid (Ofs w S m S' m' A B lo U2):=HO.out.on hb
   have H1:Hid (ofE S m=.error (p1,no1)):=h1
   have c7:=pwrong_any hF.er (HTT.out.2.2.on HO2.out.b)
   clear hb h1 hF
   go_upto_region 9 with (go_at_call 10; refine c7.mono ?_; rintro _ U3 ⟨rfl,hb⟩)
   have HO3:Hid (Ofs w S m S' m' A B lo U3):=HO2.out.on hb
   clear hb c7
   have c8:=rof_any S m U3 (HH.out.1.on HO3.out.b) (HH.out.2.1.on HO3.out.b) (by have:=HY.out.2; omega)
   have c8':Calls zG 17 #[.agg S.vals,.agg m.vals] U3 fun e w'=>∃ B1,e=.returned (.tuple #[zU 0,.agg #[zI no1,zI p1,.bool B1]])∧¬ no1=0∧Below U3§ U3 w':=by
    refine c8.mono ?_
    rintro e w' ⟨t,E,P,B1,rfl,hF,hb⟩
    unfold FlO at hF
    rw [H1.out] at hF
    rcases hF with ⟨e1,e2,e3,_⟩ | ⟨e1,e2,_,e3⟩
    ·cases e1
    ·cases e1; subst e2; exact⟨B1,rfl,e3,hb⟩
   clear c8
   go_upto_region 10 with (first | (refine wpList_load_row rfl 27 (.tmp 2) rfl w§ rfl 27 S.vals (0,0) _ HO3.out.s Tryz.underlying27 rfl X.size26s ?_) | (refine wpList_load_row rfl 48 (.tmp 3) rfl (w§+1) rfl 48 m.vals (0,0) _ HO3.out.n Tryz.underlying48 rfl X.sizeN ?_) | (go_at_call 17; refine c8'.mono ?_; rintro _ U4 ⟨B1,rfl,hne,hb⟩))
   have hb5:=below2 hb (below_new U4 (.cells #[zI no1,zI p1,.bool B1] 39))
   have HO5:Hid (Ofs w S m S' m' A B lo (U4.alloc (.cells #[zI no1,zI p1,.bool B1] 39))):=HO3.out.on hb5
   have HF5:Hid ((U4.alloc (.cells #[zI no1,zI p1,.bool B1] 39)).heap[U4§]? = some (.cells #[zI no1,zI p1,.bool B1] 39 (0,0))):=heap_new _ _
   clear hb hb5 c8'
   generalize World.alloc U4 _=U5 at HO5 HF5 ⊢
   generalize U4§=C at HF5 ⊢
   have c9:=wholeStrat_any S' S U5 lo HO5.out.ls (HH.out.1.on HO5.out.b) HTR.out.1 HY.out.1
   go_upto_region 11 with (first | (refine wpList_load_row rfl 27 (.tmp 7) rfl A rfl 27 S'.vals (0,0) _ HO5.out.x Tryz.underlying27 rfl X.size26s ?_) | (refine wpList_load_row rfl 27 (.tmp 2) rfl w§ rfl 27 S.vals (0,0) _ HO5.out.s Tryz.underlying27 rfl X.size26s ?_) | (go_at_call 18; refine c9.mono ?_; rintro _ U6 ⟨rfl,hb⟩))
   have HO6:Hid (Ofs w S m S' m' A B lo U6):=HO5.out.on hb
   have HF6:Hid (U6.heap[C]? = some (.cells #[zI no1,zI p1,.bool B1] 39 (0,0))):=(hb.block _ (Array.getElem?_eq_some_iff.1 HF5.out).1).trans HF5.out
   clear hb c9 HF5
   have cA:=whole_any m' m U6 lo HO6.out.ln (HH.out.2.1.on HO6.out.b) HTR.out.2
   go_upto_region 12 with (first | (refine wpList_load_row rfl 48 (.tmp 8) rfl B rfl 48 m'.vals (0,0) _ HO6.out.y Tryz.underlying48 rfl X.sizeN ?_) | (refine wpList_load_row rfl 48 (.tmp 3) rfl (w§+1) rfl 48 m.vals (0,0) _ HO6.out.n Tryz.underlying48 rfl X.sizeN ?_) | (go_at_call 19; refine cA.mono ?_; rintro _ U7 ⟨rfl,hb⟩))
   have HB7:Hid (Below w§ w U7):=below2 HO6.out.b hb
   have g0:U7.cell? ⟨C,0,none⟩=some (zI no1):=cell_of ((hb.block _ (Array.getElem?_eq_some_iff.1 HF6.out).1).trans HF6.out) 0
   have g1:U7.cell? ⟨C,1,none⟩=some (zI p1):=cell_of ((hb.block _ (Array.getElem?_eq_some_iff.1 HF6.out).1).trans HF6.out) 1
   clear hb cA HF6
   have hn0:(no1 == 0)=false:=beq_false_of_ne hne
   go_wp2
   go_ret
   exact⟨rfl,HB7.out⟩
end Go.Proofs.YtoogodlnnijikaaGreatDoor
