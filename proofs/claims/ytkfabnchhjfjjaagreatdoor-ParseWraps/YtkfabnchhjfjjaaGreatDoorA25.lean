import Derived.Test.YtkfabnchhjfjjaaGreatDoorA0
import Derived.Test.YtkfabnchhjfjjaaGreatDoorA24
import Derived.Test.YtkfabnchhjfjjaaGreatDoorA10
namespace Go.Proofs.YtkfabnchhjfjjaaGreatDoor
set_option maxRecDepth 100000
set_option maxHeartbeats 4000000
open Go.RowKit
set_option linter.unusedVariables false
theorem size50:(Tryz.prog.info? 50).map (·.size)=some 3:=by kernel_rfl
def nul4:Array Value:=#[.string ⟨#[]⟩,.slice none 0 0,.slice none 0 0,.slice none 0 0]
def OutStr (s:ByteArray) (w:World) (e:Ending) (w':World):Prop :=
 (match sWhole s with
 | .ok _=>∃ cs:Array Value,cs.size=4∧cs.all (·.oneCell')=true∧e=.returned (.tuple #[.agg cs,.agg #[zI 0,zI 0,.bool false]])
 | .error f=>(ftT s f).1≠0∧e=.returned (.tuple #[.agg nul4,.agg #[zI (ftT s f).1,zI (ftT s f).2.1,.bool (ftT s f).2.2]]))∧Below w§ w w'
theorem fin4 {U:World}{b:Nat}{a0 a1 a2 a3:Value}(h:U.heap[b]? = some (.cells #[a0,a1,a2,a3] 43 (0,0))) (v0 v1 v2 v3:Value) :
  ∃ Y,((((U.setCell ⟨b,0,none⟩ v0).setCell ⟨b,1,none⟩ v1).setCell ⟨b,2,none⟩ v2).setCell ⟨b,3,none⟩ v3)=Y∧Y.heap[b]? = some (.cells #[v0,v1,v2,v3] 43 (0,0))∧Y§=U§∧(∀ k,k≠b→Y.heap[k]? = U.heap[k]?)∧(∀ (w:World) (F:Nat→Prop),Mv w U F→w§≤b→Mv w Y F):=by
 have h1:(U.setCell ⟨b,0,none⟩ v0).heap[b]? = some (.cells #[v0,a1,a2,a3] 43 (0,0)):=Hs0 v0 h
 have h2:((U.setCell ⟨b,0,none⟩ v0).setCell ⟨b,1,none⟩ v1).heap[b]? = some (.cells #[v0,v1,a2,a3] 43 (0,0)):=Hs0 v1 h1
 have h3:(((U.setCell ⟨b,0,none⟩ v0).setCell ⟨b,1,none⟩ v1).setCell ⟨b,2,none⟩ v2).heap[b]? = some (.cells #[v0,v1,v2,a3] 43 (0,0)):=Hs0 v2 h2
 refine⟨_,rfl,Hs0 v3 h3,by simp [World.setCell],fun k hk=>?_,fun w F m hb=>(((m.setCell (a:=⟨b,0,none⟩) (.inr hb) v0).setCell (a:=⟨b,1,none⟩) (.inr hb) v1).setCell (a:=⟨b,2,none⟩) (.inr hb) v2).setCell (a:=⟨b,3,none⟩) (.inr hb) v3⟩
 iterate 4 (refine (Below.heap_setCell _ _ _ _ (show k≠b from hk)).trans ?_)
 rfl
theorem below_row {w V:World}(h:Below w§ w V) {R:Nat}(hR:w§≤R) (cs:Array Value):Below w§ w (V.setRow R cs):=by
 have m:Mv w V (fun _=>False):=Mv.ofBelow h
 have hsz:(V.setRow R cs)§=V§:=by unfold World.setRow; simp
 have m2:Mv w (V.setRow R cs) (fun _=>False):=⟨m.os,m.tape,m.output,by rw [hsz]; exact m.size,fun k hk hn'=>by
  rw [setRow_oth _ _ _ (show k≠R by omega)]
  exact m.block k hk hn'⟩
 exact m2.below (Nat.le_refl _) (fun _ e=>e.elim)
structure XS (w:World) (V:World):Prop where
 B:Below w§ w V
 z:V.heap[w§]? = some (.cells #[.string ⟨#[]⟩,.slice none 0 0,.slice none 0 0,.slice none 0 0] 43 (0,0))
 f:V.heap[w§+1]? = some (.cells #[zI 0,zI 0,.bool false] 50 (0,0))
theorem XS.hid {w V:World}(h:XS w V):Hid (XS w V):=h
theorem XS.new (w:World):XS w ((w.alloc (.cells zA9 43)).alloc (.cells zA12 50)):=by
 have b1:=Bn w (.cells zA9 43)
 have s1:=Sa w (.cells zA9 43)
 have n1:=Hn w (.cells zA9 43)
 have b2:=Bn (w.alloc (.cells zA9 43)) (.cells zA12 50)
 have n2:=Hn (w.alloc (.cells zA9 43)) (.cells zA12 50)
 rw [s1] at n2
 exact⟨B2 b1 b2,(b2.block _ (by omega)).trans n1,n2⟩
theorem XS.mv {w V V':World}(h:XS w V) {F:Nat→Prop}(m:Mv V V' F) (hF:∀ k,F k→w§+1 < k):XS w V':=by
 have hz:=(Array.getElem?_eq_some_iff.1 h.z).1
 have hf:=(Array.getElem?_eq_some_iff.1 h.f).1
 have hs:=h.B.size
 refine⟨?_,(m.block _ hz (fun e=>by have:=hF _ e; omega)).trans h.z,(m.block _ hf (fun e=>by have:=hF _ e; omega)).trans h.f⟩
 have m1:Mv w V (fun k=>w§+1 < k):=Mv.ofBelow h.B
 exact (m1.trans m (fun k e=>.inl (hF k e))).below (Nat.le_refl _) (fun k e=>by omega)
theorem XS.on {w V V':World}(h:XS w V) (k:Below V§ V V'):XS w V':=h.mv (F:=fun _=>False) (Mv.ofBelow k) (fun _ e=>e.elim)
theorem SpX.on {w w':World}{b:Nat}{K:PK}{s:St}(h:SpX w b K s) (hW:Lw w§ b K) (k:Below w§ w w'):SpX w' b K s:=h.off hW (fun j hj=>k.block j hj)
theorem stratX (s:ByteArray) (w:World):Calls zG 11 #[.string s] w (OutStr s w):=by
 have HX:=(XS.new w).hid
 obtain⟨W0,eW0⟩:∃ W,(w.alloc (.cells zA9 43)).alloc (.cells zA12 50)=W:=⟨_,rfl⟩
 rw [eW0] at HX
 have cB:=begin_d s W0
 have HEW:=zH eW0
 clear eW0
 go_enter Tryz.func11,Tryz.ntmps11
 go_wp2_with fail
 try rw [HEW.out]
 refine cB.mono ?_
 rintro e w1 ⟨b,K,rfl,hb,hs,hK,hgd,hT,hE,hB⟩
 have HX1:=(HX.out.on hB).hid
 have hz0:=(Array.getElem?_eq_some_iff.1 HX.out.f).1
 have HB1:Hid (w§+1 < b):=by show _ < _; omega
 have HLW:Hid (Lw w1§ b K):=hs.lw
 have HE:=zH hE
 have cW:=whole_g ⟨hK,hgd⟩ hs
 obtain⟨s2,es2⟩:∃ q,sWhole s=q:=⟨_,rfl⟩
 have HS2:Hid (sWhole s=s2):=es2
 rw [show dEnd (dBody (nf (rdT s)))=s2 from es2] at cW
 clear cB hb hs hK hgd hT hE hB hz0 HX HEW es2
 go_wp2_with fail
 refine cW.mono ?_
 rintro e w2 ⟨cs,rfl,hcs1,hcs2,hs,hm⟩
 have HCS:Hid (cs.size=4∧cs.all (·.oneCell')=true):=⟨hcs1,hcs2⟩
 have hn:=Bn w2 (.cells zA9 43)
 have hN:=Hn w2 (.cells zA9 43)
 have hX2:=(HX1.out.mv hm (fun k e=>by rw [e]; exact HB1.out)).on hn
 have hz1:w§+1 < w1§:=(Array.getElem?_eq_some_iff.1 HX1.out.f).1
 have hLW2:Lw w2§ b K:=HLW.out.mono hm.size
 have HSP:Hid (SpX ((w2.alloc (.cells zA9 43)).setRow w2§ cs) b K s2):=(hs.on hLW2 hn).off hLW2 (fun k hk=>setRow_oth _ _ _ (by omega))
 have HZ:=zH hN
 have HN4:Hid (((w2.alloc (.cells zA9 43)).setRow w2§ cs).heap[w2§]? = some (.cells cs 43 (0,0))):=setRow_heap _ _ _ _ _ _ hN
 have HX3:Hid (XS w ((w2.alloc (.cells zA9 43)).setRow w2§ cs)):=by
  have h1:=hm.size
  have h2:=HX1.out.B.size
  exact⟨below_row hX2.B (by omega) cs,(setRow_oth _ _ _ (by omega)).trans hX2.z,(setRow_oth _ _ _ (by omega)).trans hX2.f⟩
 have HQ:Hid (w§+1 < w2§):=by have:=hm.size; show _ < _; omega
 clear cW hs hm hn hN hX2 hz1 hLW2 HX1 hcs1 hcs2
 go_upto_region 3 with (refine wpList_store_row rfl 43 (.tmp 5) (.tmp 9) rfl w2§ cs rfl rfl 43 zA9 HZ.out (by rw [HCS.out.1]; exact size43) (by rw [HCS.out.1]; rfl) HCS.out.2 ?_)
 generalize hW3:World.setRow _ _ _=w3
 have HSP:Hid (SpX w3 b K s2):=by rw [← hW3]; exact HSP.out
 have HN4:Hid (w3.heap[w2§]? = some (.cells cs 43 (0,0))):=by rw [← hW3]; exact HN4.out
 have HX3:Hid (XS w w3):=by rw [← hW3]; exact HX3.out
 obtain⟨N5,eN5⟩:∃ q,w2§=q:=⟨_,rfl⟩
 rw [eN5] at HN4 HQ ⊢
 clear eN5 HZ hW3
 cases s2 with
 | ok ts =>
  obtain⟨i,p,u,hp,_⟩:Lv w3 b K ts:=HSP.out
  have cO:=over_no hp
  clear hp
  go_wp2_with fail
  refine cO.mono ?_
  rintro e w4 ⟨rfl,e9⟩
  obtain rfl:=e9.symm
  clear cO e9
  have HY1:Hid ((w3.setRow w§ cs).heap[w§]? = some (.cells cs 43 (0,0))∧(w3.setRow w§ cs).heap[w§+1]? = some (.cells zA12 50 (0,0))∧Below w§ w (w3.setRow w§ cs)):=⟨setRow_heap _ _ _ _ _ _ HX3.out.z,(setRow_oth _ _ _ (by omega)).trans HX3.out.f,below_row HX3.out.B (Nat.le_refl _) cs⟩
  have HY2:Hid (((w3.setRow w§ cs).setRow (w§+1) zA12).heap[w§]? = some (.cells cs 43 (0,0))∧((w3.setRow w§ cs).setRow (w§+1) zA12).heap[w§+1]? = some (.cells zA12 50 (0,0))∧Below w§ w ((w3.setRow w§ cs).setRow (w§+1) zA12)):=⟨(setRow_oth _ _ _ (by omega)).trans HY1.out.1,setRow_heap _ _ _ _ _ _ HY1.out.2.1,below_row HY1.out.2.2 (by omega) _⟩
  go_wp2_with (first | (refine wpList_load_row rfl 43 (.tmp 5) rfl N5 rfl 43 cs (0,0) _ HN4.out Tryz.underlying43 rfl (by rw [HCS.out.1]; exact size43) ?_) | (refine wpList_store_row rfl 43 (.tmp 2) (.tmp 17) rfl w§ cs rfl rfl 43 _ HX3.out.z (by rw [HCS.out.1]; exact size43) (by rw [HCS.out.1]; rfl) HCS.out.2 ?_) | (refine wpList_store_row rfl 50 (.tmp 3) (.tmp 18) rfl (w§+1) zA12 rfl rfl 50 _ HY1.out.2.1 size50 rfl (by simp [Value.oneCell']) ?_))
  refine bodyPost_ret (results_cc rfl _ _ w§ (w§+1) 43 50 cs zA12 (0,0) (0,0) _ _ rfl HY2.out.1 Tryz.underlying43 rfl (by rw [HCS.out.1]; exact size43) rfl HY2.out.2.1 Tryz.underlying50 rfl size50) rfl ⟨?_,HY2.out.2.2⟩
  rw [HS2.out]
  exact⟨cs,HCS.out.1,HCS.out.2,rfl⟩
 | error f =>
  have hs:=HSP.out
  obtain⟨i,E,P,T,hp,he,hft⟩:∃ i E P T,Pr w3 b K i E P T∧E≠0∧ftT s f=(E,P,T):=by
   cases f with
   | tok no p =>
    obtain⟨i,h1,h2⟩:=hs
    exact⟨i,no,p,false,h1,h2,rfl⟩
   | lex =>
    obtain⟨i,e,p,h1,h2⟩:=hs
    have h0:tksE s≠0:=fun h=>strat_lex h HS2.out
    rcases HE.out with ⟨l1,l2,l3⟩ | ⟨l1,l2,l3⟩
    ·rcases h2 with h2 | ⟨h2,h3⟩
     ·rw [l1] at h2; cases h2
     ·subst h2 h3
      exact⟨i,_,_,true,h1,by rw [l2]; exact h0,by simp only [ftT,l2,l3]⟩
    ·obtain⟨z1,z2,_⟩:=h1.z l1
     subst z1 z2
     exact⟨i,_,_,true,h1,by decide,by simp only [ftT,l2,l3]⟩
  have HFT:Hid (ftT s f=(E,P,T)):=hft
  have HE0:Hid (E≠0):=he
  have HP:=hp.hid
  have cO:=over_yes hp he
  clear hp he hs hft HSP HN4 HCS
  go_wp2_with fail
  refine cO.mono ?_
  rintro e w4 ⟨rfl,e9⟩
  obtain rfl:=e9.symm
  clear cO e9
  go_upto_region 4 with fail
  have c4:w3.cell? ⟨b,4,none⟩=some (zI E):=Co HP.out.h 4
  have c5:w3.cell? ⟨b,5,none⟩=some (zI P):=Co HP.out.h 5
  have c6:w3.cell? ⟨b,6,none⟩=some (.bool T):=Co HP.out.h 6
  refine wp_region_held_drew (S:=fun v=>v.cell? ⟨b,4,none⟩=some (zI E)∧v.cell? ⟨b,5,none⟩=some (zI P)∧v.cell? ⟨b,6,none⟩=some (.bool T)) zK ⟨c4,c5,c6⟩ (fun hHeld=>?_)
  refine wpAnyH_take (i:=0) (v:=?_) rfl zK zK zK (fun _ _ _ h=>h) (Or.inl ⟨by rfl,?_⟩) (by assumption) ?_
  rotate_left
  ·(intro v hv; obtain⟨t4,t5,t6⟩:=hv; go_simp; try (with_reducible rfl))
  try simp [Act.put]
  refine wpAnyH_take (i:=1) (v:=?_) rfl zK zK zK (fun _ _ _ h=>h) (Or.inl ⟨by rfl,?_⟩) (by assumption) ?_
  rotate_left
  ·(intro v hv; obtain⟨t4,t5,t6⟩:=hv; go_simp; try (with_reducible rfl))
  try simp [Act.put]
  refine wpAnyH_take (i:=2) (v:=?_) rfl zK zK zK (fun _ _ _ h=>h) (Or.inl ⟨by rfl,?_⟩) (by assumption) ?_
  rotate_left
  ·(intro v hv; obtain⟨t4,t5,t6⟩:=hv; go_simp; try (with_reducible rfl))
  try simp [Act.put]
  refine wpAnyH_take (i:=3) (v:=?_) rfl zK zK zK (fun _ _ _ h=>h) (Or.inl ⟨by rfl,?_⟩) (by assumption) ?_
  rotate_left
  ·(intro v hv; obtain⟨t4,t5,t6⟩:=hv; go_simp; try (with_reducible rfl))
  try simp [Act.put]
  refine wpAnyH_take (i:=4) (v:=?_) rfl zK zK zK (fun _ _ _ h=>h) (Or.inl ⟨by rfl,?_⟩) (by assumption) ?_
  rotate_left
  ·(intro v hv; obtain⟨t4,t5,t6⟩:=hv; go_simp; try (with_reducible rfl))
  try simp [Act.put]
  obtain⟨U,eU⟩:∃ U,w3.drew=U:=⟨_,rfl⟩
  have HXU:Hid (XS w U):=by
   have h1:=HX3.out
   rw [← eU]
   exact⟨h1.B.drew,h1.z,h1.f⟩
  have HPU:=(HP.out.blk (w':=U) (fun _ _=>by rw [← eU]; rfl)).hid
  rw [eU] at hHeld ⊢
  clear eU c4 c5 c6 HX3 HP
  have hbb:=HB1.out
  have z0:U.cell? ⟨w§,0,none⟩=some (.string ⟨#[]⟩):=Co HXU.out.z 0
  have q0:=Fo HXU.out.z 0
  have z1:U.cell? ⟨w§,1,none⟩=some (.slice none 0 0):=Co HXU.out.z 1
  have q1:=Fo HXU.out.z 1
  have z2:U.cell? ⟨w§,2,none⟩=some (.slice none 0 0):=Co HXU.out.z 2
  have q2:=Fo HXU.out.z 2
  have z3:U.cell? ⟨w§,3,none⟩=some (.slice none 0 0):=Co HXU.out.z 3
  have q3:=Fo HXU.out.z 3
  obtain⟨fg0,fg1,fg2⟩:=cl3 HXU.out.f
  obtain⟨fk0,fk1,fk2⟩:=fz3 HXU.out.f
  refine wpAnyH_ready (rs:=[5]) zK (by simp) ?_
  refine AllReadyH.cons rfl (fun K' hK=>?_) AllReadyH.nil
  ·obtain⟨Y,eY,hY1,hY2,hY3,hY4⟩:=fin4 HXU.out.z (.string ⟨#[]⟩) (.slice none 0 0) (.slice none 0 0) (.slice none 0 0)
   have hYf:Y.heap[w§+1]? = some (.cells zA12 50 (0,0)):=(hY3 _ (by omega)).trans HXU.out.f
   obtain⟨Z,eZ,hZ1,hZ2,hZ3,hZ4⟩:=fin3f hYf (zI E) (zI P) (.bool T)
   have HEY:=zH eY
   have HEZ:=zH eZ
   have hYb:Y.heap[b]? = U.heap[b]?:=hY3 b (by omega)
   have hZb:Z.heap[b]? = U.heap[b]?:=(hZ3 b (by omega)).trans hYb
   have HSY:Hid (Y.cell? ⟨b,4,none⟩=some (zI E)∧Y.cell? ⟨b,5,none⟩=some (zI P)∧Y.cell? ⟨b,6,none⟩=some (.bool T)):=by
    have h1:=hYb.trans HPU.out.h
    exact⟨Co h1 4,Co h1 5,Co h1 6⟩
   have HSZ2:Hid (Z.cell? ⟨b,4,none⟩=some (zI E)∧Z.cell? ⟨b,5,none⟩=some (zI P)∧Z.cell? ⟨b,6,none⟩=some (.bool T)):=by
    have h1:=hZb.trans HPU.out.h
    exact⟨Co h1 4,Co h1 5,Co h1 6⟩
   have HF:Hid (Z.heap[w§]? = some (.cells nul4 43 (0,0))∧Z.heap[w§+1]? = some (.cells #[zI E,zI P,.bool T] 50 (0,0))∧Below w§ w Z):=by
    refine⟨(hZ3 _ (by omega)).trans hY1,hZ1,?_⟩
    exact (hZ4 w (fun _=>False) (hY4 w (fun _=>False) (Mv.ofBelow HXU.out.B) (Nat.le_refl _)) (by omega)).below (Nat.le_refl _) (fun _ e=>e.elim)
   clear eY eZ hY1 hY2 hY3 hY4 hZ1 hZ2 hZ3 hZ4 hYb hZb
   go_simp
   rw [HEY.out]
   refine hK.out _ _ HSY.out (fun hHeld5=>?_)
   clear hK K'
   obtain⟨fg0',fg1',fg2'⟩:=cl3 hYf
   obtain⟨fk0',fk1',fk2'⟩:=fz3 hYf
   clear hYf
   refine wpAnyH_ready (rs:=[6]) zK (by simp) ?_
   refine AllReadyH.cons rfl (fun K' hK=>?_) AllReadyH.nil
   go_simp
   rw [HEZ.out]
   refine hK.out _ _ HSZ2.out (fun hHeld6=>?_)
   clear hK K'
   refine wpAnyH_done zK ?_ _
   go_wp2_with fail
   refine bodyPost_ret (results_cc rfl _ _ w§ (w§+1) 43 50 nul4 #[zI E,zI P,.bool T] (0,0) (0,0) _ _ rfl HF.out.1 Tryz.underlying43 rfl size43 rfl HF.out.2.1 Tryz.underlying50 rfl size50) rfl ⟨?_,HF.out.2.2⟩
   rw [HS2.out]
   simp only [HFT.out]
   exact⟨HE0.out,trivial⟩
open Go.Extern.Stop Go.Stop Go.Extern
theorem errnoIn_any {w:World}{v:Value}{n p:Int}(h:Er w v n p) (hg:Ety w) :
  Calls zG 30 #[v] w fun e w'=>e=.returned (zI n)∧Below w§ w w':=by
 have b1:=Bn w (.cells #[zI 0] 48)
 have n1:=Hn w (.cells #[zI 0] 48)
 have HB1:=zH b1
 have s1:=Sa w (.cells #[zI 0] 48)
 have cA:=as49E_any (h.on b1) (hg.on b1) ⟨w§,0,none⟩ _ (Co n1 0) (Fo n1 0)
 have HN:Hid ((w.alloc (.cells #[zI 0] 48)).heap[w§]? = some (.cells #[zI 0] 48)∧(w.alloc (.cells #[zI 0] 48))§=w§+1):=⟨n1,s1⟩
 obtain⟨T,x,rfl⟩:=h.face
 clear b1 n1 s1 h hg
 go_enter Tryz.func30,Tryz.ntmps30
 go_wp2_with fail
 refine cA.mono ?_
 rintro e w1 ⟨b,rfl,hh⟩
 clear cA
 rcases hh with ⟨rfl,V,hV,eV⟩ | ⟨rfl,hn,hV⟩
 ·have hv:V.heap[w§]? = some (.cells #[zI 0] 48 (0,0)):=(hV.block _ (by rw [HN.out.2]; omega)).trans HN.out.1
  have c1:w1.cell? ⟨w§,0,none⟩=some (zI n):=by
   rw [eV]; exact Co (Hs0 (j:=0) (zI n) hv) 0
  have HB:Hid (Below w§ w w1):=by
   show Below _ _ _
   rw [eV]
   exact ((Mv.ofBelow (B2 HB1.out hV)).setCell (F:=fun _=>False) (a:=⟨w§,0,none⟩) (.inr (Nat.le_refl _)) _).toBelow
  clear hv hV eV HN HB1
  go_wp2_with fail
  go_ret
  exact⟨rfl,HB.out⟩
 ·have HB:Hid (Below w§ w w1):=B2 HB1.out hV
  subst hn
  clear hV HN HB1
  go_wp2_with fail
  go_ret
  exact⟨rfl,HB.out⟩
theorem placeIn_any {w:World}{v:Value}{n p:Int}(h:Er w v n p) (hg:Ety w) :
  Calls zG 31 #[v] w fun e w'=>e=.returned (zI p)∧Below w§ w w':=by
 have b1:=Bn w (.cells #[.pointer none] 74)
 have n1:=Hn w (.cells #[.pointer none] 74)
 have HB1:=zH b1
 have s1:=Sa w (.cells #[.pointer none] 74)
 have cA:=asF1_any (h.on b1) (hg.on b1) ⟨w§,0,none⟩ _ (Co n1 0) (Fo n1 0)
 have HN:Hid ((w.alloc (.cells #[.pointer none] 74)).heap[w§]? = some (.cells #[.pointer none] 74)∧(w.alloc (.cells #[.pointer none] 74))§=w§+1):=⟨n1,s1⟩
 obtain⟨T,x,rfl⟩:=h.face
 clear b1 n1 s1 h hg
 go_enter Tryz.func31,Tryz.ntmps31
 go_wp2_with fail
 refine cA.mono ?_
 rintro e w1 ⟨b,rfl,hh⟩
 clear cA
 rcases hh with ⟨rfl,F,c,er,hF,V,hV,eV⟩ | ⟨rfl,hn,hV⟩
 ·have hv:V.heap[w§]? = some (.cells #[.pointer none] 74 (0,0)):=(hV.block _ (by rw [HN.out.2]; omega)).trans HN.out.1
  have c1:w1.cell? ⟨w§,0,none⟩=some (zP F):=by
   rw [eV]; exact Co (Hs0 (j:=0) (zP F) hv) 0
  have hF':V.heap[F]? = some (.cells #[.string c,zI p,er] 76 (0,0)):=(hV.block _ (Array.getElem?_eq_some_iff.1 hF).1).trans hF
  have c2:w1.cell? ⟨F,1,none⟩=some (zI p):=by
   rw [eV]
   refine Co ((Below.heap_setCell V ⟨w§,0,none⟩ (zP F) F ?_).trans hF') 1
   intro e
   have e':F=w§:=e
   rw [e',hv] at hF'
   cases hF'
  have HB:Hid (Below w§ w w1):=by
   show Below _ _ _
   rw [eV]
   exact ((Mv.ofBelow (B2 HB1.out hV)).setCell (F:=fun _=>False) (a:=⟨w§,0,none⟩) (.inr (Nat.le_refl _)) _).toBelow
  clear hv hV eV HN HB1 hF hF'
  go_wp2_with fail
  go_ret
  exact⟨rfl,HB.out⟩
 ·have HB:Hid (Below w§ w w1):=B2 HB1.out hV
  subst hn
  clear hV HN HB1
  go_wp2_with fail
  go_ret
  exact⟨rfl,HB.out⟩
theorem wrong_any {w:World}{v:Value}{n p:Int}(h:Er w v n p) (hg:Ety w) :
  Calls zG 12 #[v] w fun e w'=>e=.returned (.tuple #[zI n,zI p])∧Below w§ w w':=by
 have cE:=errnoIn_any h hg
 have HE:Hid (Er w v n p∧Ety w):=⟨h,hg⟩
 obtain⟨T,x,rfl⟩:=h.face
 clear h hg
 go_enter Tryz.func12,Tryz.ntmps12
 go_wp2_with fail
 refine cE.mono ?_
 rintro e w1 ⟨rfl,hb⟩
 have HB:=zH hb
 have cP:=placeIn_any (HE.out.1.on hb) (HE.out.2.on hb)
 clear cE hb
 go_wp2_with fail
 refine cP.mono ?_
 rintro e w2 ⟨rfl,hb⟩
 have HB2:=zH (B2 HB.out hb)
 clear cP hb
 go_wp2_with fail
 exact bodyPost_ret (results_t2 (p:=2) (u:=3) rfl _ _) rfl ⟨rfl,HB2.out⟩
theorem wrong_nil (w:World) :
  Calls zG 12 #[.nilIface] w fun e w'=>e=.returned (.tuple #[zI 0,zI 0])∧w'=w:=by
 go_enter Tryz.func12,Tryz.ntmps12
 go_wp2_with fail
 exact bodyPost_ret (results_t2 (p:=2) (u:=3) rfl _ _) rfl ⟨rfl,rfl⟩
theorem put3_87 {U:World}{b:Nat}{a0 a1 a2:Value}(h:U.heap[b]? = some (.cells #[a0,a1,a2] 87 (0,0))) (v0 v1 v2:Value):(((U.setCell ⟨b,0,none⟩ v0).setCell ⟨b,1,none⟩ v1).setCell ⟨b,2,none⟩ v2).heap[b]? = some (.cells #[v0,v1,v2] 87 (0,0)):=by
 have k0:=Hs0 (j:=0) v0 h
 have k1:=Hs0 (j:=1) v1 k0
 have k2:=Hs0 (j:=2) v2 k1
 simpa using k2
theorem fin3_87 {U:World}{b:Nat}{a0 a1 a2:Value}(h:U.heap[b]? = some (.cells #[a0,a1,a2] 87 (0,0))) (v0 v1 v2:Value) :
  ∃ Y,(((U.setCell ⟨b,0,none⟩ v0).setCell ⟨b,1,none⟩ v1).setCell ⟨b,2,none⟩ v2)=Y∧Y.heap[b]? = some (.cells #[v0,v1,v2] 87 (0,0))∧Y§=U§∧(∀ k,k≠b→Y.heap[k]? = U.heap[k]?)∧(∀ (w:World) (F:Nat→Prop),Mv w U F→w§≤b→Mv w Y F):=by
 refine⟨_,rfl,put3_87 h _ _ _,?_,fun k hk=>?_,fun w F m hb=>?_⟩
 ·simp [World.setCell]
 ·refine (Below.heap_setCell _ _ _ _ hk).trans ?_; refine (Below.heap_setCell _ _ _ _ hk).trans ?_; refine (Below.heap_setCell _ _ _ _ hk).trans ?_; rfl
 ·exact (((m.setCell (a:=⟨b,0,none⟩) (.inr hb) v0).setCell (a:=⟨b,1,none⟩) (.inr hb) v1).setCell (a:=⟨b,2,none⟩) (.inr hb) v2)
theorem put4_43 {U:World}{b:Nat}{a0 a1 a2 a3:Value}(h:U.heap[b]? = some (.cells #[a0,a1,a2,a3] 43 (0,0))) (v0 v1 v2 v3:Value):((((U.setCell ⟨b,0,none⟩ v0).setCell ⟨b,1,none⟩ v1).setCell ⟨b,2,none⟩ v2).setCell ⟨b,3,none⟩ v3).heap[b]? = some (.cells #[v0,v1,v2,v3] 43 (0,0)):=by
 have k0:=Hs0 (j:=0) v0 h
 have k1:=Hs0 (j:=1) v1 k0
 have k2:=Hs0 (j:=2) v2 k1
 have k3:=Hs0 (j:=3) v3 k2
 simpa using k3
theorem fin4_43 {U:World}{b:Nat}{a0 a1 a2 a3:Value}(h:U.heap[b]? = some (.cells #[a0,a1,a2,a3] 43 (0,0))) (v0 v1 v2 v3:Value) :
  ∃ Y,((((U.setCell ⟨b,0,none⟩ v0).setCell ⟨b,1,none⟩ v1).setCell ⟨b,2,none⟩ v2).setCell ⟨b,3,none⟩ v3)=Y∧Y.heap[b]? = some (.cells #[v0,v1,v2,v3] 43 (0,0))∧Y§=U§∧(∀ k,k≠b→Y.heap[k]? = U.heap[k]?)∧(∀ (w:World) (F:Nat→Prop),Mv w U F→w§≤b→Mv w Y F):=by
 refine⟨_,rfl,put4_43 h _ _ _ _,?_,fun k hk=>?_,fun w F m hb=>?_⟩
 ·simp [World.setCell]
 ·refine (Below.heap_setCell _ _ _ _ hk).trans ?_; refine (Below.heap_setCell _ _ _ _ hk).trans ?_; refine (Below.heap_setCell _ _ _ _ hk).trans ?_; refine (Below.heap_setCell _ _ _ _ hk).trans ?_; rfl
 ·exact ((((m.setCell (a:=⟨b,0,none⟩) (.inr hb) v0).setCell (a:=⟨b,1,none⟩) (.inr hb) v1).setCell (a:=⟨b,2,none⟩) (.inr hb) v2).setCell (a:=⟨b,3,none⟩) (.inr hb) v3)
theorem list66_none {w:World}{b G:Nat}{t:Tk}{ts:List Tk}{fa:Int}{fe:Value}{d:Nat}{a:Option Addr}{c:Nat}(h:Rdr w b G (t :: ts) fa fe d a c) (x:ByteArray) (hx:¬ t.x=x) (m:Int) (fn:Fn) (f1 f2:Array Value) :
  Calls zG 66 #[zP b,.string x,zI m,.func fn f1 f2] w fun e w'=>e=.returned (.slice none 0 0)∧Below w§ w w':=by
 have cI:=is_ok h x
 rw [decide_eq_false hx] at cI
 clear h hx
 go_enter Tryz.func66,Tryz.ntmps66
 go_wp2_with fail
 refine wp_loop_rounds 1 ?_
 rw [rounds_succ]
 go_wp2_with fail
 refine cI.mono ?_
 rintro e w1 ⟨rfl,hb⟩
 have HB:=zH hb
 clear cI hb
 go_wp2_with fail
 go_ret
 exact⟨rfl,HB.out⟩
theorem list68_none {w:World}{b G:Nat}{t:Tk}{ts:List Tk}{fa:Int}{fe:Value}{d:Nat}{a:Option Addr}{c:Nat}(h:Rdr w b G (t :: ts) fa fe d a c) (x:ByteArray) (hx:¬ t.x=x) (m:Int) (fn:Fn) (f1 f2:Array Value) :
  Calls zG 68 #[zP b,.string x,zI m,.func fn f1 f2] w fun e w'=>e=.returned (.slice none 0 0)∧Below w§ w w':=by
 have cI:=is_ok h x
 rw [decide_eq_false hx] at cI
 clear h hx
 go_enter Tryz.func68,Tryz.ntmps68
 go_wp2_with fail
 refine wp_loop_rounds 1 ?_
 rw [rounds_succ]
 go_wp2_with fail
 refine cI.mono ?_
 rintro e w1 ⟨rfl,hb⟩
 have HB:=zH hb
 clear cI hb
 go_wp2_with fail
 go_ret
 exact⟨rfl,HB.out⟩
theorem list108_none {w:World}{b G:Nat}{t:Tk}{ts:List Tk}{fa:Int}{fe:Value}{d:Nat}{a:Option Addr}{c:Nat}(h:Rdr w b G (t :: ts) fa fe d a c) (x:ByteArray) (hx:¬ t.x=x) (m:Int) (fn:Fn) (f1 f2:Array Value) :
  Calls zG 108 #[zP b,.string x,zI m,.func fn f1 f2] w fun e w'=>e=.returned (.slice none 0 0)∧Below w§ w w':=by
 have cI:=is_ok h x
 rw [decide_eq_false hx] at cI
 clear h hx
 go_enter Tryz.func108,Tryz.ntmps108
 go_wp2_with fail
 refine wp_loop_rounds 1 ?_
 rw [rounds_succ]
 go_wp2_with fail
 refine cI.mono ?_
 rintro e w1 ⟨rfl,hb⟩
 have HB:=zH hb
 clear cI hb
 go_wp2_with fail
 go_ret
 exact⟨rfl,HB.out⟩
theorem list70_none {w:World}{b G:Nat}{t:Tk}{ts:List Tk}{fa:Int}{fe:Value}{d:Nat}{a:Option Addr}{c:Nat}(h:Rdr w b G (t :: ts) fa fe d a c) (x:ByteArray) (hx:¬ t.x=x) (m:Int) (fn:Fn) (f1 f2:Array Value) :
  Calls zG 70 #[zP b,.string x,zI m,.func fn f1 f2] w fun e w'=>e=.returned (.slice none 0 0)∧Below w§ w w':=by
 have cI:=is_ok h x
 rw [decide_eq_false hx] at cI
 clear h hx
 go_enter Tryz.func70,Tryz.ntmps70
 go_wp2_with fail
 refine wp_loop_rounds 1 ?_
 rw [rounds_succ]
 go_wp2_with fail
 refine cI.mono ?_
 rintro e w1 ⟨rfl,hb⟩
 have HB:=zH hb
 clear cI hb
 go_wp2_with fail
 go_ret
 exact⟨rfl,HB.out⟩
structure SX (w:World) (b G N M:Nat) (ty:TypeId) (zs cs:Array Value) (ts:List Tk) (fa:Int) (fe:Value) (d:Nat) (U:World):Prop where
 mv:Mv w U (fun k=>k=b)
 hN:U.heap[N]? = some (.cells zs ty (0,0))
 hM:U.heap[M]? = some (.cells cs ty (0,0))
 R:∃ a c,Rdr U b G ts fa fe d a c
 eN:N=w§
 nM:N < M
 lb:b < w§
 lg:G < w§
theorem SX.hid {w:World}{b G N M:Nat}{ty:TypeId}{zs cs:Array Value}{ts:List Tk}{fa:Int}{fe:Value}{d:Nat}{U:World}(h:SX w b G N M ty zs cs ts fa fe d U):Hid (SX w b G N M ty zs cs ts fa fe d U):=h
theorem SX.call {w:World}{b G N M:Nat}{ty:TypeId}{zs cs:Array Value}{ts ts':List Tk}{fa:Int}{fe:Value}{d:Nat}{U U':World}(h:SX w b G N M ty zs cs ts fa fe d U) (hm:Mv U U' (fun k=>k=b)) (hr:∃ a c,Rdr U' b G ts' fa fe d a c):SX w b G N M ty zs cs ts' fa fe d U' :=
 ⟨h.mv.trans hm (fun k e=>.inl e),(hm.block N (Array.getElem?_eq_some_iff.1 h.hN).1 (by have:=h.eN; have:=h.lb; omega)).trans h.hN,(hm.block M (Array.getElem?_eq_some_iff.1 h.hM).1 (by have:=h.eN; have:=h.lb; have:=h.nM; omega)).trans h.hM,hr,h.eN,h.nM,h.lb,h.lg⟩
theorem SX.below {w:World}{b G N M:Nat}{ty:TypeId}{zs cs:Array Value}{ts:List Tk}{fa:Int}{fe:Value}{d:Nat}{U U':World}(h:SX w b G N M ty zs cs ts fa fe d U) (hb:Below U§ U U'):SX w b G N M ty zs cs ts fa fe d U':=by
 obtain⟨a,c,hr⟩:=h.R
 exact h.call (Mv.ofBelow hb) ⟨a,c,hr.on hb⟩
theorem SX.set {w:World}{b G N M:Nat}{ty:TypeId}{zs cs:Array Value}{ts:List Tk}{fa:Int}{fe:Value}{d:Nat}{U:World}(h:SX w b G N M ty zs cs ts fa fe d U) (i:Nat) (v:Value):SX w b G N M ty zs (cs.setIfInBounds i v) ts fa fe d (U.setCell ⟨M,i,none⟩ v):=by
 obtain⟨a,c,hr⟩:=h.R
 have e1:=h.eN
 have e2:=h.nM
 have e3:=h.lb
 have e4:=h.lg
 exact⟨h.mv.setCell (a:=⟨M,i,none⟩) (.inr (by show _≤M; omega)) v,(Below.heap_setCell _ _ _ _ (show N≠M by omega)).trans h.hN,Hs0 v h.hM,
  ⟨a,c,hr.blk (Below.heap_setCell _ _ _ _ (show b≠M by omega)) (Below.heap_setCell _ _ _ _ (show G≠M by omega)) (by simp [World.setCell])⟩,h.eN,h.nM,h.lb,h.lg⟩
theorem gTake_hit {t:Tk}{ts:List Tk}{x:ByteArray}(h:t.x=x):gTake x (t :: ts)=.ok (t,ts):=by
 simp [gTake,gIs,gLook,gNeed,gStep,Except.map,bind,Except.bind,h]
theorem gName_hit {t:Tk}{ts:List Tk}(h:t.k=2):gName (t :: ts)=.ok (t.x,ts):=by
 simp [gName,gLook,gNeed,gStep,bind,Except.bind,h]
theorem state_one {w:World}{b G:Nat}{t0 t1 t2 t3:Tk}{ts:List Tk}{fa:Int}{fe:Value}{d:Nat}{a:Option Addr}{c:Nat}(h:Rdr w b G (t0 :: t1 :: t2 :: t3 :: ts) fa fe d a c) (e0:t0.x=Zd) (e1:t1.k=2) (e2:t2.x=Zs) (e3:t3.x=Z8) :
  Calls zG 71 #[zP b] w fun e w'=>e=.returned (.agg #[.string t1.x,.slice none 0 0,zI t0.p])∧(∃ a c,Rdr w' b G ts fa fe d a c)∧Mv w w' (fun k=>k=b):=by
 have hf4:=fun v=>field82_4 t0 v
 have b0:=Bn w (.cells zA11 87)
 have n0:=Hn w (.cells zA11 87)
 have s0:=Sa w (.cells zA11 87)
 have cT:=take_any (h.on b0) Zd
 rw [gTake_hit e0] at cT
 have HL:Hid (b < w§∧G < w§∧Below w§ w (w.alloc (.cells zA11 87))∧(w.alloc (.cells zA11 87)).heap[w§]? = some (.cells zA11 87 (0,0))∧(w.alloc (.cells zA11 87))§=w§+1):=⟨h.lt,h.gl,b0,n0,s0⟩
 have hmf:∀ (fn:Fn) (first cap:Array Value) (w:World),(Instr.makeFunc fn first cap).run Tryz.prog w=.ok (.func fn first cap) w:=fun _ _ _ _=>rfl
 clear b0 n0 s0 h
 go_enter Tryz.func71,Tryz.ntmps71
 go_wp2_with fail
 refine cT.mono ?_
 rintro e w1 ⟨rfl,⟨a1,c1,hr1⟩,hm1⟩
 obtain⟨l1,l2,l3,l4,l5⟩:=HL.out
 have b1:=Bn w1 (.cells #[.string ⟨#[]⟩,.slice none 0 0,zI t0.p] 87)
 have n1:=Hn w1 (.cells #[.string ⟨#[]⟩,.slice none 0 0,zI t0.p] 87)
 have sz1:=hm1.size
 have x3:SX w b G w§ w1§ 87 zA11 #[.string ⟨#[]⟩,.slice none 0 0,zI t0.p] (t1 :: t2 :: t3 :: ts) fa fe d (w1.alloc (.cells #[.string ⟨#[]⟩,.slice none 0 0,zI t0.p] 87)) :=
  ⟨((Mv.ofBelow l3).trans hm1 (fun k e=>.inl e)).alloc _,(b1.block _ (by omega)).trans ((hm1.block _ (by omega) (by omega)).trans l4),n1,⟨a1,c1,hr1.on b1⟩,rfl,by omega,l1,l2⟩
 obtain⟨Y1,eY1⟩:∃ Y,(w1.alloc (.cells #[.string ⟨#[]⟩,.slice none 0 0,zI t0.p] 87))=Y:=⟨_,rfl⟩
 rw [eY1] at x3
 have HEY1:Hid (_=Y1):=eY1
 have X3:=x3.hid
 obtain⟨a2,c2,hr2⟩:=x3.R
 have cN:=name_any hr2
 rw [gName_hit e1] at cN
 clear cT hr1 hm1 l1 l2 l3 l4 l5 b1 n1 sz1 x3 eY1 hr2 HL
 go_wp2_with fail
 rw [HEY1.out]
 refine cN.mono ?_
 rintro e w2 ⟨rfl,hr2,hm2⟩
 have x4:=X3.out.call hm2 hr2
 have z0:w2.cell? ⟨w1§,0,none⟩=some (.string ⟨#[]⟩):=Co x4.hM 0
 have q0:=Fo x4.hM 0
 have x5:=x4.set 0 (.string t1.x)
 obtain⟨Y2,eY2⟩:∃ Y,w2.setCell ⟨w1§,0,none⟩ (.string t1.x)=Y:=⟨_,rfl⟩
 rw [eY2] at x5
 have HEY2:Hid (_=Y2):=eY2
 have X5:=x5.hid
 obtain⟨a3,c3,hr3⟩:=x5.R
 have cT2:=take_any hr3 Zs
 rw [gTake_hit e2] at cT2
 clear cN hr2 hm2 x4 x5 eY2 hr3 X3 HEY1
 go_wp2_with fail
 rw [HEY2.out]
 refine cT2.mono ?_
 rintro e w3 ⟨rfl,hr3,hm3⟩
 have x6:=X5.out.call hm3 hr3
 have X6:=x6.hid
 obtain⟨a4,c4,hr4⟩:=x6.R
 have cLs:=fun f1=>list108_none hr4 ZK (by rw [e3]; decide) 12 (.func 109) f1 #[]
 clear cT2 hr3 hm3 x6 hr4 X5 HEY2 z0 q0
 go_wp2_with fail
 refine (cLs _).mono ?_
 rintro e w4 ⟨rfl,hb4⟩
 have x7:=X6.out.below hb4
 have z1:w4.cell? ⟨w1§,1,none⟩=some (.slice none 0 0):=Co x7.hM 1
 have q1:=Fo x7.hM 1
 have x8:=x7.set 1 (.slice none 0 0)
 obtain⟨Y3,eY3⟩:∃ Y,w4.setCell ⟨w1§,1,none⟩ (.slice none 0 0)=Y:=⟨_,rfl⟩
 rw [eY3] at x8
 have HEY3:Hid (_=Y3):=eY3
 have X8:=x8.hid
 obtain⟨a5,c5,hr5⟩:=x8.R
 have cT3:=take_any hr5 Z8
 rw [gTake_hit e3] at cT3
 clear cLs hb4 x7 x8 eY3 hr5 X6
 go_wp2_with fail
 rw [HEY3.out]
 refine cT3.mono ?_
 rintro e w5 ⟨rfl,hr5,hm5⟩
 have x9:=X8.out.call hm5 hr5
 have X9:=x9.hid
 obtain⟨m0,m1,m2⟩:=cl3 x9.hM
 obtain⟨y0,y1,y2⟩:=cl3 x9.hN
 obtain⟨g0,g1,g2⟩:=fz3 x9.hN
 obtain⟨Y,eY,hY1,hY2,hY3,hY4⟩:=fin3_87 x9.hN (.string t1.x) (.slice none 0 0) (zI t0.p)
 have HEY:Hid (_=Y):=eY
 have HY:Hid (Y.heap[w§]? = some (.cells #[.string t1.x,.slice none 0 0,zI t0.p] 87 (0,0))∧(∃ a c,Rdr Y b G ts fa fe d a c)∧Mv w Y (fun k=>k=b)):=by
  obtain⟨a6,c6,hr6⟩:=x9.R
  have:=x9.lb
  have:=x9.lg
  exact⟨hY1,⟨a6,c6,hr6.blk (hY3 _ (by omega)) (hY3 _ (by omega)) (by omega)⟩,hY4 _ _ x9.mv (Nat.le_refl _)⟩
 clear cT3 hr5 hm5 x9 X9 X8 eY hY1 hY2 hY3 hY4 HEY3 z1 q1
 go_wp2_with fail
 rw [HEY.out]
 exact bodyPost_ret (results_cell_row (p:=2) (ty:=87) rfl _ _ w§ 87 #[.string t1.x,.slice none 0 0,zI t0.p] (0,0) _ rfl HY.out.1 Tryz.underlying87 rfl zK) rfl ⟨rfl,HY.out.2⟩
theorem Tryz.info87:(Tryz.prog.info? 87).map (fun i=>(i.zero,i.size,i.bytes))=some (some (.agg zA11),3,48):=by kernel_rfl
def sF (x:ByteArray) (p:Int) (j:Nat):Value:=if j=0 then .string x else if j=1 then .slice none 0 0 else zI p
theorem append_state0 {w0:World}{ops:Array Oper}{rest:List Oper}{o:Oper}{a:Act}{Q:Exit→Act→World→Prop}(hgd:o.guard=none) (d x:Operand)
  (ho:o.op=.call { callee:=.builtin .append,args:=#[d,x],argTypes:=#[41,41] }) (n:ByteArray) (p:Int) (hs:a.eval d=.slice none 0 0) (hx:a.eval x=.slice (some ⟨w0§,0,none⟩) 1 1)
  (h:∀ g cap w',Row w' 87 3 (.slice (some ⟨g,0,none⟩) 1 cap) 1 (sF n p)→Below w0§ w0 w'→w0§≤g→wpList Tryz.prog ops Q rest (a.put o.dst (.slice (some ⟨g,0,none⟩) 1 cap)) w') :
  wpList Tryz.prog ops Q (o :: rest) a (w0.alloc (.cells #[.string n,.slice none 0 0,zI p] 87)):=by
 obtain⟨i0,hi,hz0,hz1,hz2⟩:=info_parts Tryz.info87
 refine wpList_append_lies _ hgd d x 41 ho 0 87 i0 _ 3 48 Tryz.underlying41 hi hz0 hz1 hz2 rfl (by decide) (.slice none 0 0) 0 _ hs (Row.nil _ _ _ (fun _=>.nilIface)) ⟨w0§,0,none⟩ 1 1 [.string n,.slice none 0 0,zI p] hx rfl (World.news_of_block (Hn w0 _)) (by intro u hu; simp at hu; rcases hu with rfl | rfl | rfl <;> rfl) (by decide) (by unfold maxLen; omega) (by omega) (Nat.zero_le _) _ rfl ?_
 intro g cap w' h2 h3 h4 h5
 have hr:=Row.snoc (n:=0) (f:=fun _=>.nilIface) (x:=sF n p) h2 rfl (fun j hj=>by
  match j,hj with
  | 0,_=>rfl
  | 1,_=>rfl
  | 2,_=>rfl)
 have hsz:=Sa w0 (.cells #[.string n,.slice none 0 0,zI p] 87)
 refine h g cap w' (hr.congr fun j hj=>by simp) ?_ ?_
 ·exact (Bn w0 _).grown h3 (by omega) (fun k hk=>by simp [Value.ownBlock] at hk)
 ·rcases h4 with h4 | h4
  ·simp [Value.ownBlock] at h4
  ·omega
theorem list70_one {w:World}{b G:Nat}{t0 t1 t2 t3 t4:Tk}{ts:List Tk}{fa:Int}{fe:Value}{d:Nat}{a:Option Addr}{c:Nat}(h:Rdr w b G (t0 :: t1 :: t2 :: t3 :: t4 :: ts) fa fe d a c) (e0:t0.x=Zd) (e1:t1.k=2) (e2:t2.x=Zs) (e3:t3.x=Z8) (en:¬ t4.x=Zd) :
  Calls zG 70 #[zP b,.string Zd,zI 12,.func (.func 71) #[zP b] #[]] w fun e w'=>∃ g cap,e=.returned (.slice (some ⟨g,0,none⟩) 1 cap)∧Row w' 87 3 (.slice (some ⟨g,0,none⟩) 1 cap) 1 (sF t1.x t0.p)∧w§≤g∧(∃ a c,Rdr w' b G (t4 :: ts) fa fe d a c)∧Mv w w' (fun k=>k=b):=by
 have cI:=is_ok h Zd
 rw [decide_eq_true e0] at cI
 have HH:=h.hid
 clear h
 go_enter Tryz.func70,Tryz.ntmps70
 go_wp2_with fail
 refine wp_loop_rounds 2 ?_
 rw [rounds_succ]
 go_wp2_with fail
 refine cI.mono ?_
 rintro e w1 ⟨rfl,hb⟩
 have HB:=zH hb
 have cN:=need_ok w1 b 131
 have cS:=state_one (HH.out.on hb) e0 e1 e2 e3
 clear cI hb
 go_wp2_with (go_at_call 72; refine cN.mono ?_; rintro e w3 ⟨rfl,e9⟩; obtain rfl:=e9.symm)
 refine cS.mono ?_
 rintro e w2 ⟨rfl,hr2,hm2⟩
 have HM2:=zH ((Mv.ofBelow HB.out).trans hm2 (fun k e=>.inl e))
 have HR2:=zH hr2
 clear cS cN hr2 hm2
 go_wp2_with (at_builtin; refine append_state0 rfl (.tmp 19) (.tmp 22) rfl t1.x t0.p rfl rfl ?_; intro g cap w3 hr3 hb3 hg3; have H3:Hid (Row w3 87 3 (.slice (some ⟨g,0,none⟩) 1 cap) 1 (sF t1.x t0.p)∧Below w2§ w2 w3∧w2§≤g):=⟨hr3,hb3,hg3⟩; clear hr3 hb3 hg3)
 obtain⟨a3,c3,hr3⟩:=HR2.out
 have cI2:=is_ok (hr3.on H3.out.2.1) Zd
 rw [decide_eq_false en] at cI2
 have H3R:Hid (∃ a c,Rdr w3 b G (t4 :: ts) fa fe d a c):=⟨a3,c3,hr3.on H3.out.2.1⟩
 clear hr3
 rw [rounds_succ]
 go_wp2_with fail
 refine cI2.mono ?_
 rintro e w4 ⟨rfl,hb4⟩
 have H4:Hid (Row w4 87 3 (.slice (some ⟨g,0,none⟩) 1 cap) 1 (sF t1.x t0.p)∧w§≤g∧(∃ a c,Rdr w4 b G (t4 :: ts) fa fe d a c)∧Mv w w4 (fun k=>k=b)):=by
  obtain⟨q1,q2,q3⟩:=H3.out
  obtain⟨a4,c4,hr4⟩:=H3R.out
  exact⟨q1.of_block (fun k hk=>hb4.block k (q1.lt k hk)),Nat.le_trans HM2.out.size q3,⟨a4,c4,hr4.on hb4⟩,(HM2.out.trans (Mv.ofBelow q2) (fun k e=>.inl e)).trans (Mv.ofBelow hb4) (fun k e=>.inl e)⟩
 clear cI2 hb4
 go_wp2_with fail
 go_ret
 exact⟨g,cap,rfl,H4.out⟩
theorem strat_none {w:World}{b G:Nat}{t0 t1 t2 t3:Tk}{ts:List Tk}{fa:Int}{fe:Value}{d:Nat}{a:Option Addr}{c:Nat}(h:Rdr w b G (t0 :: t1 :: t2 :: t3 :: ts) fa fe d a c) (e0:t0.x=ZQ) (e1:t1.k=2) (e2:t2.x=Zs) (nt3r:¬ t3.x=Zu) (nt3s:¬ t3.x=Zz) (nt3t:¬ t3.x=Zd) :
  Calls zG 26 #[zP b] w fun e w'=>e=pan (ftV fa fe (.tok 130 t3.p))∧Mv w w' (fun k=>k=b):=by
 have b0:=Bn w (.cells zA9 43)
 have n0:=Hn w (.cells zA9 43)
 have s0:=Sa w (.cells zA9 43)
 have cT:=take_any (h.on b0) ZQ
 rw [gTake_hit e0] at cT
 have HL:Hid (b < w§∧G < w§∧Below w§ w (w.alloc (.cells zA9 43))∧(w.alloc (.cells zA9 43)).heap[w§]? = some (.cells zA9 43 (0,0))∧(w.alloc (.cells zA9 43))§=w§+1):=⟨h.lt,h.gl,b0,n0,s0⟩
 have hmf:∀ (fn:Fn) (first cap:Array Value) (w:World),(Instr.makeFunc fn first cap).run Tryz.prog w=.ok (.func fn first cap) w:=fun _ _ _ _=>rfl
 clear b0 n0 s0 h
 go_enter Tryz.func26,Tryz.ntmps26
 go_wp2_with fail
 refine cT.mono ?_
 rintro e w0 ⟨rfl,⟨a0,c0,hr0⟩,hm0⟩
 have cN:=name_any hr0
 rw [gName_hit e1] at cN
 have HM0:=zH hm0
 clear cT hr0 hm0
 go_wp2_with fail
 refine cN.mono ?_
 rintro e w1 ⟨rfl,⟨a1,c1,hr1⟩,hm1⟩
 obtain⟨l1,l2,l3,l4,l5⟩:=HL.out
 have sz0:=HM0.out.size
 have sz1:=hm1.size
 have b1:=Bn w1 (.cells #[.string t1.x,.slice none 0 0,.slice none 0 0,.slice none 0 0] 43)
 have n1:=Hn w1 (.cells #[.string t1.x,.slice none 0 0,.slice none 0 0,.slice none 0 0] 43)
 have x3:SX w b G w§ w1§ 43 zA9 #[.string t1.x,.slice none 0 0,.slice none 0 0,.slice none 0 0] (t2 :: t3 :: ts) fa fe d (w1.alloc (.cells #[.string t1.x,.slice none 0 0,.slice none 0 0,.slice none 0 0] 43)) :=
  ⟨(((Mv.ofBelow l3).trans HM0.out (fun k e=>.inl e)).trans hm1 (fun k e=>.inl e)).alloc _,(b1.block _ (by omega)).trans ((hm1.block _ (by omega) (by omega)).trans ((HM0.out.block _ (by omega) (by omega)).trans l4)),n1,⟨a1,c1,hr1.on b1⟩,rfl,by omega,l1,l2⟩
 obtain⟨Y1,eY1⟩:∃ Y,(w1.alloc (.cells #[.string t1.x,.slice none 0 0,.slice none 0 0,.slice none 0 0] 43))=Y:=⟨_,rfl⟩
 rw [eY1] at x3
 have HEY1:Hid (_=Y1):=eY1
 have X3:=x3.hid
 obtain⟨a2,c2,hr2⟩:=x3.R
 have cT2:=take_any hr2 Zs
 rw [gTake_hit e2] at cT2
 clear cN hr1 hm1 l1 l2 l3 l4 l5 sz0 sz1 b1 n1 x3 eY1 hr2 HL HM0
 go_wp2_with fail
 rw [HEY1.out]
 refine cT2.mono ?_
 rintro e w2 ⟨rfl,hr2,hm2⟩
 have x4:=X3.out.call hm2 hr2
 have X4:=x4.hid
 obtain⟨a3,c3,hr3⟩:=x4.R
 have cL1:=fun f1=>list66_none hr3 Zu nt3r 12 (.func 67) f1 #[]
 clear cT2 hr2 hm2 x4 hr3 X3 HEY1
 go_wp2_with fail
 refine (cL1 _).mono ?_
 rintro e w3 ⟨rfl,hb3⟩
 have x5:=X4.out.below hb3
 have z1:w3.cell? ⟨w1§,1,none⟩=some (.slice none 0 0):=Co x5.hM 1
 have q1:=Fo x5.hM 1
 have x6:=x5.set 1 (.slice none 0 0)
 obtain⟨Y2,eY2⟩:∃ Y,w3.setCell ⟨w1§,1,none⟩ (.slice none 0 0)=Y:=⟨_,rfl⟩
 rw [eY2] at x6
 have HEY2:Hid (_=Y2):=eY2
 have X6:=x6.hid
 obtain⟨a4,c4,hr4⟩:=x6.R
 have cL2:=fun f1=>list68_none hr4 Zz nt3s 4 (.func 69) f1 #[]
 clear cL1 hb3 x5 x6 eY2 hr4 X4
 go_wp2_with fail
 rw [HEY2.out]
 refine (cL2 _).mono ?_
 rintro e w4 ⟨rfl,hb4⟩
 have x7:=X6.out.below hb4
 have z2:w4.cell? ⟨w1§,2,none⟩=some (.slice none 0 0):=Co x7.hM 2
 have q2:=Fo x7.hM 2
 have x8:=x7.set 2 (.slice none 0 0)
 obtain⟨Y3,eY3⟩:∃ Y,w4.setCell ⟨w1§,2,none⟩ (.slice none 0 0)=Y:=⟨_,rfl⟩
 rw [eY3] at x8
 have HEY3:Hid (_=Y3):=eY3
 have X8:=x8.hid
 obtain⟨a5,c5,hr5⟩:=x8.R
 have cL3:=fun f1=>list70_none hr5 Zd nt3t 12 (.func 71) f1 #[]
 clear cL2 hb4 x7 x8 eY3 hr5 X6 HEY2 z1 q1
 go_wp2_with fail
 rw [HEY3.out]
 refine (cL3 _).mono ?_
 rintro e w5 ⟨rfl,hb5⟩
 have x9:=X8.out.below hb5
 have z3:w5.cell? ⟨w1§,3,none⟩=some (.slice none 0 0):=Co x9.hM 3
 have q3:=Fo x9.hM 3
 have x10:=x9.set 3 (.slice none 0 0)
 obtain⟨Y4,eY4⟩:∃ Y,w5.setCell ⟨w1§,3,none⟩ (.slice none 0 0)=Y:=⟨_,rfl⟩
 rw [eY4] at x10
 have HEY4:Hid (_=Y4):=eY4
 have X10:=x10.hid
 have z4:Y4.cell? ⟨w1§,3,none⟩=some (.slice none 0 0):=Co x10.hM 3
 obtain⟨a6,c6,hr6⟩:=x10.R
 have cNd:=need_tok hr6 130
 clear cL3 hb5 x9 x10 eY4 hr6 X8 HEY3 z2 q2
 go_wp2_with fail
 rw [HEY4.out]
 go_wp2_with fail
 refine cNd.mono ?_
 rintro e w6 ⟨rfl,hb6⟩
 exact⟨rfl,rfl,X10.out.mv.trans (Mv.ofBelow hb6) (fun k e=>.inl e)⟩
theorem strat_one {w:World}{b G:Nat}{t0 t1 t2 t3 t4 t5 t6 t7:Tk}{ts:List Tk}{fa:Int}{fe:Value}{d:Nat}{a:Option Addr}{c:Nat}(h:Rdr w b G (t0 :: t1 :: t2 :: t3 :: t4 :: t5 :: t6 :: t7 :: ts) fa fe d a c) (e0:t0.x=ZQ) (e1:t1.k=2) (e2:t2.x=Zs) (e3:t3.x=Zd) (e4:t4.k=2) (e5:t5.x=Zs) (e6:t6.x=Z8) (e7:t7.x=Z8) :
  Calls zG 26 #[zP b] w fun e w'=>∃ g cap,e=.returned (.agg #[.string t1.x,.slice none 0 0,.slice none 0 0,.slice (some ⟨g,0,none⟩) 1 cap])∧Row w' 87 3 (.slice (some ⟨g,0,none⟩) 1 cap) 1 (sF t4.x t3.p)∧w§≤g∧(∃ a c,Rdr w' b G ts fa fe d a c)∧Mv w w' (fun k=>k=b):=by
 have nt3r:¬ t3.x=Zu:=by rw [e3]; decide
 have nt3s:¬ t3.x=Zz:=by rw [e3]; decide
 have b0:=Bn w (.cells zA9 43)
 have n0:=Hn w (.cells zA9 43)
 have s0:=Sa w (.cells zA9 43)
 have cT:=take_any (h.on b0) ZQ
 rw [gTake_hit e0] at cT
 have HL:Hid (b < w§∧G < w§∧Below w§ w (w.alloc (.cells zA9 43))∧(w.alloc (.cells zA9 43)).heap[w§]? = some (.cells zA9 43 (0,0))∧(w.alloc (.cells zA9 43))§=w§+1):=⟨h.lt,h.gl,b0,n0,s0⟩
 have hmf:∀ (fn:Fn) (first cap:Array Value) (w:World),(Instr.makeFunc fn first cap).run Tryz.prog w=.ok (.func fn first cap) w:=fun _ _ _ _=>rfl
 clear b0 n0 s0 h
 go_enter Tryz.func26,Tryz.ntmps26
 go_wp2_with fail
 refine cT.mono ?_
 rintro e w0 ⟨rfl,⟨a0,c0,hr0⟩,hm0⟩
 have cN:=name_any hr0
 rw [gName_hit e1] at cN
 have HM0:=zH hm0
 clear cT hr0 hm0
 go_wp2_with fail
 refine cN.mono ?_
 rintro e w1 ⟨rfl,⟨a1,c1,hr1⟩,hm1⟩
 obtain⟨l1,l2,l3,l4,l5⟩:=HL.out
 have sz0:=HM0.out.size
 have sz1:=hm1.size
 have b1:=Bn w1 (.cells #[.string t1.x,.slice none 0 0,.slice none 0 0,.slice none 0 0] 43)
 have n1:=Hn w1 (.cells #[.string t1.x,.slice none 0 0,.slice none 0 0,.slice none 0 0] 43)
 have x3:SX w b G w§ w1§ 43 zA9 #[.string t1.x,.slice none 0 0,.slice none 0 0,.slice none 0 0] (t2 :: t3 :: t4 :: t5 :: t6 :: t7 :: ts) fa fe d (w1.alloc (.cells #[.string t1.x,.slice none 0 0,.slice none 0 0,.slice none 0 0] 43)) :=
  ⟨(((Mv.ofBelow l3).trans HM0.out (fun k e=>.inl e)).trans hm1 (fun k e=>.inl e)).alloc _,(b1.block _ (by omega)).trans ((hm1.block _ (by omega) (by omega)).trans ((HM0.out.block _ (by omega) (by omega)).trans l4)),n1,⟨a1,c1,hr1.on b1⟩,rfl,by omega,l1,l2⟩
 obtain⟨Y1,eY1⟩:∃ Y,(w1.alloc (.cells #[.string t1.x,.slice none 0 0,.slice none 0 0,.slice none 0 0] 43))=Y:=⟨_,rfl⟩
 rw [eY1] at x3
 have HEY1:Hid (_=Y1):=eY1
 have X3:=x3.hid
 obtain⟨a2,c2,hr2⟩:=x3.R
 have cT2:=take_any hr2 Zs
 rw [gTake_hit e2] at cT2
 clear cN hr1 hm1 l1 l2 l3 l4 l5 sz0 sz1 b1 n1 x3 eY1 hr2 HL HM0
 go_wp2_with fail
 rw [HEY1.out]
 refine cT2.mono ?_
 rintro e w2 ⟨rfl,hr2,hm2⟩
 have x4:=X3.out.call hm2 hr2
 have X4:=x4.hid
 obtain⟨a3,c3,hr3⟩:=x4.R
 have cL1:=fun f1=>list66_none hr3 Zu nt3r 12 (.func 67) f1 #[]
 clear cT2 hr2 hm2 x4 hr3 X3 HEY1
 go_wp2_with fail
 refine (cL1 _).mono ?_
 rintro e w3 ⟨rfl,hb3⟩
 have x5:=X4.out.below hb3
 have z1:w3.cell? ⟨w1§,1,none⟩=some (.slice none 0 0):=Co x5.hM 1
 have q1:=Fo x5.hM 1
 have x6:=x5.set 1 (.slice none 0 0)
 obtain⟨Y2,eY2⟩:∃ Y,w3.setCell ⟨w1§,1,none⟩ (.slice none 0 0)=Y:=⟨_,rfl⟩
 rw [eY2] at x6
 have HEY2:Hid (_=Y2):=eY2
 have X6:=x6.hid
 obtain⟨a4,c4,hr4⟩:=x6.R
 have cL2:=fun f1=>list68_none hr4 Zz nt3s 4 (.func 69) f1 #[]
 clear cL1 hb3 x5 x6 eY2 hr4 X4
 go_wp2_with fail
 rw [HEY2.out]
 refine (cL2 _).mono ?_
 rintro e w4 ⟨rfl,hb4⟩
 have x7:=X6.out.below hb4
 have z2:w4.cell? ⟨w1§,2,none⟩=some (.slice none 0 0):=Co x7.hM 2
 have q2:=Fo x7.hM 2
 have x8:=x7.set 2 (.slice none 0 0)
 obtain⟨Y3,eY3⟩:∃ Y,w4.setCell ⟨w1§,2,none⟩ (.slice none 0 0)=Y:=⟨_,rfl⟩
 rw [eY3] at x8
 have HEY3:Hid (_=Y3):=eY3
 have X8:=x8.hid
 obtain⟨a5,c5,hr5⟩:=x8.R
 have cL3:=list70_one hr5 e3 e4 e5 e6 (by rw [e7]; decide)
 clear cL2 hb4 x7 x8 eY3 hr5 X6 HEY2 z1 q1 nt3r nt3s
 go_wp2_with fail
 rw [HEY3.out]
 refine cL3.mono ?_
 rintro e w5 ⟨g,cap,rfl,hw5,hg5,hr5,hm5⟩
 have x9:=X8.out.call hm5 hr5
 have z3:w5.cell? ⟨w1§,3,none⟩=some (.slice none 0 0):=Co x9.hM 3
 have q3:=Fo x9.hM 3
 have x10:=x9.set 3 (.slice (some ⟨g,0,none⟩) 1 cap)
 have hgl:=hw5.lt g rfl
 have hgN:g≠w1§:=fun e=>by have:=(Array.getElem?_eq_some_iff.1 X8.out.hM).1; omega
 obtain⟨Y4,eY4⟩:∃ Y,w5.setCell ⟨w1§,3,none⟩ (.slice (some ⟨g,0,none⟩) 1 cap)=Y:=⟨_,rfl⟩
 have hw6:Row Y4 87 3 (.slice (some ⟨g,0,none⟩) 1 cap) 1 (sF t4.x t3.p):=hw5.of_block (fun k hk=>by
  simp [Value.ownBlock] at hk; subst hk; rw [← eY4]; exact Below.heap_setCell _ _ _ _ hgN)
 have HG:Hid (w§ < g∧Row Y4 87 3 (.slice (some ⟨g,0,none⟩) 1 cap) 1 (sF t4.x t3.p)):=⟨by have:=(Array.getElem?_eq_some_iff.1 X8.out.hM).1; have:=X8.out.nM; omega,hw6⟩
 rw [eY4] at x10
 have HEY4:Hid (_=Y4):=eY4
 have X10:=x10.hid
 have z4:Y4.cell? ⟨w1§,3,none⟩=some (.slice (some ⟨g,0,none⟩) 1 cap):=Co x10.hM 3
 have cNd:=need_ok Y4 b 130
 obtain⟨a6,c6,hr6⟩:=x10.R
 have cT4:=take_any hr6 Z8
 rw [gTake_hit e7] at cT4
 clear cL3 hr5 hm5 hw5 hg5 x9 x10 eY4 hr6 X8 HEY3 z2 q2 hgl hgN hw6
 go_wp2_with fail
 rw [HEY4.out]
 go_wp2_with (go_at_call 72; refine cNd.mono ?_; rintro e w9 ⟨rfl,e9⟩; obtain rfl:=e9.symm)
 refine cT4.mono ?_
 rintro e w6 ⟨rfl,hr6,hm6⟩
 have x11:=X10.out.call hm6 hr6
 have hg6:=HG.out.2.lt g rfl
 have hw7:Row w6 87 3 (.slice (some ⟨g,0,none⟩) 1 cap) 1 (sF t4.x t3.p):=HG.out.2.of_block (fun k hk=>by
  simp [Value.ownBlock] at hk; subst hk; exact hm6.block _ hg6 (by have:=HG.out.1; have:=X10.out.lb; omega))
 obtain⟨m0,m1,m2,m3⟩:=cl4 x11.hM
 obtain⟨y0,y1,y2,y3⟩:=cl4 x11.hN
 obtain⟨g0,g1,g2,g3⟩:=fz4 x11.hN
 obtain⟨Y,eY,hY1,hY2,hY3,hY4⟩:=fin4_43 x11.hN (.string t1.x) (.slice none 0 0) (.slice none 0 0) (.slice (some ⟨g,0,none⟩) 1 cap)
 have HEY:Hid (_=Y):=eY
 have HY:Hid (Y.heap[w§]? = some (.cells #[.string t1.x,.slice none 0 0,.slice none 0 0,.slice (some ⟨g,0,none⟩) 1 cap] 43 (0,0))∧Row Y 87 3 (.slice (some ⟨g,0,none⟩) 1 cap) 1 (sF t4.x t3.p)∧w§≤g∧(∃ a c,Rdr Y b G ts fa fe d a c)∧Mv w Y (fun k=>k=b)):=by
  obtain⟨a7,c7,hr7⟩:=x11.R
  have:=x11.lb
  have:=x11.lg
  have hg:=HG.out.1
  exact⟨hY1,hw7.of_block (fun k hk=>by simp [Value.ownBlock] at hk; subst hk; exact hY3 _ (by omega)),by omega,⟨a7,c7,hr7.blk (hY3 _ (by omega)) (hY3 _ (by omega)) (by omega)⟩,hY4 _ _ x11.mv (Nat.le_refl _)⟩
 clear cT4 cNd hr6 hm6 x11 X10 eY hY1 hY2 hY3 hY4 HEY4 z3 q3 z4 hw7 hg6 HG
 go_wp2_with fail
 rw [HEY.out]
 exact bodyPost_ret (results_cell_row (p:=2) (ty:=43) rfl _ _ w§ 43 #[.string t1.x,.slice none 0 0,.slice none 0 0,.slice (some ⟨g,0,none⟩) 1 cap] (0,0) _ rfl HY.out.1 Tryz.underlying43 rfl zK) rfl ⟨g,cap,rfl,HY.out.2⟩
theorem catch61_i (p q:Addr) (w:World) :
  CallsD Tryz.prog 61 #[.pointer (some p),.pointer (some q)] .returning w fun e u' w'=>e=.returned (.tuple #[])∧u'=.returning∧w'=w.alloc (.cells #[zI 0,.nilIface] 143):=by
 refine callsD_of_wpS Tryz.func61 rfl fun c₀ cs hu=>?_
 apply wpS_seq
 apply wpS_region
 simp [wpOpsS,go_sem,recoverD,hu,Tryz.ntmps61,assert_nil,Result.andThen,Exit.thenS]
 simp only [Array.replicate_succ,Array.replicate_zero,List.push_toArray,List.append_toArray,List.nil_append,List.cons_append,List.setIfInBounds_toArray,List.set_cons_zero,List.set_cons_succ]
 refine wpS_of_wp ?_
 go_wp2_with fail
 cases c₀
 simp_all [bodyPostS,results,Tryz.results61]
theorem catch61_p (Bp Bq:Nat) (call:ByteArray) (at':Int) (T:TypeId) (x:Value) (y:Value) (older:List PanicEntry) (w:World) (hp:w.heap[Bp]? = some (.cells #[.string call] 9 (0,0))) (hq:w.heap[Bq]? = some (.cells #[y] 45 (0,0))) :
  CallsD Tryz.prog 61 #[zP Bp,zP Bq] (.panicking ({ v:=.iface 143 (.agg #[zI at',.iface T x]),recovered:=false } :: older)) w fun e u' w' =>
   e=.returned (.tuple #[])∧u'=.panicking ({ v:=.iface 143 (.agg #[zI at',.iface T x]),recovered:=true } :: older)∧w'=((w.alloc (.cells #[zI at',.iface T x] 143)).alloc (.cells #[.string call,zI at',.iface T x] 76)).setCell ⟨Bq,0,none⟩ (.iface 74 (.pointer (some ⟨w§+1,0,none⟩))):=by
 have lp:=(Array.getElem?_eq_some_iff.1 hp).1
 have lq:=(Array.getElem?_eq_some_iff.1 hq).1
 have b1:=Bn w (.cells #[zI at',.iface T x] 143)
 have b2:=Bn (w.alloc (.cells #[zI at',.iface T x] 143)) (.cells #[.string call,zI at',.iface T x] 76)
 have hp1:(w.alloc (.cells #[zI at',.iface T x] 143)).cell? ⟨Bp,0,none⟩=some (.string call):=Co ((b1.block _ lp).trans hp) 0
 have hq2:=((b2.block Bq (by rw [Sa]; omega)).trans (b1.block _ lq)).trans hq
 have hq1:((w.alloc (.cells #[zI at',.iface T x] 143)).alloc (.cells #[.string call,zI at',.iface T x] 76)).cell? ⟨Bq,0,none⟩=some y:=Co hq2 0
 have hz1:=Fo hq2 0
 clear hq2 b1 b2 lp lq hp hq
 refine callsD_of_wpS Tryz.func61 rfl fun c₀ cs hu=>?_
 apply wpS_seq
 apply wpS_region
 simp [wpOpsS,go_sem,recoverD,hu,Tryz.ntmps61,assert_hit,Result.andThen,Exit.thenS]
 simp only [Array.replicate_succ,Array.replicate_zero,List.push_toArray,List.append_toArray,List.nil_append,List.cons_append,List.setIfInBounds_toArray,List.set_cons_zero,List.set_cons_succ]
 refine wpS_of_wp ?_
 go_wp2_with fail
 cases c₀
 simp_all [bodyPostS,results,Tryz.results61]
theorem catch61_n (Bp Bq:Nat) (call:ByteArray) (at':Int) (y:Value) (older:List PanicEntry) (w:World) (hp:w.heap[Bp]? = some (.cells #[.string call] 9 (0,0))) (hq:w.heap[Bq]? = some (.cells #[y] 45 (0,0))) :
  CallsD Tryz.prog 61 #[zP Bp,zP Bq] (.panicking ({ v:=.iface 143 (.agg #[zI at',.nilIface]),recovered:=false } :: older)) w fun e u' w' =>
   e=.returned (.tuple #[])∧u'=.panicking ({ v:=.iface 143 (.agg #[zI at',.nilIface]),recovered:=true } :: older)∧w'=((w.alloc (.cells #[zI at',.nilIface] 143)).alloc (.cells #[.string call,zI at',.nilIface] 76)).setCell ⟨Bq,0,none⟩ (.iface 74 (.pointer (some ⟨w§+1,0,none⟩))):=by
 have lp:=(Array.getElem?_eq_some_iff.1 hp).1
 have lq:=(Array.getElem?_eq_some_iff.1 hq).1
 have b1:=Bn w (.cells #[zI at',.nilIface] 143)
 have b2:=Bn (w.alloc (.cells #[zI at',.nilIface] 143)) (.cells #[.string call,zI at',.nilIface] 76)
 have hp1:(w.alloc (.cells #[zI at',.nilIface] 143)).cell? ⟨Bp,0,none⟩=some (.string call):=Co ((b1.block _ lp).trans hp) 0
 have hq2:=((b2.block Bq (by rw [Sa]; omega)).trans (b1.block _ lq)).trans hq
 have hq1:((w.alloc (.cells #[zI at',.nilIface] 143)).alloc (.cells #[.string call,zI at',.nilIface] 76)).cell? ⟨Bq,0,none⟩=some y:=Co hq2 0
 have hz1:=Fo hq2 0
 clear hq2 b1 b2 lp lq hp hq
 refine callsD_of_wpS Tryz.func61 rfl fun c₀ cs hu=>?_
 apply wpS_seq
 apply wpS_region
 simp [wpOpsS,go_sem,recoverD,hu,Tryz.ntmps61,assert_hit,Result.andThen,Exit.thenS]
 simp only [Array.replicate_succ,Array.replicate_zero,List.push_toArray,List.append_toArray,List.nil_append,List.cons_append,List.setIfInBounds_toArray,List.set_cons_zero,List.set_cons_succ]
 refine wpS_of_wp ?_
 go_wp2_with fail
 cases c₀
 simp_all [bodyPostS,results,Tryz.results61]
def OutE (s call:ByteArray) (w:World) (f:Ft) (e:Ending) (w':World):Prop :=
 (∃ F,e=.returned (.tuple #[.agg #[.string ⟨#[]⟩,.slice none 0 0,.slice none 0 0,.slice none 0 0],.iface 74 (zP F)])∧ErrAt w' s call f F∧w§≤F)∧Below w§ w w'
theorem caught61 {w V':World}{s call:ByteArray}{f:Ft}(at':Int) (ev:Value) (hsz:w§+3≤V'§) (g1:V'.heap[w§+1]? = some (.cells zA9 43 (0,0))) (g2:V'.heap[w§+2]? = some (.cells #[.nilIface] 45 (0,0))) (mW:Mv w V' (fun _=>False))
  (hE:∀ Y F,(∀ k,k < V'§→k≠w§+2→Y.heap[k]? = V'.heap[k]?)→Y.heap[F]? = some (.cells #[.string call,zI at',ev] 76 (0,0))→ErrAt Y s call f F) (tmps:Array Value) (ht6:tmps[6]?.getD undef=.pointer (some ⟨w§+1,0,none⟩)) (ht7:tmps[7]?.getD undef=.pointer (some ⟨w§+2,0,none⟩)) (Y:World)
  (eY:Y=((V'.alloc (.cells #[zI at',ev] 143)).alloc (.cells #[.string call,zI at',ev] 76)).setCell ⟨w§+2,0,none⟩ (.iface 74 (.pointer (some ⟨V'§+1,0,none⟩)))) :
  (results Tryz.f25 tmps).run Tryz.prog Y=.ok (.tuple #[.agg zA9,.iface 74 (.pointer (some ⟨V'§+1,0,none⟩))]) Y∧OutE s call w f (.returned (.tuple #[.agg zA9,.iface 74 (.pointer (some ⟨V'§+1,0,none⟩))])) Y:=by
 have b1:=Bn V' (.cells #[zI at',ev] 143)
 have s1:=Sa V' (.cells #[zI at',ev] 143)
 have b2:=Bn (V'.alloc (.cells #[zI at',ev] 143)) (.cells #[.string call,zI at',ev] 76)
 have n2:=Hn (V'.alloc (.cells #[zI at',ev] 143)) (.cells #[.string call,zI at',ev] 76)
 have old:∀ k,k < V'§→k≠w§+2→Y.heap[k]? = V'.heap[k]?:=fun k hk hn=>by
  rw [eY]
  exact ((Below.heap_setCell _ _ _ _ hn).trans (b2.block k (by omega))).trans (b1.block k hk)
 have y1:=(old _ (by omega) (by omega)).trans g1
 have y2:Y.heap[w§+2]? = some (.cells #[.iface 74 (.pointer (some ⟨V'§+1,0,none⟩))] 45 (0,0)):=by
  rw [eY]
  exact Hs0 (j:=0) _ (((b2.block _ (by omega)).trans (b1.block _ (by omega))).trans g2)
 have y3:Y.heap[V'§+1]? = some (.cells #[.string call,zI at',ev] 76 (0,0)):=by
  rw [eY]
  refine (Below.heap_setCell _ _ _ _ (show V'§+1≠w§+2 by omega)).trans ?_
  rw [← s1]; exact n2
 have mY:Mv w Y (fun _=>False):=by
  rw [eY]
  exact (((mW.trans (Mv.ofBelow b1) (fun _ e=>.inl e)).trans (Mv.ofBelow b2) (fun _ e=>.inl e))).setCell (a:=⟨w§+2,0,none⟩) (.inr (by show w§≤w§+2; omega)) _
 refine⟨?_,⟨_,rfl,hE _ _ old y3,by omega⟩,mY.toBelow⟩
 have z0:Y.cell? ⟨w§+2,0,none⟩=some (.iface 74 (.pointer (some ⟨V'§+1,0,none⟩))):=Co y2 0
 obtain⟨c0,c1,c2,c3⟩:=cl4 y1
 clear eY
 simp [results,Tryz.results25,go_sem,ht6,ht7,z0,c0,c1,c2,c3]
theorem WX.err61 {w W3:World}{s call:ByteArray}{fa:Int}{fe:Value}{b G:Nat}{ts:List Tk}{V:World}(h:WX w W3 s call fa fe b G ts V) (hs3:W3§=w§+3) (h0:W3.heap[w§]? = some (.cells #[.string call] 9 (0,0))) (h1:W3.heap[w§+1]? = some (.cells zA9 43 (0,0))) (h2:W3.heap[w§+2]? = some (.cells #[.nilIface] 45 (0,0))) (f:Ft) {V':World}(hm:Mv V V' (fun k=>k=b)) (tmps:Array Value) (ht6:tmps[6]?.getD undef=.pointer (some ⟨w§+1,0,none⟩)) (ht7:tmps[7]?.getD undef=.pointer (some ⟨w§+2,0,none⟩)) :
  Leaves Tryz.prog Tryz.f25 tmps (fun e w'=>OutE s call w f e w') [{ target:=.fn (.func 61) #[zP w§,.pointer (some ⟨w§+2,0,none⟩)],args:=#[] }] (.panicking [{ v:=ftV fa fe f,recovered:=false }]) V':=by
 have hlow:∀ k,k < w§+3→V'.heap[k]? = W3.heap[k]?:=fun k hk=>(hm.block k (Nat.lt_of_lt_of_le (by omega) h.M.size) (by have:=h.hb; omega)).trans (h.low (by omega))
 have g0:=(hlow _ (by omega)).trans h0
 have g1:=(hlow _ (by omega)).trans h1
 have g2:=(hlow _ (by omega)).trans h2
 have hFV:FeAt V' s fa fe:=h.F.on (fun k hk F e1 e2=>hm.block k hk (by rw [e2]; exact h.Fb F e1))
 have hsz:w§+3≤V'§:=by have:=h.M.size; have:=hm.size; omega
 have mW:Mv w V' (fun _=>False):=((Mv.ofBelow h.B).trans h.M (fun k e=>.inr (by have:=h.hb; omega))).trans hm (fun k e=>.inr (by have:=h.hb; omega))
 cases f with
 | tok no p =>
  refine leaves_cons (f:=61) (args:=#[zP w§,.pointer (some ⟨w§+2,0,none⟩)]) (by simp) (by simp [go_sem]) ?_
  refine (catch61_p _ _ call p 48 (zI no) .nilIface [] V' g0 g2).mono ?_
  rintro e u' w'' ⟨rfl,rfl,eY⟩
  obtain⟨q1,q2⟩:=caught61 (s:=s) (f:=.tok no p) p (.iface 48 (zI no)) hsz g1 g2 mW (fun Y F _ h=>h) tmps ht6 ht7 _ eY
  exact⟨_,q1,q2⟩
 | lex =>
  by_cases hE:tksE s=0
  ·obtain⟨rfl,rfl⟩:=hFV.1 hE
   refine leaves_cons (f:=61) (args:=#[zP w§,.pointer (some ⟨w§+2,0,none⟩)]) (by simp) (by simp [go_sem]) ?_
   refine (catch61_n _ _ call 0 .nilIface [] V' g0 g2).mono ?_
   rintro e u' w'' ⟨rfl,rfl,eY⟩
   obtain⟨q1,q2⟩:=caught61 (s:=s) (f:=.lex) 0 .nilIface hsz g1 g2 mW (fun Y F _ h=>⟨0,.nilIface,h,fun _=>⟨rfl,rfl⟩,fun e=>absurd hE e⟩) tmps ht6 ht7 _ eY
   exact⟨_,q1,q2⟩
  ·obtain⟨rfl,F',rfl,hF'⟩:=hFV.2 hE
   refine leaves_cons (f:=61) (args:=#[zP w§,.pointer (some ⟨w§+2,0,none⟩)]) (by simp) (by simp [go_sem]) ?_
   refine (catch61_p _ _ call (tksB s) 74 (zP F') .nilIface [] V' g0 g2).mono ?_
   rintro e u' w'' ⟨rfl,rfl,eY⟩
   obtain⟨q1,q2⟩:=caught61 (s:=s) (f:=.lex) (tksB s) (.iface 74 (zP F')) hsz g1 g2 mW (fun Y F ho h=>⟨tksB s,.iface 74 (zP F'),h,fun e=>absurd e hE,fun _=>⟨rfl,F',rfl,(ho F' (Array.getElem?_eq_some_iff.1 hF').1 (fun e=>by rw [e,g2] at hF'; cases hF')).trans hF'⟩⟩) tmps ht6 ht7 _ eY
   exact⟨_,q1,q2⟩
end Go.Proofs.YtkfabnchhjfjjaaGreatDoor
