import Derived.Test.YtfbjofnaghjmeaaGreatDoorA30
import Derived.Test.YtfbjofnaghjmeaaGreatDoorA27
import Derived.Laws.CopyOwn
namespace Go.Proofs.YtfbjofnaghjmeaaGreatDoor
open Go.Proofs.Tryz
set_option maxRecDepth 100000
set_option maxHeartbeats 4000000
open Go Go.RowKit Go.Maps
set_option linter.unusedVariables false
set_option linter.unusedSimpArgs false
def plA:(yB→Option Nat)→Nat→List yB→yB→Option Nat
 | P,_,[]=>P
 | P,i,x :: xs=>plA (fun y=>if x=y then some i else P y) (i+1) xs
def plL (l:List yB):yB→Option Nat:=plA (fun _=>none) 0 l
def PlN (w:yW) (b n:Nat) (P:yB→Option Nat):Prop :=
 ∃ D,w.ownsMap zG 9 (plainElem (H:=Unit) zG 3) b n D∧∀ x i,x.size≤maxLen→P x=some i→D.atKey (.string x.data.toList) (.lit (.int .i64 0))=.lit (.int .i64 (i:Nat))
theorem PlN.m {w:yW}{b n:Nat}{P:yB→Option Nat}(h:PlN w b n P):PlM w b P:=⟨n,h⟩
theorem PlN.on {w w':yW}{b n:Nat}{P:yB→Option Nat}(h:PlN w b n P) (k:yD w w'):PlN w' b n P:=by
 obtain⟨D,ho,hL⟩:=h
 have hlt:=ho.lt
 obtain⟨es,clock,hb,F,hs,hD⟩:=ho
 exact⟨D,⟨es,clock,(k.block b hlt).trans hb,F,hs,hD⟩,hL⟩
theorem PlN.made (w:yW):PlN (w.alloc (.map #[] 0)) w§ 0 (fun _=>none):=⟨_,World.ownsMap_made w _ _ _,fun x i _ e=>by cases e⟩
theorem PlN.put {w w':yW}{b n i:Nat}{P:yB→Option Nat}{x:yB}{D:DataW Unit}(ho:w.ownsMap zG 9 (plainElem zG 3) b n D)
  (hL:∀ x i,x.size≤maxLen→P x=some i→D.atKey (.string x.data.toList) (.lit (.int .i64 0))=.lit (.int .i64 (i:Nat)))
  (h:w'.ownsMap zG 9 (plainElem zG 3) b (n+1) (D.put (.string x.data.toList) (.lit (.int .i64 (i:Nat))))):PlN w' b (n+1) (fun y=>if x=y then some i else P y):=by
 have hD:IsMap D:=by obtain⟨es,clock,_,_,_,e⟩:=ho;exact⟨_,e⟩
 refine⟨_,h,fun y j hy hj=>?_⟩
 by_cases hr:x=y
 ·subst hr
  simp only [if_true] at hj
  cases hj
  rw [atKey_put_same hD (by trivial)]
 ·simp only [if_neg hr] at hj
  rw [atKey_put_other (Pd hr)]
  exact hL y j hy hj
theorem Qej (d:RegM) (w:yW):Calls zG 66 #[.agg d.vals] w fun e w'=>e=.returned (.string d.x)∧yD w w':=by
 have HN:=Qc w (.cells d.vals 102)
 have c0:(zA w d.vals 102).cell? w§¢0=some (.string d.x):=Qa HN 0
 have HB:Hid (yD w (zA w d.vals 102)):=Qb _ _
 obtain⟨W,eW⟩:∃ W,w.alloc (.cells d.vals 102)=W:=jV
 have EW:=zH eW
 rw [eW] at c0 HB
 clear HN eW
 go_enter func66,ntmps66
 go_upto_region 1 with fail
 rw [EW.out]
 go_wp2
 go_ret
 exact⟨rfl,HB.out⟩
theorem Qam (a:Option Addr) (c:Nat) (ds:List RegM) (w:yW) (hs:SlAt w 11 a c (ds.map RegM.vals)) (hx:∀ d ∈ ds,d.x.size≤maxLen) :
  Calls zG 65 #[.slice a ds.length c,.func (.func 66) #[] #[]] w fun e w'=>∃ b,e=.returned (.map (some b))∧w§≤b∧PlM w' b (plL (ds.map RegM.x))∧yD w w':=by
 have HM0:=zH (PlN.made w)
 have HB0:Hid (yD w (w.alloc (.map #[] 0))):=Qb _ _
 have HSL:=zH hs
 have HX:=zH hx
 obtain⟨R,eR⟩:∃ R,plL (ds.map RegM.x)=R:=jV
 have HR0:=zH eR
 rw [eR]
 obtain⟨W2,e2⟩:∃ W,w.alloc (.map #[] 0)=W:=jV
 have E2:=zH e2
 rw [e2] at HM0 HB0
 clear eR hs hx e2
 have hmk:∀ w:yW,Sem.run zG (Instr.makeMap 89 none) w=.ok (.map (some w§)) (w.alloc (.map #[] 0)):=fun w=>by first | rfl | exact run_makeMap _ _ _ | simp [run_makeMap]
 go_enter func65,ntmps65
 go_upto_region 2 with fail
 rw [E2.out]
 go_wp2_with fail
 clear E2 hmk
 go_loopw [11] (fun t wr=>∃ (i:Nat) (P:yB→Option Nat),i≤ds.length∧t=zI i∧Hid (yD w wr)∧Hid (PlN wr w§ i P)∧Hid (plA P i ((ds.drop i).map RegM.x)=R)) (fun t _=>ds.length - (intOf t).toNat)
 case atStart=>exact⟨0,_,by omega,rfl,HB0,HM0,HR0⟩
 case round =>
  obtain⟨i,P,hi,rfl,HBR,HR,HRR⟩:=hrel
  by_cases hlt:i < ds.length
  ·have hlt':(i:Int) < (ds.length:Int):=by omega
   have hlen:ds.length≤jX:=by have h1:=HSL.out.1;have h2:=HSL.out.2.1;rw [List.length_map] at h1;omega
   have hmx:(i:Int)+1≤jX:=by omega
   have hn:i < maxLen:=by unfold maxLen;omega
   have hwf:(Lit.int .i64 (i:Int)).wf=true:=by rw [show (Lit.int .i64 (i:Int)).wf=(decide ((-9223372036854775808:Int)≤(i:Int)) && decide ((i:Int)≤jX)) from rfl,decide_eq_true zY,decide_eq_true zY];rfl
   obtain⟨b,o,ea,hat⟩:=(HSL.out.on (mapz RegM.sz _) HBR.out).2.2 i (by rw [List.length_map];exact hlt)
   simp only [List.getElem_map] at hat
   have HMEM:Hid (ds[i] ∈ ds):=List.getElem_mem hlt
   have HTK:Hid (plA (fun y=>if ds[i].x=y then some i else P y) (i+1) ((ds.drop (i+1)).map RegM.x)=R):=by show _=_;rw [← HRR.out,List.drop_eq_getElem_cons hlt];rfl
   obtain⟨d,ed⟩:∃ d,ds[i]=d:=jV
   rw [ed] at hat HTK HMEM
   have HRG:Hid (wr.rangeAt b (o+i * 11) d.vals.toList):=fun j v hv=>by
    have hj:j < 11:=(List.getElem?_eq_some_iff.1 hv).1
    rw [hat j hj,← hv];simp
   have HZ:Hid ((zA wr ze 102).heap[wr§]? = (zC ze 102)):=Qc _ _
   have hbx:yD wr ((zA wr ze 102).setRow wr§ d.vals):=Qn (Qb _ _) (Nat.le_refl _) _
   have HBX:=zH (Qd HBR.out hbx)
   have HNX:Hid (((zA wr ze 102).setRow wr§ d.vals).heap[wr§]? = (zC d.vals 102)):=setRow_heap _ _ _ _ _ _ HZ.out
   have HMX:=zH (HR.out.on hbx)
   subst ea
   clear hat ed hbx HR hlen HRR
   go_upto_region 5 with (first | (refine wpList_load_mid rfl 102 (.tmp 14) rfl b (o+i * 11) rfl d.vals.toList _ HRG.out underlying102 rfl (by show _=some 11;exact QO) ?_;rw [Array.toArray_toList]) | (refine wpList_store_row rfl 102 (.tmp 7) (.tmp 15) rfl wr§ d.vals rfl rfl 102 ze HZ.out QO rfl (Uq d) ?_))
   generalize hWX:World.setRow _ _ _=WX
   rw [hWX] at HBX HNX HMX
   clear hWX HZ HRG
   have hxx:=HX.out d HMEM.out
   have cN:Calls zG 66 #[.agg d.vals] WX fun e w'=>e=.returned (.string d.x)∧yD WX w':=Qej d WX
   go_wp2_with (refine wpList_load_row rfl 102 (.tmp 7) rfl wr§ rfl 102 d.vals (0,0) _ HNX.out underlying102 rfl QO ?_)
   refine cN.mono ?_
   rintro e w5 ⟨rfl,hb5⟩
   have HB5:=zH (Qd HBX.out hb5)
   obtain⟨D,hown,hL⟩:=HMX.out.on hb5
   have HP:Hid (∀ w1:yW,w1.ownsMap zG 9 (plainElem zG 3) w§ (i+1) (D.put (.string d.x.data.toList) (.lit (.int .i64 (i:Nat))))→PlN w1 w§ (i+1) (fun y=>if d.x=y then some i else P y)):=fun w1 h1=>PlN.put hown hL h1
   have hkey:=WideMaps.keyOf_string_mk (P:=zG) underlying9 hxx
   clear cN hb5 hL HBX HNX HMX
   go_wp2_with (at_mapUpdate;refine wpList_mapUpdate_own _ rfl _ _ _ 89 rfl 9 3 law9 underlying89 _ w§ i D rfl hown hn _ _ _ rfl rfl hkey _ [] (plainElem_int underlying3 hwf) ?_;intro w1 hown1 hgrow1)
   exact⟨⟨i+1,_,hlt,rfl,HB5.out.grown hgrow1 HB5.out.size (fun k hk=>by cases hk;omega),HP.out w1 hown1,HTK.out⟩,by simp only [intOf];omega⟩
  ·obtain rfl:i=ds.length:=by omega
   have hnot:¬ (ds.length:Int) < (ds.length:Int):=by omega
   have HM:Hid (PlM wr w§ R):=by have h1:=HRR.out;rw [List.drop_length] at h1;subst h1;exact HR.out.m
   clear HR HRR
   go_wp2
   go_ret
   exact⟨_,rfl,by omega,HM.out,HBR.out⟩
theorem Qck (d:Qx) (w:yW):Calls zG 80 #[.agg d.vals] w fun e w'=>e=.returned (.string d.x)∧yD w w':=by
 have HN:=Qc w (.cells d.vals 129)
 have c0:(zA w d.vals 129).cell? w§¢0=some (.string d.x):=Qa HN 0
 have HB:Hid (yD w (zA w d.vals 129)):=Qb _ _
 obtain⟨W,eW⟩:∃ W,w.alloc (.cells d.vals 129)=W:=jV
 have EW:=zH eW
 rw [eW] at c0 HB
 clear HN eW
 go_enter func80,ntmps80
 go_upto_region 1 with fail
 rw [EW.out]
 go_wp2
 go_ret
 exact⟨rfl,HB.out⟩
theorem PX (a:Option Addr) (c:Nat) (ds:List Qx) (w:yW) (hs:SlAt w 2 a c (ds.map Qx.vals)) (hx:∀ d ∈ ds,d.x.size≤maxLen) :
  Calls zG 79 #[.slice a ds.length c,.func (.func 80) #[] #[]] w fun e w'=>∃ b,e=.returned (.map (some b))∧w§≤b∧PlM w' b (plL (ds.map Qx.x))∧yD w w':=by
 have HM0:=zH (PlN.made w)
 have HB0:Hid (yD w (w.alloc (.map #[] 0))):=Qb _ _
 have HSL:=zH hs
 have HX:=zH hx
 obtain⟨R,eR⟩:∃ R,plL (ds.map Qx.x)=R:=jV
 have HR0:=zH eR
 rw [eR]
 obtain⟨W2,e2⟩:∃ W,w.alloc (.map #[] 0)=W:=jV
 have E2:=zH e2
 rw [e2] at HM0 HB0
 clear eR hs hx e2
 have hmk:∀ w:yW,Sem.run zG (Instr.makeMap 89 none) w=.ok (.map (some w§)) (w.alloc (.map #[] 0)):=fun w=>by first | rfl | exact run_makeMap _ _ _ | simp [run_makeMap]
 go_enter func79,ntmps79
 go_upto_region 2 with fail
 rw [E2.out]
 go_wp2_with fail
 clear E2 hmk
 go_loopw [11] (fun t wr=>∃ (i:Nat) (P:yB→Option Nat),i≤ds.length∧t=zI i∧Hid (yD w wr)∧Hid (PlN wr w§ i P)∧Hid (plA P i ((ds.drop i).map Qx.x)=R)) (fun t _=>ds.length - (intOf t).toNat)
 case atStart=>exact⟨0,_,by omega,rfl,HB0,HM0,HR0⟩
 case round =>
  obtain⟨i,P,hi,rfl,HBR,HR,HRR⟩:=hrel
  by_cases hlt:i < ds.length
  ·have hlt':(i:Int) < (ds.length:Int):=by omega
   have hlen:ds.length≤jX:=by have h1:=HSL.out.1;have h2:=HSL.out.2.1;rw [List.length_map] at h1;omega
   have hmx:(i:Int)+1≤jX:=by omega
   have hn:i < maxLen:=by unfold maxLen;omega
   have hwf:(Lit.int .i64 (i:Int)).wf=true:=by rw [show (Lit.int .i64 (i:Int)).wf=(decide ((-9223372036854775808:Int)≤(i:Int)) && decide ((i:Int)≤jX)) from rfl,decide_eq_true zY,decide_eq_true zY];rfl
   obtain⟨b,o,ea,hat⟩:=(HSL.out.on (mapz Qx.sz _) HBR.out).2.2 i (by rw [List.length_map];exact hlt)
   simp only [List.getElem_map] at hat
   have HMEM:Hid (ds[i] ∈ ds):=List.getElem_mem hlt
   have HTK:Hid (plA (fun y=>if ds[i].x=y then some i else P y) (i+1) ((ds.drop (i+1)).map Qx.x)=R):=by show _=_;rw [← HRR.out,List.drop_eq_getElem_cons hlt];rfl
   obtain⟨d,ed⟩:∃ d,ds[i]=d:=jV
   rw [ed] at hat HTK HMEM
   have HRG:Hid (wr.rangeAt b (o+i * 2) d.vals.toList):=fun j v hv=>by
    have hj:j < 2:=(List.getElem?_eq_some_iff.1 hv).1
    rw [hat j hj,← hv];simp
   have HZ:Hid ((zA wr zx 129).heap[wr§]? = (zC zx 129)):=Qc _ _
   have hbx:yD wr ((zA wr zx 129).setRow wr§ d.vals):=Qn (Qb _ _) (Nat.le_refl _) _
   have HBX:=zH (Qd HBR.out hbx)
   have HNX:Hid (((zA wr zx 129).setRow wr§ d.vals).heap[wr§]? = (zC d.vals 129)):=setRow_heap _ _ _ _ _ _ HZ.out
   have HMX:=zH (HR.out.on hbx)
   subst ea
   clear hat ed hbx HR hlen HRR
   go_upto_region 5 with (first | (refine wpList_load_mid rfl 129 (.tmp 14) rfl b (o+i * 2) rfl d.vals.toList _ HRG.out underlying129 rfl (by show _=some 2;exact J1) ?_;rw [Array.toArray_toList]) | (refine wpList_store_row rfl 129 (.tmp 7) (.tmp 15) rfl wr§ d.vals rfl rfl 129 zx HZ.out J1 rfl (all2 d) ?_))
   generalize hWX:World.setRow _ _ _=WX
   rw [hWX] at HBX HNX HMX
   clear hWX HZ HRG
   have hxx:=HX.out d HMEM.out
   have cN:Calls zG 80 #[.agg d.vals] WX fun e w'=>e=.returned (.string d.x)∧yD WX w':=Qck d WX
   go_wp2_with (refine wpList_load_row rfl 129 (.tmp 7) rfl wr§ rfl 129 d.vals (0,0) _ HNX.out underlying129 rfl J1 ?_)
   refine cN.mono ?_
   rintro e w5 ⟨rfl,hb5⟩
   have HB5:=zH (Qd HBX.out hb5)
   obtain⟨D,hown,hL⟩:=HMX.out.on hb5
   have HP:Hid (∀ w1:yW,w1.ownsMap zG 9 (plainElem zG 3) w§ (i+1) (D.put (.string d.x.data.toList) (.lit (.int .i64 (i:Nat))))→PlN w1 w§ (i+1) (fun y=>if d.x=y then some i else P y)):=fun w1 h1=>PlN.put hown hL h1
   have hkey:=WideMaps.keyOf_string_mk (P:=zG) underlying9 hxx
   clear cN hb5 hL HBX HNX HMX
   go_wp2_with (at_mapUpdate;refine wpList_mapUpdate_own _ rfl _ _ _ 89 rfl 9 3 law9 underlying89 _ w§ i D rfl hown hn _ _ _ rfl rfl hkey _ [] (plainElem_int underlying3 hwf) ?_;intro w1 hown1 hgrow1)
   exact⟨⟨i+1,_,hlt,rfl,HB5.out.grown hgrow1 HB5.out.size (fun k hk=>by cases hk;omega),HP.out w1 hown1,HTK.out⟩,by simp only [intOf];omega⟩
  ·obtain rfl:i=ds.length:=by omega
   have hnot:¬ (ds.length:Int) < (ds.length:Int):=by omega
   have HM:Hid (PlM wr w§ R):=by have h1:=HRR.out;rw [List.drop_length] at h1;subst h1;exact HR.out.m
   clear HR HRR
   go_wp2
   go_ret
   exact⟨_,rfl,by omega,HM.out,HBR.out⟩
theorem Qav (d:Qq) (w:yW):Calls zG 82 #[.agg d.vals] w fun e w'=>e=.returned (.string d.x)∧yD w w':=by
 have HN:=Qc w (.cells d.vals 69)
 have c0:(zA w d.vals 69).cell? w§¢0=some (.string d.x):=Qa HN 0
 have HB:Hid (yD w (zA w d.vals 69)):=Qb _ _
 obtain⟨W,eW⟩:∃ W,w.alloc (.cells d.vals 69)=W:=jV
 have EW:=zH eW
 rw [eW] at c0 HB
 clear HN eW
 go_enter func82,ntmps82
 go_upto_region 1 with fail
 rw [EW.out]
 go_wp2
 go_ret
 exact⟨rfl,HB.out⟩
theorem Hr (a:Option Addr) (c:Nat) (ds:List Qq) (w:yW) (hs:SlAt w 3 a c (ds.map Qq.vals)) (hx:∀ d ∈ ds,d.x.size≤maxLen) :
  Calls zG 81 #[.slice a ds.length c,.func (.func 82) #[] #[]] w fun e w'=>∃ b,e=.returned (.map (some b))∧w§≤b∧PlM w' b (plL (ds.map Qq.x))∧yD w w':=by
 have HM0:=zH (PlN.made w)
 have HB0:Hid (yD w (w.alloc (.map #[] 0))):=Qb _ _
 have HSL:=zH hs
 have HX:=zH hx
 obtain⟨R,eR⟩:∃ R,plL (ds.map Qq.x)=R:=jV
 have HR0:=zH eR
 rw [eR]
 obtain⟨W2,e2⟩:∃ W,w.alloc (.map #[] 0)=W:=jV
 have E2:=zH e2
 rw [e2] at HM0 HB0
 clear eR hs hx e2
 have hmk:∀ w:yW,Sem.run zG (Instr.makeMap 89 none) w=.ok (.map (some w§)) (w.alloc (.map #[] 0)):=fun w=>by first | rfl | exact run_makeMap _ _ _ | simp [run_makeMap]
 go_enter func81,ntmps81
 go_upto_region 2 with fail
 rw [E2.out]
 go_wp2_with fail
 clear E2 hmk
 go_loopw [11] (fun t wr=>∃ (i:Nat) (P:yB→Option Nat),i≤ds.length∧t=zI i∧Hid (yD w wr)∧Hid (PlN wr w§ i P)∧Hid (plA P i ((ds.drop i).map Qq.x)=R)) (fun t _=>ds.length - (intOf t).toNat)
 case atStart=>exact⟨0,_,by omega,rfl,HB0,HM0,HR0⟩
 case round =>
  obtain⟨i,P,hi,rfl,HBR,HR,HRR⟩:=hrel
  by_cases hlt:i < ds.length
  ·have hlt':(i:Int) < (ds.length:Int):=by omega
   have hlen:ds.length≤jX:=by have h1:=HSL.out.1;have h2:=HSL.out.2.1;rw [List.length_map] at h1;omega
   have hmx:(i:Int)+1≤jX:=by omega
   have hn:i < maxLen:=by unfold maxLen;omega
   have hwf:(Lit.int .i64 (i:Int)).wf=true:=by rw [show (Lit.int .i64 (i:Int)).wf=(decide ((-9223372036854775808:Int)≤(i:Int)) && decide ((i:Int)≤jX)) from rfl,decide_eq_true zY,decide_eq_true zY];rfl
   obtain⟨b,o,ea,hat⟩:=(HSL.out.on (mapz Qq.sz _) HBR.out).2.2 i (by rw [List.length_map];exact hlt)
   simp only [List.getElem_map] at hat
   have HMEM:Hid (ds[i] ∈ ds):=List.getElem_mem hlt
   have HTK:Hid (plA (fun y=>if ds[i].x=y then some i else P y) (i+1) ((ds.drop (i+1)).map Qq.x)=R):=by show _=_;rw [← HRR.out,List.drop_eq_getElem_cons hlt];rfl
   obtain⟨d,ed⟩:∃ d,ds[i]=d:=jV
   rw [ed] at hat HTK HMEM
   have HRG:Hid (wr.rangeAt b (o+i * 3) d.vals.toList):=fun j v hv=>by
    have hj:j < 3:=(List.getElem?_eq_some_iff.1 hv).1
    rw [hat j hj,← hv];simp
   have HZ:Hid ((zA wr zm 69).heap[wr§]? = (zC zm 69)):=Qc _ _
   have hbx:yD wr ((zA wr zm 69).setRow wr§ d.vals):=Qn (Qb _ _) (Nat.le_refl _) _
   have HBX:=zH (Qd HBR.out hbx)
   have HNX:Hid (((zA wr zm 69).setRow wr§ d.vals).heap[wr§]? = (zC d.vals 69)):=setRow_heap _ _ _ _ _ _ HZ.out
   have HMX:=zH (HR.out.on hbx)
   subst ea
   clear hat ed hbx HR hlen HRR
   go_upto_region 5 with (first | (refine wpList_load_mid rfl 69 (.tmp 14) rfl b (o+i * 3) rfl d.vals.toList _ HRG.out underlying69 rfl (by show _=some 3;exact Je) ?_;rw [Array.toArray_toList]) | (refine wpList_store_row rfl 69 (.tmp 7) (.tmp 15) rfl wr§ d.vals rfl rfl 69 zm HZ.out Je rfl (Hc d) ?_))
   generalize hWX:World.setRow _ _ _=WX
   rw [hWX] at HBX HNX HMX
   clear hWX HZ HRG
   have hxx:=HX.out d HMEM.out
   have cN:Calls zG 82 #[.agg d.vals] WX fun e w'=>e=.returned (.string d.x)∧yD WX w':=Qav d WX
   go_wp2_with (refine wpList_load_row rfl 69 (.tmp 7) rfl wr§ rfl 69 d.vals (0,0) _ HNX.out underlying69 rfl Je ?_)
   refine cN.mono ?_
   rintro e w5 ⟨rfl,hb5⟩
   have HB5:=zH (Qd HBX.out hb5)
   obtain⟨D,hown,hL⟩:=HMX.out.on hb5
   have HP:Hid (∀ w1:yW,w1.ownsMap zG 9 (plainElem zG 3) w§ (i+1) (D.put (.string d.x.data.toList) (.lit (.int .i64 (i:Nat))))→PlN w1 w§ (i+1) (fun y=>if d.x=y then some i else P y)):=fun w1 h1=>PlN.put hown hL h1
   have hkey:=WideMaps.keyOf_string_mk (P:=zG) underlying9 hxx
   clear cN hb5 hL HBX HNX HMX
   go_wp2_with (at_mapUpdate;refine wpList_mapUpdate_own _ rfl _ _ _ 89 rfl 9 3 law9 underlying89 _ w§ i D rfl hown hn _ _ _ rfl rfl hkey _ [] (plainElem_int underlying3 hwf) ?_;intro w1 hown1 hgrow1)
   exact⟨⟨i+1,_,hlt,rfl,HB5.out.grown hgrow1 HB5.out.size (fun k hk=>by cases hk;omega),HP.out w1 hown1,HTK.out⟩,by simp only [intOf];omega⟩
  ·obtain rfl:i=ds.length:=by omega
   have hnot:¬ (ds.length:Int) < (ds.length:Int):=by omega
   have HM:Hid (PlM wr w§ R):=by have h1:=HRR.out;rw [List.drop_length] at h1;subst h1;exact HR.out.m
   clear HR HRR
   go_wp2
   go_ret
   exact⟨_,rfl,by omega,HM.out,HBR.out⟩
structure ModM where
 st:Int
 ra:Option Addr
 rc:Nat
 rg:List Int
def ModM.vals (m:ModM):Array Value:=#[zI m.st,.slice m.ra m.rg.length m.rc]
def iA (v:Int):Array Value:=#[zI v]
theorem iA_sz (v:Int):(iA v).size=1:=rfl
def ModL (w:yW) (m:ModM):Prop:=SlAt w 1 m.ra m.rc (m.rg.map iA)∧(∀ v ∈ m.rg,I64 v)∧I64 m.st
theorem ModL.on {w w':yW}{m:ModM}(h:ModL w m) (k:yD w w'):ModL w' m:=⟨h.1.on (mapz iA_sz _) k,h.2⟩
theorem mk27 {n:Nat}(hn:n≤65536) (W:yW):Sem.run zG (Instr.makeSlice 27 (zI (n:Int)) (zI (n:Int))) W=.ok (.slice (some W§¢0) n n) (zA W (madeCells #[zI 0] n) 2):=by
 obtain⟨i0,hi0,hz0,hz1,hz2⟩:=info_parts (show (Tryz.prog.info? 2).map (fun i=>(i.zero,i.size,i.bytes))=some (some (zI 0),1,8) by kernel_rfl)
 have:=run_make (P:=zG) W 27 2 i0 _ underlying27 hi0 hz0 .i64 .i64 n n zY (Int.le_refl _) (by rw [hz2];omega) zY
 rw [this,hz1]
 simp only [Int.toNat_natCast,Nat.mul_one]
 rfl
theorem FQ {α:Type}(L cs:List α) (h:cs.length=L.length):splice L 0 cs=cs:=by
 unfold splice
 simp [h]
theorem Jz (m:ModM):(Tryz.prog.info? 29).map (·.size)=some m.vals.size:=by show _=some 2;kernel_rfl
theorem all29 (m:ModM):m.vals.all (·.oneCell')=true:=by simp [ModM.vals,Value.oneCell']
theorem KZ (m:ModM) (w:yW) (hl:ModL w m) (hn:m.rg.length≤65536) :
  Calls zG 49 #[.agg m.vals] w fun e w'=>∃ b,e=.returned (.agg (ModM.mk m.st (some b¢0) m.rg.length m.rg).vals)∧w§≤b∧w'.heap[b]? = (zC (QX m.rg) 2)∧yD w w':=by
 have b1:=Qb w (.cells m.vals 29)
 have b2:=Qb (zA w m.vals 29) (.cells zw 29)
 have n1:=Qc w (.cells m.vals 29)
 have n2:=Qc (zA w m.vals 29) (.cells zw 29)
 have s1:=Qe w (.cells m.vals 29)
 have s2:=Qe (zA w m.vals 29) (.cells zw 29)
 obtain⟨W2,e2⟩:∃ W,(zA w m.vals 29).alloc (.cells zw 29)=W:=jV
 have E2:=zH e2
 rw [s1] at n2
 rw [e2] at b2 n2 s2
 have hz:W2§=w§+2:=by omega
 have n1':W2.heap[w§]? = (zC m.vals 29):=heapOf b2 n1
 have b3:=Qb W2 (.cells (madeCells #[zI 0] m.rg.length) 2)
 have n3:=Qc W2 (.cells (madeCells #[zI 0] m.rg.length) 2)
 have HW:=zH (Qd b1 b2)
 have hmk:∀ W,Sem.run zG (Instr.makeSlice 27 (zI (m.rg.length:Int)) (zI (m.rg.length:Int))) W=.ok (.slice (some W§¢0) m.rg.length m.rg.length) (zA W (madeCells #[zI 0] m.rg.length) 2):=mk27 hn
 have c1:zQ W2 w§¢1 (.slice m.ra m.rg.length m.rc):=Qa n1' 1
 obtain⟨W3,e3⟩:∃ W,W2.alloc (.cells (madeCells #[zI 0] m.rg.length) 2)=W:=jV
 have E3:=zH e3
 rw [e3] at b3 n3
 have HB3:=zH (Qd HW.out b3)
 have HN1:=zH (heapOf b3 n1')
 have HN2:=zH (heapOf b3 n2)
 rw [hz] at n3
 have HN3:Hid (W3.heap[w§+2]? = (zC (madeCells #[zI 0] m.rg.length).toList.toArray 2)):=by show _=_;rw [Array.toArray_toList];exact n3
 have HZ:=zH hz
 have HL:Hid (ModL w m):=hl
 have d1:zQ W3 w§¢1 (.slice m.ra m.rg.length m.rc):=Qa HN1.out 1
 clear b1 b2 n1 n2 s1 s2 e2 n1' b3 n3 e3 hz hl hn
 go_enter func49,ntmps49
 go_upto_region 1 with fail
 rw [E2.out]
 go_upto_region 2 with fail
 rw [E3.out,HZ.out]
 clear c1 hmk E2 E3
 obtain⟨cs,ecs⟩:∃ cs,m.rg.map (Value.int .i64)=cs:=jV
 have HCS:=zH ecs
 obtain⟨cur,ecur⟩:∃ cur,(madeCells #[zI 0] m.rg.length).toList=cur:=jV
 have HCU:Hid (cur.length=m.rg.length):=by show _=_;rw [← ecur,Array.length_toList,size_madeCells]
 rw [ecur] at HN3
 have hlen:cs.length=Nat.min m.rg.length m.rg.length:=by rw [← ecs];simp
 have hpos:0 < cs.length→(some ⟨w§+2,0,none⟩:Option Addr)=some ⟨w§+2,0,none⟩∧∃ ad,m.ra=some ad∧∀ j v,cs[j]? = some v→W3.cell? (ad.add j)=some v:=fun h0=>by
  have hl3:=(HL.out.on HB3.out).1
  have hl0:0 < m.rg.length:=by rw [← ecs] at h0;simpa using h0
  obtain⟨b,o,ea,_⟩:=hl3.2.2 0 (by rw [List.length_map];exact hl0)
  refine⟨rfl,_,ea,fun j v hv=>?_⟩
  rw [← ecs] at hv
  obtain⟨hj,hv⟩:=List.getElem?_eq_some_iff.1 hv
  rw [List.length_map] at hj
  obtain⟨b',o',ea',hat⟩:=hl3.2.2 j (by rw [List.length_map];exact hj)
  have ee:=ea.symm.trans ea'
  cases ee
  have:=hat 0 zY
  simp only [List.getElem_map] at this hv
  rw [← hv]
  rw [Addr.add_lit]
  simpa [iA] using this
 have hone:∀ v ∈ cs,v.oneCell'=true:=fun v hv=>by rw [← ecs] at hv;obtain⟨z,_,rfl⟩:=List.mem_map.1 hv;rfl
 have hfit:0+cs.length≤cur.length:=by rw [HCU.out,← ecs];simp
 clear ecs ecur
 go_upto_region 3 with (refine wpList_copy_splice rfl (.tmp 8) (.tmp 10) 27 27 rfl 2 underlying27 zK (some ⟨w§+2,0,none⟩) m.ra m.rg.length m.rg.length m.rg.length m.rc rfl rfl (w§+2) 0 cur 2 HN3.out cs hlen hpos hfit hone (w§+2) W3 (Below.refl _ _) (Nat.le_refl _) ?_;intro w4 HG4 hB4)
 have HB4:=zH (HB3.out.trans (hB4.mono zY))
 have M1:w4.heap[w§]? = (zC m.vals 29):=(hB4.block _ zY).trans HN1.out
 have M2:Hid (w4.heap[w§+1]? = (zC zw 29)):=(hB4.block _ zY).trans HN2.out
 have HG:Hid (w4.heap[w§+2]? = (zC (QX m.rg) 2)):=by
  show _=_
  rw [HG4.out,FQ _ _ (by rw [hlen,HCU.out];simp),← HCS.out]
  rfl
 have d0:zQ w4 w§¢0 (zI m.st):=Qa M1 0
 clear M1 HG4 hB4 hlen hpos hone hfit d1 HN1 HN2 HN3 HB3
 go_wp2_with (refine wpList_store_row rfl 29 (.tmp 2) (.tmp 15) rfl (w§+1) (ModM.mk m.st (some ⟨w§+2,0,none⟩) m.rg.length m.rg).vals rfl rfl 29 _ M2.out (Jz _) rfl (all29 _) ?_)
 refine bodyPost_ret (results_cell_row rfl _ _ (w§+1) 29 (ModM.mk m.st (some ⟨w§+2,0,none⟩) m.rg.length m.rg).vals (0,0) _ rfl (setRow_heap _ _ _ _ _ _ M2.out) underlying29 rfl (Jz _)) rfl ⟨w§+2,rfl,by omega,(setRow_other _ _ _ _ zY).trans HG.out,Qn HB4.out zY _⟩
end Go.Proofs.YtfbjofnaghjmeaaGreatDoor
