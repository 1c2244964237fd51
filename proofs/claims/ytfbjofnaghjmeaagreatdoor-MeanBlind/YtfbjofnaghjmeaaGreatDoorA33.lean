import Derived.Test.YtfbjofnaghjmeaaGreatDoorA0
import Derived.Test.YtfbjofnaghjmeaaGreatDoorA32
import Derived.Test.YtfbjofnaghjmeaaGreatDoorA23
import Derived.Laws.CopyOwn
import Derived.OwnWalk
import Derived.WalkMore
namespace Go.Proofs.YtfbjofnaghjmeaaGreatDoor
set_option maxHeartbeats 16000000
set_option maxRecDepth 100000
open Go Go.RowKit Go.Maps
set_option linter.unusedVariables false
set_option linter.unusedSimpArgs false
def plA:(yB→Option Nat)→Nat→List yB→yB→Option Nat
 | P,_,[]=>P
 | P,i,x :: xs=>plA (fun y=>if x=y then some i else P y) (i+1) xs
def plL (l:List yB):yB→Option Nat:=plA (fun _=>none) 0 l
def PlN (w:yW) (b n:Nat) (P:yB→Option Nat):Prop :=
 ∃ D,w.ownsMap Tryz.prog 9 (plainElem (H:=Unit) Tryz.prog 3) b n D∧∀ x i,x.size≤maxLen→P x=some i→D.atKey (.string x.data.toList) (.lit (.int .i64 0))=.lit (.int .i64 (i:Nat))
theorem PlN.m {w:yW}{b n:Nat}{P:yB→Option Nat}(h:PlN w b n P):PlM w b P:=⟨n,h⟩
theorem PlN.on {w w':yW}{b n:Nat}{P:yB→Option Nat}(h:PlN w b n P) (k:yD w w'):PlN w' b n P:=by
 obtain⟨D,ho,hL⟩:=h
 have hlt:=ho.lt
 obtain⟨es,clock,hb,F,hs,hD⟩:=ho
 exact⟨D,⟨es,clock,(k.block b hlt).trans hb,F,hs,hD⟩,hL⟩
theorem PlN.made (w:yW):PlN (w.alloc (.map #[] 0)) w§ 0 (fun _=>none):=⟨_,World.ownsMap_made w _ _ _,fun x i _ e=>by cases e⟩
theorem PlN.put {w w':yW}{b n i:Nat}{P:yB→Option Nat}{x:yB}{D:DataW Unit}(ho:w.ownsMap Tryz.prog 9 (plainElem Tryz.prog 3) b n D)
  (hL:∀ x i,x.size≤maxLen→P x=some i→D.atKey (.string x.data.toList) (.lit (.int .i64 0))=.lit (.int .i64 (i:Nat)))
  (h:w'.ownsMap Tryz.prog 9 (plainElem Tryz.prog 3) b (n+1) (D.put (.string x.data.toList) (.lit (.int .i64 (i:Nat))))):PlN w' b (n+1) (fun y=>if x=y then some i else P y):=by
 have hD:IsMap D:=by obtain⟨es,clock,_,_,_,e⟩:=ho; exact⟨_,e⟩
 refine⟨_,h,fun y j hy hj=>?_⟩
 by_cases hr:x=y
 ·subst hr
  simp only [if_true] at hj
  cases hj
  rw [atKey_put_same hD (by trivial)]
 ·simp only [if_neg hr] at hj
  rw [atKey_put_other (key_ne hr)]
  exact hL y j hy hj
theorem name_reg (d:RegM) (w:yW):Calls zG 66 #[.agg d.vals] w fun e w'=>e=.returned (.string d.x)∧yD w w':=by
 have HN:=heap_new w (.cells d.vals 102)
 have c0:(w.alloc (.cells d.vals 102)).cell? w§¢0=some (.string d.x):=cell_of HN 0
 have HB:Hid (yD w (w.alloc (.cells d.vals 102))):=below_new _ _
 obtain⟨W,eW⟩:∃ W,w.alloc (.cells d.vals 102)=W:=⟨_,rfl⟩
 have EW:Hid (w.alloc (.cells d.vals 102)=W):=eW
 rw [eW] at c0 HB
 clear HN eW
 go_enter Tryz.func66,Tryz.ntmps66
 go_upto_region 1 with fail
 rw [EW.out]
 go_wp2_with fail
 go_ret
 exact⟨rfl,HB.out⟩
theorem places_reg (a:Option Addr) (c:Nat) (ds:List RegM) (w:yW) (hs:SlAt w 11 a c (ds.map RegM.vals)) (hx:∀ d ∈ ds,d.x.size≤maxLen) :
  Calls zG 65 #[.slice a ds.length c,.func (.func 66) #[] #[]] w fun e w'=>∃ b,e=.returned (.map (some b))∧w§≤b∧PlM w' b (plL (ds.map RegM.x))∧yD w w':=by
 have HM0:Hid (PlN (w.alloc (.map #[] 0)) w§ 0 (fun _=>none)):=PlN.made w
 have HB0:Hid (yD w (w.alloc (.map #[] 0))):=below_new _ _
 have HSL:Hid (SlAt w 11 a c (ds.map RegM.vals)):=hs
 have HX:Hid (∀ d ∈ ds,d.x.size≤maxLen):=hx
 obtain⟨R,eR⟩:∃ R,plL (ds.map RegM.x)=R:=⟨_,rfl⟩
 have HR0:Hid (plA (fun _=>none) 0 (ds.map RegM.x)=R):=eR
 rw [eR]
 obtain⟨W2,e2⟩:∃ W,w.alloc (.map #[] 0)=W:=⟨_,rfl⟩
 have E2:Hid (w.alloc (.map #[] 0)=W2):=e2
 rw [e2] at HM0 HB0
 clear eR hs hx e2
 have hmk:∀ w:yW,Sem.run Tryz.prog (Instr.makeMap 89 none) w=.ok (.map (some w§)) (w.alloc (.map #[] 0)):=fun w=>by first | rfl | exact run_makeMap _ _ _ | simp [run_makeMap]
 go_enter Tryz.func65,Tryz.ntmps65
 go_upto_region 2 with fail
 rw [E2.out]
 go_wp2_with fail
 clear E2 hmk
 go_loopw [11] (fun t wr=>∃ (i:Nat) (P:yB→Option Nat),i≤ds.length∧t=zI i∧Hid (yD w wr)∧Hid (PlN wr w§ i P)∧Hid (plA P i ((ds.drop i).map RegM.x)=R)) (fun t _=>ds.length - (intOf t).toNat)
 case atStart=>exact⟨0,_,by omega,rfl,HB0,HM0,HR0⟩
 case round =>
  obtain⟨i,P,hi,rfl,HBR,HR,HRR⟩:=hrel
  by_cases hlt:i < ds.length
  ·have hlt':(i:Int) < (ds.length:Int):=by omega
   have hlen:ds.length≤9223372036854775807:=by have h1:=HSL.out.1; have h2:=HSL.out.2.1; rw [List.length_map] at h1; omega
   have hmx:(i:Int)+1≤9223372036854775807:=by omega
   have hn:i < maxLen:=by unfold maxLen; omega
   have hwf:(Lit.int .i64 (i:Int)).wf=true:=by rw [show (Lit.int .i64 (i:Int)).wf=(decide ((-9223372036854775808:Int)≤(i:Int)) && decide ((i:Int)≤9223372036854775807)) from rfl,decide_eq_true (by omega),decide_eq_true (by omega)]; rfl
   obtain⟨b,o,ea,hat⟩:=(HSL.out.on (mapz RegM.sz _) HBR.out).2.2 i (by rw [List.length_map]; exact hlt)
   simp only [List.getElem_map] at hat
   have HMEM:Hid (ds[i] ∈ ds):=List.getElem_mem hlt
   have HTK:Hid (plA (fun y=>if ds[i].x=y then some i else P y) (i+1) ((ds.drop (i+1)).map RegM.x)=R):=by show _=_; rw [← HRR.out,List.drop_eq_getElem_cons hlt]; rfl
   obtain⟨d,ed⟩:∃ d,ds[i]=d:=⟨_,rfl⟩
   rw [ed] at hat HTK HMEM
   have HRG:Hid (wr.rangeAt b (o+i * 11) d.vals.toList):=fun j v hv=>by
    have hj:j < 11:=(List.getElem?_eq_some_iff.1 hv).1
    rw [hat j hj,← hv]; simp
   have HZ:Hid ((wr.alloc (.cells ze 102)).heap[wr§]? = (zC ze 102)):=heap_new _ _
   have hbx:yD wr ((wr.alloc (.cells ze 102)).setRow wr§ d.vals):=below_row (below_new _ _) (Nat.le_refl _) _
   have HBX:Hid (yD w ((wr.alloc (.cells ze 102)).setRow wr§ d.vals)):=below2 HBR.out hbx
   have HNX:Hid (((wr.alloc (.cells ze 102)).setRow wr§ d.vals).heap[wr§]? = (zC d.vals 102)):=setRow_heap _ _ _ _ _ _ HZ.out
   have HMX:Hid (PlN ((wr.alloc (.cells ze 102)).setRow wr§ d.vals) w§ i P):=HR.out.on hbx
   subst ea
   clear hat ed hbx HR hlen HRR
   go_upto_region 5 with (first | (refine wpList_load_mid rfl 102 (.tmp 14) rfl b (o+i * 11) rfl d.vals.toList _ HRG.out Tryz.underlying102 rfl (by show _=some 11; exact size100') ?_; rw [Array.toArray_toList]) | (refine wpList_store_row rfl 102 (.tmp 7) (.tmp 15) rfl wr§ d.vals rfl rfl 102 ze HZ.out size100' rfl (all11 d) ?_))
   generalize hWX:World.setRow _ _ _=WX
   rw [hWX] at HBX HNX HMX
   clear hWX HZ HRG
   have hxx:=HX.out d HMEM.out
   have cN:Calls zG 66 #[.agg d.vals] WX fun e w'=>e=.returned (.string d.x)∧yD WX w':=name_reg d WX
   go_wp2_with (refine wpList_load_row rfl 102 (.tmp 7) rfl wr§ rfl 102 d.vals (0,0) _ HNX.out Tryz.underlying102 rfl size100' ?_)
   refine cN.mono ?_
   rintro e w5 ⟨rfl,hb5⟩
   have HB5:Hid (yD w w5):=below2 HBX.out hb5
   obtain⟨D,hown,hL⟩:=HMX.out.on hb5
   have HP:Hid (∀ w1:yW,w1.ownsMap Tryz.prog 9 (plainElem Tryz.prog 3) w§ (i+1) (D.put (.string d.x.data.toList) (.lit (.int .i64 (i:Nat))))→PlN w1 w§ (i+1) (fun y=>if d.x=y then some i else P y)):=fun w1 h1=>PlN.put hown hL h1
   have hkey:=WideMaps.keyOf_string_mk (P:=Tryz.prog) Tryz.underlying9 hxx
   clear cN hb5 hL HBX HNX HMX
   go_wp2_with (at_mapUpdate; refine wpList_mapUpdate_own _ rfl _ _ _ 89 rfl 9 3 law9 Tryz.underlying89 _ w§ i D rfl hown hn _ _ _ rfl rfl hkey _ [] (plainElem_int Tryz.underlying3 hwf) ?_; intro w1 hown1 hgrow1)
   exact⟨⟨i+1,_,hlt,rfl,HB5.out.grown hgrow1 HB5.out.size (fun k hk=>by cases hk; omega),HP.out w1 hown1,HTK.out⟩,by simp only [intOf]; omega⟩
  ·obtain rfl:i=ds.length:=by omega
   have hnot:¬ (ds.length:Int) < (ds.length:Int):=by omega
   have HM:Hid (PlM wr w§ R):=by have h1:=HRR.out; rw [List.drop_length] at h1; subst h1; exact HR.out.m
   clear HR HRR
   go_wp2_with fail
   go_ret
   exact⟨_,rfl,by omega,HM.out,HBR.out⟩
theorem name_slot (d:SlotM) (w:yW):Calls zG 80 #[.agg d.vals] w fun e w'=>e=.returned (.string d.x)∧yD w w':=by
 have HN:=heap_new w (.cells d.vals 129)
 have c0:(w.alloc (.cells d.vals 129)).cell? w§¢0=some (.string d.x):=cell_of HN 0
 have HB:Hid (yD w (w.alloc (.cells d.vals 129))):=below_new _ _
 obtain⟨W,eW⟩:∃ W,w.alloc (.cells d.vals 129)=W:=⟨_,rfl⟩
 have EW:Hid (w.alloc (.cells d.vals 129)=W):=eW
 rw [eW] at c0 HB
 clear HN eW
 go_enter Tryz.func80,Tryz.ntmps80
 go_upto_region 1 with fail
 rw [EW.out]
 go_wp2_with fail
 go_ret
 exact⟨rfl,HB.out⟩
theorem places_slot (a:Option Addr) (c:Nat) (ds:List SlotM) (w:yW) (hs:SlAt w 2 a c (ds.map SlotM.vals)) (hx:∀ d ∈ ds,d.x.size≤maxLen) :
  Calls zG 79 #[.slice a ds.length c,.func (.func 80) #[] #[]] w fun e w'=>∃ b,e=.returned (.map (some b))∧w§≤b∧PlM w' b (plL (ds.map SlotM.x))∧yD w w':=by
 have HM0:Hid (PlN (w.alloc (.map #[] 0)) w§ 0 (fun _=>none)):=PlN.made w
 have HB0:Hid (yD w (w.alloc (.map #[] 0))):=below_new _ _
 have HSL:Hid (SlAt w 2 a c (ds.map SlotM.vals)):=hs
 have HX:Hid (∀ d ∈ ds,d.x.size≤maxLen):=hx
 obtain⟨R,eR⟩:∃ R,plL (ds.map SlotM.x)=R:=⟨_,rfl⟩
 have HR0:Hid (plA (fun _=>none) 0 (ds.map SlotM.x)=R):=eR
 rw [eR]
 obtain⟨W2,e2⟩:∃ W,w.alloc (.map #[] 0)=W:=⟨_,rfl⟩
 have E2:Hid (w.alloc (.map #[] 0)=W2):=e2
 rw [e2] at HM0 HB0
 clear eR hs hx e2
 have hmk:∀ w:yW,Sem.run Tryz.prog (Instr.makeMap 89 none) w=.ok (.map (some w§)) (w.alloc (.map #[] 0)):=fun w=>by first | rfl | exact run_makeMap _ _ _ | simp [run_makeMap]
 go_enter Tryz.func79,Tryz.ntmps79
 go_upto_region 2 with fail
 rw [E2.out]
 go_wp2_with fail
 clear E2 hmk
 go_loopw [11] (fun t wr=>∃ (i:Nat) (P:yB→Option Nat),i≤ds.length∧t=zI i∧Hid (yD w wr)∧Hid (PlN wr w§ i P)∧Hid (plA P i ((ds.drop i).map SlotM.x)=R)) (fun t _=>ds.length - (intOf t).toNat)
 case atStart=>exact⟨0,_,by omega,rfl,HB0,HM0,HR0⟩
 case round =>
  obtain⟨i,P,hi,rfl,HBR,HR,HRR⟩:=hrel
  by_cases hlt:i < ds.length
  ·have hlt':(i:Int) < (ds.length:Int):=by omega
   have hlen:ds.length≤9223372036854775807:=by have h1:=HSL.out.1; have h2:=HSL.out.2.1; rw [List.length_map] at h1; omega
   have hmx:(i:Int)+1≤9223372036854775807:=by omega
   have hn:i < maxLen:=by unfold maxLen; omega
   have hwf:(Lit.int .i64 (i:Int)).wf=true:=by rw [show (Lit.int .i64 (i:Int)).wf=(decide ((-9223372036854775808:Int)≤(i:Int)) && decide ((i:Int)≤9223372036854775807)) from rfl,decide_eq_true (by omega),decide_eq_true (by omega)]; rfl
   obtain⟨b,o,ea,hat⟩:=(HSL.out.on (mapz SlotM.sz _) HBR.out).2.2 i (by rw [List.length_map]; exact hlt)
   simp only [List.getElem_map] at hat
   have HMEM:Hid (ds[i] ∈ ds):=List.getElem_mem hlt
   have HTK:Hid (plA (fun y=>if ds[i].x=y then some i else P y) (i+1) ((ds.drop (i+1)).map SlotM.x)=R):=by show _=_; rw [← HRR.out,List.drop_eq_getElem_cons hlt]; rfl
   obtain⟨d,ed⟩:∃ d,ds[i]=d:=⟨_,rfl⟩
   rw [ed] at hat HTK HMEM
   have HRG:Hid (wr.rangeAt b (o+i * 2) d.vals.toList):=fun j v hv=>by
    have hj:j < 2:=(List.getElem?_eq_some_iff.1 hv).1
    rw [hat j hj,← hv]; simp
   have HZ:Hid ((wr.alloc (.cells zw 129)).heap[wr§]? = (zC zw 129)):=heap_new _ _
   have hbx:yD wr ((wr.alloc (.cells zw 129)).setRow wr§ d.vals):=below_row (below_new _ _) (Nat.le_refl _) _
   have HBX:Hid (yD w ((wr.alloc (.cells zw 129)).setRow wr§ d.vals)):=below2 HBR.out hbx
   have HNX:Hid (((wr.alloc (.cells zw 129)).setRow wr§ d.vals).heap[wr§]? = (zC d.vals 129)):=setRow_heap _ _ _ _ _ _ HZ.out
   have HMX:Hid (PlN ((wr.alloc (.cells zw 129)).setRow wr§ d.vals) w§ i P):=HR.out.on hbx
   subst ea
   clear hat ed hbx HR hlen HRR
   go_upto_region 5 with (first | (refine wpList_load_mid rfl 129 (.tmp 14) rfl b (o+i * 2) rfl d.vals.toList _ HRG.out Tryz.underlying129 rfl (by show _=some 2; exact size102') ?_; rw [Array.toArray_toList]) | (refine wpList_store_row rfl 129 (.tmp 7) (.tmp 15) rfl wr§ d.vals rfl rfl 129 zw HZ.out size102' rfl (all2 d) ?_))
   generalize hWX:World.setRow _ _ _=WX
   rw [hWX] at HBX HNX HMX
   clear hWX HZ HRG
   have hxx:=HX.out d HMEM.out
   have cN:Calls zG 80 #[.agg d.vals] WX fun e w'=>e=.returned (.string d.x)∧yD WX w':=name_slot d WX
   go_wp2_with (refine wpList_load_row rfl 129 (.tmp 7) rfl wr§ rfl 129 d.vals (0,0) _ HNX.out Tryz.underlying129 rfl size102' ?_)
   refine cN.mono ?_
   rintro e w5 ⟨rfl,hb5⟩
   have HB5:Hid (yD w w5):=below2 HBX.out hb5
   obtain⟨D,hown,hL⟩:=HMX.out.on hb5
   have HP:Hid (∀ w1:yW,w1.ownsMap Tryz.prog 9 (plainElem Tryz.prog 3) w§ (i+1) (D.put (.string d.x.data.toList) (.lit (.int .i64 (i:Nat))))→PlN w1 w§ (i+1) (fun y=>if d.x=y then some i else P y)):=fun w1 h1=>PlN.put hown hL h1
   have hkey:=WideMaps.keyOf_string_mk (P:=Tryz.prog) Tryz.underlying9 hxx
   clear cN hb5 hL HBX HNX HMX
   go_wp2_with (at_mapUpdate; refine wpList_mapUpdate_own _ rfl _ _ _ 89 rfl 9 3 law9 Tryz.underlying89 _ w§ i D rfl hown hn _ _ _ rfl rfl hkey _ [] (plainElem_int Tryz.underlying3 hwf) ?_; intro w1 hown1 hgrow1)
   exact⟨⟨i+1,_,hlt,rfl,HB5.out.grown hgrow1 HB5.out.size (fun k hk=>by cases hk; omega),HP.out w1 hown1,HTK.out⟩,by simp only [intOf]; omega⟩
  ·obtain rfl:i=ds.length:=by omega
   have hnot:¬ (ds.length:Int) < (ds.length:Int):=by omega
   have HM:Hid (PlM wr w§ R):=by have h1:=HRR.out; rw [List.drop_length] at h1; subst h1; exact HR.out.m
   clear HR HRR
   go_wp2_with fail
   go_ret
   exact⟨_,rfl,by omega,HM.out,HBR.out⟩
theorem name_state (d:StateM) (w:yW):Calls zG 82 #[.agg d.vals] w fun e w'=>e=.returned (.string d.x)∧yD w w':=by
 have HN:=heap_new w (.cells d.vals 69)
 have c0:(w.alloc (.cells d.vals 69)).cell? w§¢0=some (.string d.x):=cell_of HN 0
 have HB:Hid (yD w (w.alloc (.cells d.vals 69))):=below_new _ _
 obtain⟨W,eW⟩:∃ W,w.alloc (.cells d.vals 69)=W:=⟨_,rfl⟩
 have EW:Hid (w.alloc (.cells d.vals 69)=W):=eW
 rw [eW] at c0 HB
 clear HN eW
 go_enter Tryz.func82,Tryz.ntmps82
 go_upto_region 1 with fail
 rw [EW.out]
 go_wp2_with fail
 go_ret
 exact⟨rfl,HB.out⟩
theorem places_state (a:Option Addr) (c:Nat) (ds:List StateM) (w:yW) (hs:SlAt w 3 a c (ds.map StateM.vals)) (hx:∀ d ∈ ds,d.x.size≤maxLen) :
  Calls zG 81 #[.slice a ds.length c,.func (.func 82) #[] #[]] w fun e w'=>∃ b,e=.returned (.map (some b))∧w§≤b∧PlM w' b (plL (ds.map StateM.x))∧yD w w':=by
 have HM0:Hid (PlN (w.alloc (.map #[] 0)) w§ 0 (fun _=>none)):=PlN.made w
 have HB0:Hid (yD w (w.alloc (.map #[] 0))):=below_new _ _
 have HSL:Hid (SlAt w 3 a c (ds.map StateM.vals)):=hs
 have HX:Hid (∀ d ∈ ds,d.x.size≤maxLen):=hx
 obtain⟨R,eR⟩:∃ R,plL (ds.map StateM.x)=R:=⟨_,rfl⟩
 have HR0:Hid (plA (fun _=>none) 0 (ds.map StateM.x)=R):=eR
 rw [eR]
 obtain⟨W2,e2⟩:∃ W,w.alloc (.map #[] 0)=W:=⟨_,rfl⟩
 have E2:Hid (w.alloc (.map #[] 0)=W2):=e2
 rw [e2] at HM0 HB0
 clear eR hs hx e2
 have hmk:∀ w:yW,Sem.run Tryz.prog (Instr.makeMap 89 none) w=.ok (.map (some w§)) (w.alloc (.map #[] 0)):=fun w=>by first | rfl | exact run_makeMap _ _ _ | simp [run_makeMap]
 go_enter Tryz.func81,Tryz.ntmps81
 go_upto_region 2 with fail
 rw [E2.out]
 go_wp2_with fail
 clear E2 hmk
 go_loopw [11] (fun t wr=>∃ (i:Nat) (P:yB→Option Nat),i≤ds.length∧t=zI i∧Hid (yD w wr)∧Hid (PlN wr w§ i P)∧Hid (plA P i ((ds.drop i).map StateM.x)=R)) (fun t _=>ds.length - (intOf t).toNat)
 case atStart=>exact⟨0,_,by omega,rfl,HB0,HM0,HR0⟩
 case round =>
  obtain⟨i,P,hi,rfl,HBR,HR,HRR⟩:=hrel
  by_cases hlt:i < ds.length
  ·have hlt':(i:Int) < (ds.length:Int):=by omega
   have hlen:ds.length≤9223372036854775807:=by have h1:=HSL.out.1; have h2:=HSL.out.2.1; rw [List.length_map] at h1; omega
   have hmx:(i:Int)+1≤9223372036854775807:=by omega
   have hn:i < maxLen:=by unfold maxLen; omega
   have hwf:(Lit.int .i64 (i:Int)).wf=true:=by rw [show (Lit.int .i64 (i:Int)).wf=(decide ((-9223372036854775808:Int)≤(i:Int)) && decide ((i:Int)≤9223372036854775807)) from rfl,decide_eq_true (by omega),decide_eq_true (by omega)]; rfl
   obtain⟨b,o,ea,hat⟩:=(HSL.out.on (mapz StateM.sz _) HBR.out).2.2 i (by rw [List.length_map]; exact hlt)
   simp only [List.getElem_map] at hat
   have HMEM:Hid (ds[i] ∈ ds):=List.getElem_mem hlt
   have HTK:Hid (plA (fun y=>if ds[i].x=y then some i else P y) (i+1) ((ds.drop (i+1)).map StateM.x)=R):=by show _=_; rw [← HRR.out,List.drop_eq_getElem_cons hlt]; rfl
   obtain⟨d,ed⟩:∃ d,ds[i]=d:=⟨_,rfl⟩
   rw [ed] at hat HTK HMEM
   have HRG:Hid (wr.rangeAt b (o+i * 3) d.vals.toList):=fun j v hv=>by
    have hj:j < 3:=(List.getElem?_eq_some_iff.1 hv).1
    rw [hat j hj,← hv]; simp
   have HZ:Hid ((wr.alloc (.cells zk 69)).heap[wr§]? = (zC zk 69)):=heap_new _ _
   have hbx:yD wr ((wr.alloc (.cells zk 69)).setRow wr§ d.vals):=below_row (below_new _ _) (Nat.le_refl _) _
   have HBX:Hid (yD w ((wr.alloc (.cells zk 69)).setRow wr§ d.vals)):=below2 HBR.out hbx
   have HNX:Hid (((wr.alloc (.cells zk 69)).setRow wr§ d.vals).heap[wr§]? = (zC d.vals 69)):=setRow_heap _ _ _ _ _ _ HZ.out
   have HMX:Hid (PlN ((wr.alloc (.cells zk 69)).setRow wr§ d.vals) w§ i P):=HR.out.on hbx
   subst ea
   clear hat ed hbx HR hlen HRR
   go_upto_region 5 with (first | (refine wpList_load_mid rfl 69 (.tmp 14) rfl b (o+i * 3) rfl d.vals.toList _ HRG.out Tryz.underlying69 rfl (by show _=some 3; exact size87') ?_; rw [Array.toArray_toList]) | (refine wpList_store_row rfl 69 (.tmp 7) (.tmp 15) rfl wr§ d.vals rfl rfl 69 zk HZ.out size87' rfl (all3' d) ?_))
   generalize hWX:World.setRow _ _ _=WX
   rw [hWX] at HBX HNX HMX
   clear hWX HZ HRG
   have hxx:=HX.out d HMEM.out
   have cN:Calls zG 82 #[.agg d.vals] WX fun e w'=>e=.returned (.string d.x)∧yD WX w':=name_state d WX
   go_wp2_with (refine wpList_load_row rfl 69 (.tmp 7) rfl wr§ rfl 69 d.vals (0,0) _ HNX.out Tryz.underlying69 rfl size87' ?_)
   refine cN.mono ?_
   rintro e w5 ⟨rfl,hb5⟩
   have HB5:Hid (yD w w5):=below2 HBX.out hb5
   obtain⟨D,hown,hL⟩:=HMX.out.on hb5
   have HP:Hid (∀ w1:yW,w1.ownsMap Tryz.prog 9 (plainElem Tryz.prog 3) w§ (i+1) (D.put (.string d.x.data.toList) (.lit (.int .i64 (i:Nat))))→PlN w1 w§ (i+1) (fun y=>if d.x=y then some i else P y)):=fun w1 h1=>PlN.put hown hL h1
   have hkey:=WideMaps.keyOf_string_mk (P:=Tryz.prog) Tryz.underlying9 hxx
   clear cN hb5 hL HBX HNX HMX
   go_wp2_with (at_mapUpdate; refine wpList_mapUpdate_own _ rfl _ _ _ 89 rfl 9 3 law9 Tryz.underlying89 _ w§ i D rfl hown hn _ _ _ rfl rfl hkey _ [] (plainElem_int Tryz.underlying3 hwf) ?_; intro w1 hown1 hgrow1)
   exact⟨⟨i+1,_,hlt,rfl,HB5.out.grown hgrow1 HB5.out.size (fun k hk=>by cases hk; omega),HP.out w1 hown1,HTK.out⟩,by simp only [intOf]; omega⟩
  ·obtain rfl:i=ds.length:=by omega
   have hnot:¬ (ds.length:Int) < (ds.length:Int):=by omega
   have HM:Hid (PlM wr w§ R):=by have h1:=HRR.out; rw [List.drop_length] at h1; subst h1; exact HR.out.m
   clear HR HRR
   go_wp2_with fail
   go_ret
   exact⟨_,rfl,by omega,HM.out,HBR.out⟩
structure ModM where
 st:Int
 ra:Option Addr
 rc:Nat
 rg:List Int
def ModM.vals (m:ModM):Array Value:=#[zI m.st,.slice m.ra m.rg.length m.rc]
def iA (v:Int):Array Value:=#[zI v]
theorem iA_sz (v:Int):(iA v).size=1:=rfl
def ModL (w:yW) (m:ModM):Prop:=SlAt w 1 m.ra m.rc (m.rg.map iA)∧(∀ v ∈ m.rg,I64 v)∧I64 m.st
theorem ModL.on {w w':yW}{m:ModM}(h:ModL w m) (k:yD w w'):ModL w' m:=⟨h.1.on (mapz iA_sz _) k,h.2⟩
theorem mk27 {n:Nat}(hn:n≤65536) (W:yW):Sem.run Tryz.prog (Instr.makeSlice 27 (zI (n:Int)) (zI (n:Int))) W=.ok (.slice (some W§¢0) n n) (W.alloc (.cells (madeCells #[zI 0] n) 2)):=by
 obtain⟨i0,hi0,hz0,hz1,hz2⟩:=info_parts (show (Tryz.prog.info? 2).map (fun i=>(i.zero,i.size,i.bytes))=some (some (zI 0),1,8) by kernel_rfl)
 have:=run_make (P:=Tryz.prog) W 27 2 i0 _ Tryz.underlying27 hi0 hz0 .i64 .i64 n n (by omega) (Int.le_refl _) (by rw [hz2]; omega) (by omega)
 rw [this,hz1]
 simp only [Int.toNat_natCast,Nat.mul_one]
 rfl
theorem splice_all {α:Type}(L cs:List α) (h:cs.length=L.length):splice L 0 cs=cs:=by
 unfold splice
 simp [h]
theorem size29 (m:ModM):(Tryz.prog.info? 29).map (·.size)=some m.vals.size:=by show _=some 2; kernel_rfl
theorem all29 (m:ModM):m.vals.all (·.oneCell')=true:=by simp [ModM.vals,Value.oneCell']
theorem copied_any (m:ModM) (w:yW) (hl:ModL w m) (hn:m.rg.length≤65536) :
  Calls zG 49 #[.agg m.vals] w fun e w'=>∃ b,e=.returned (.agg (ModM.mk m.st (some b¢0) m.rg.length m.rg).vals)∧w§≤b∧w'.heap[b]? = (zC (intsA m.rg) 2)∧yD w w':=by
 have b1:=below_new w (.cells m.vals 29)
 have b2:=below_new (w.alloc (.cells m.vals 29)) (.cells zu 29)
 have n1:=heap_new w (.cells m.vals 29)
 have n2:=heap_new (w.alloc (.cells m.vals 29)) (.cells zu 29)
 have s1:=size_alloc w (.cells m.vals 29)
 have s2:=size_alloc (w.alloc (.cells m.vals 29)) (.cells zu 29)
 obtain⟨W2,e2⟩:∃ W,(w.alloc (.cells m.vals 29)).alloc (.cells zu 29)=W:=⟨_,rfl⟩
 have E2:Hid ((w.alloc (.cells m.vals 29)).alloc (.cells zu 29)=W2):=e2
 rw [s1] at n2
 rw [e2] at b2 n2 s2
 have hz:W2§=w§+2:=by omega
 have n1':W2.heap[w§]? = (zC m.vals 29):=heapOf b2 n1
 have b3:=below_new W2 (.cells (madeCells #[zI 0] m.rg.length) 2)
 have n3:=heap_new W2 (.cells (madeCells #[zI 0] m.rg.length) 2)
 have HW:Hid (yD w W2):=below2 b1 b2
 have hmk:∀ W,Sem.run Tryz.prog (Instr.makeSlice 27 (zI (m.rg.length:Int)) (zI (m.rg.length:Int))) W=.ok (.slice (some W§¢0) m.rg.length m.rg.length) (W.alloc (.cells (madeCells #[zI 0] m.rg.length) 2)):=mk27 hn
 have c1:W2.cell? w§¢1=some (.slice m.ra m.rg.length m.rc):=cell_of n1' 1
 obtain⟨W3,e3⟩:∃ W,W2.alloc (.cells (madeCells #[zI 0] m.rg.length) 2)=W:=⟨_,rfl⟩
 have E3:Hid (W2.alloc (.cells (madeCells #[zI 0] m.rg.length) 2)=W3):=e3
 rw [e3] at b3 n3
 have HB3:Hid (yD w W3):=below2 HW.out b3
 have HN1:Hid (W3.heap[w§]? = (zC m.vals 29)):=heapOf b3 n1'
 have HN2:Hid (W3.heap[w§+1]? = (zC zu 29)):=heapOf b3 n2
 rw [hz] at n3
 have HN3:Hid (W3.heap[w§+2]? = (zC (madeCells #[zI 0] m.rg.length).toList.toArray 2)):=by show _=_; rw [Array.toArray_toList]; exact n3
 have HZ:Hid (W2§=w§+2):=hz
 have HL:Hid (ModL w m):=hl
 have d1:W3.cell? w§¢1=some (.slice m.ra m.rg.length m.rc):=cell_of HN1.out 1
 clear b1 b2 n1 n2 s1 s2 e2 n1' b3 n3 e3 hz hl hn
 go_enter Tryz.func49,Tryz.ntmps49
 go_upto_region 1 with fail
 rw [E2.out]
 go_upto_region 2 with fail
 rw [E3.out,HZ.out]
 clear c1 hmk E2 E3
 obtain⟨cs,ecs⟩:∃ cs,m.rg.map (Value.int .i64)=cs:=⟨_,rfl⟩
 have HCS:Hid (m.rg.map (Value.int .i64)=cs):=ecs
 obtain⟨cur,ecur⟩:∃ cur,(madeCells #[zI 0] m.rg.length).toList=cur:=⟨_,rfl⟩
 have HCU:Hid (cur.length=m.rg.length):=by show _=_; rw [← ecur,Array.length_toList,size_madeCells]
 rw [ecur] at HN3
 have hlen:cs.length=Nat.min m.rg.length m.rg.length:=by rw [← ecs]; simp
 have hpos:0 < cs.length→(some ⟨w§+2,0,none⟩:Option Addr)=some ⟨w§+2,0,none⟩∧∃ ad,m.ra=some ad∧∀ j v,cs[j]? = some v→W3.cell? (ad.add j)=some v:=fun h0=>by
  have hl3:=(HL.out.on HB3.out).1
  have hl0:0 < m.rg.length:=by rw [← ecs] at h0; simpa using h0
  obtain⟨b,o,ea,_⟩:=hl3.2.2 0 (by rw [List.length_map]; exact hl0)
  refine⟨rfl,_,ea,fun j v hv=>?_⟩
  rw [← ecs] at hv
  obtain⟨hj,hv⟩:=List.getElem?_eq_some_iff.1 hv
  rw [List.length_map] at hj
  obtain⟨b',o',ea',hat⟩:=hl3.2.2 j (by rw [List.length_map]; exact hj)
  have ee:=ea.symm.trans ea'
  cases ee
  have:=hat 0 (by omega)
  simp only [List.getElem_map] at this hv
  rw [← hv]
  rw [Addr.add_lit]
  simpa [iA] using this
 have hone:∀ v ∈ cs,v.oneCell'=true:=fun v hv=>by rw [← ecs] at hv; obtain⟨z,_,rfl⟩:=List.mem_map.1 hv; rfl
 have hfit:0+cs.length≤cur.length:=by rw [HCU.out,← ecs]; simp
 clear ecs ecur
 go_upto_region 3 with (refine wpList_copy_splice rfl (.tmp 8) (.tmp 10) 27 27 rfl 2 Tryz.underlying27 zK (some ⟨w§+2,0,none⟩) m.ra m.rg.length m.rg.length m.rg.length m.rc rfl rfl (w§+2) 0 cur 2 HN3.out cs hlen hpos hfit hone (w§+2) W3 (Below.refl _ _) (Nat.le_refl _) ?_; intro w4 HG4 hB4)
 have HB4:Hid (yD w w4):=HB3.out.trans (hB4.mono (by omega))
 have M1:w4.heap[w§]? = (zC m.vals 29):=(hB4.block _ (by omega)).trans HN1.out
 have M2:Hid (w4.heap[w§+1]? = (zC zu 29)):=(hB4.block _ (by omega)).trans HN2.out
 have HG:Hid (w4.heap[w§+2]? = (zC (intsA m.rg) 2)):=by
  show _=_
  rw [HG4.out,splice_all _ _ (by rw [hlen,HCU.out]; simp),← HCS.out]
  rfl
 have d0:w4.cell? w§¢0=some (zI m.st):=cell_of M1 0
 clear M1 HG4 hB4 hlen hpos hone hfit d1 HN1 HN2 HN3 HB3
 go_wp2_with (refine wpList_store_row rfl 29 (.tmp 2) (.tmp 15) rfl (w§+1) (ModM.mk m.st (some ⟨w§+2,0,none⟩) m.rg.length m.rg).vals rfl rfl 29 _ M2.out (size29 _) rfl (all29 _) ?_)
 refine bodyPost_ret (results_cell_row rfl _ _ (w§+1) 29 (ModM.mk m.st (some ⟨w§+2,0,none⟩) m.rg.length m.rg).vals (0,0) _ rfl (setRow_heap _ _ _ _ _ _ M2.out) Tryz.underlying29 rfl (size29 _)) rfl ⟨w§+2,rfl,by omega,(setRow_other _ _ _ _ (by omega)).trans HG.out,below_row HB4.out (by omega) _⟩
def fireN (x:Cx) (q:Tm):Nat→List RuleM→Except Int (Int × Tm)
 | _,[]=>.ok (-1,q)
 | i,r :: rs=>match valR x.s (gOf x.P q.rg) r.m with
  | .error c=>.error c
  | .ok v=>if v=1 then (match dosN x q r.ds with
   | .error c=>.error c
   | .ok q'=>.ok ((i:Int),q')) else fireN x q (i+1) rs
def RlOk (x:Cx) (r:RuleM):Prop:=Res (gP x.P) r.m∧(∀ d ∈ r.ds,DoOk x d)∧r.ds.length≤1000000
def OutF (B:Nat) (x:Cx) (tb rb mb sb gb:Nat) (w:yW) (r:Except Int (Int × Tm)) (e:Ending) (w':yW):Prop:=match r with
 | .error c=>e=fltE c∧Below B w w'∧∀ p ∈ x.K,w'.heap[p.1]? = some p.2
 | .ok iq=>e=.returned (zI iq.1)∧(∃ h1 av',TnW B h1 x tb rb mb sb gb w' av' iq.2)∧Below B w w'
theorem fireN_err {x:Cx}{q:Tm}{i:Nat}{r:RuleM}{rs:List RuleM}{c:Int}(h:valR x.s (gOf x.P q.rg) r.m=.error c):fireN x q i (r :: rs)=.error c:=by simp only [fireN,h]
theorem fireN_no {x:Cx}{q:Tm}{i:Nat}{r:RuleM}{rs:List RuleM}{v:Int}(h:valR x.s (gOf x.P q.rg) r.m=.ok v) (hv:¬ v=1):fireN x q i (r :: rs)=fireN x q (i+1) rs:=by simp only [fireN,h,if_neg hv]
theorem fireN_bad {x:Cx}{q:Tm}{i:Nat}{r:RuleM}{rs:List RuleM}{c:Int}(h:valR x.s (gOf x.P q.rg) r.m=.ok 1) (hd:dosN x q r.ds=.error c):fireN x q i (r :: rs)=.error c:=by simp only [fireN,h,if_true,hd]
theorem fireN_yes {x:Cx}{q q':Tm}{i:Nat}{r:RuleM}{rs:List RuleM}(h:valR x.s (gOf x.P q.rg) r.m=.ok 1) (hd:dosN x q r.ds=.ok q'):fireN x q i (r :: rs)=.ok ((i:Int),q'):=by simp only [fireN,h,if_true,hd]
theorem fire_any {h0:Nat}{x:Cx}{tb rb mb sb gb:Nat}{w0 w:yW}{q:Tm}(a:Option Addr) (c:Nat) (rs:List RuleM) (h:TnW w0§ h0 x tb rb mb sb gb w (.slice none 0 0) q) (hq:q.ac = []) (hB:yD w0 w) (hs:SlAt w0 10 a c (rs.map RuleM.vals)) (hd:∀ r ∈ rs,RuleL w0 r∧RlOk x r) :
  Calls zG 48 #[zP tb,.slice a rs.length c] w (OutF w0§ x tb rb mb sb gb w (fireN x q 0 rs)):=by
 have HT:Hid (TnW w0§ h0 x tb rb mb sb gb w (.slice none 0 0) q):=h
 have HQ:Hid (q.ac = []):=hq
 have HB0:Hid (yD w0 w):=hB
 have HSL:Hid (SlAt w0 10 a c (rs.map RuleM.vals)):=hs
 have HD:Hid (∀ r ∈ rs,RuleL w0 r∧RlOk x r):=hd
 obtain⟨R,eR⟩:∃ R,fireN x q 0 rs=R:=⟨_,rfl⟩
 have HR:Hid (fireN x q 0 rs=R):=eR
 rw [eR]
 clear h hq hB hs hd eR
 go_enter Tryz.func48,Tryz.ntmps48
 go_wp2_with fail
 go_step3
 go_wp2_with fail
 go_step3
 go_wp2_with fail
 go_loopw [5,10] (fun f t wr=>∃ (i:Nat),i≤rs.length∧t=zI i∧f=zI (-1)∧Hid (yD w wr)∧Hid (fireN x q i (rs.drop i)=R)) (fun _ t _=>rs.length - (intOf t).toNat)
 case atStart=>exact⟨0,by omega,rfl,rfl,Below.refl _ _,HR⟩
 case round =>
  obtain⟨i,hi,rfl,rfl,HBR,HRR⟩:=hrel
  by_cases hlt:i < rs.length
  ·have hlt':(i:Int) < (rs.length:Int):=by omega
   have hmx:(i:Int)+1≤9223372036854775807:=by have h1:=HSL.out.1; have h2:=HSL.out.2.1; rw [List.length_map] at h1; omega
   have HBW:Hid (yD w0 wr):=HB0.out.trans (HBR.out.mono HB0.out.size)
   obtain⟨bb,o,ea,hat⟩:=(HSL.out.on (mapz RuleM.sz _) HBW.out).2.2 i (by rw [List.length_map]; exact hlt)
   simp only [List.getElem_map] at hat
   have HMEM:Hid (rs[i] ∈ rs):=List.getElem_mem hlt
   have HC:Hid (fireN x q i (rs[i] :: rs.drop (i+1))=R):=by show _=_; rw [← List.drop_eq_getElem_cons hlt]; exact HRR.out
   obtain⟨r,er⟩:∃ r,rs[i]=r:=⟨_,rfl⟩
   rw [er] at hat HC HMEM
   have HRG:Hid (wr.rangeAt bb (o+i * 10) r.vals.toList):=fun j v hv=>by
    have hj:j < 10:=(List.getElem?_eq_some_iff.1 hv).1
    rw [hat j hj,← hv]; simp
   have HZ:Hid ((wr.alloc (.cells zg 100)).heap[wr§]? = (zC zg 100)):=heap_new _ _
   have hbx:yD wr ((wr.alloc (.cells zg 100)).setRow wr§ r.vals):=below_row (below_new _ _) (Nat.le_refl _) _
   have HT2:Hid (TnW w0§ h0 x tb rb mb sb gb ((wr.alloc (.cells zg 100)).setRow wr§ r.vals) (.slice none 0 0) q):=(HT.out.on HBR.out).on hbx
   have HBX:Hid (yD w ((wr.alloc (.cells zg 100)).setRow wr§ r.vals)):=below2 HBR.out hbx
   have HNX:Hid (((wr.alloc (.cells zg 100)).setRow wr§ r.vals).heap[wr§]? = (zC r.vals 100)):=setRow_heap _ _ _ _ _ _ HZ.out
   subst ea
   clear hat er hbx HRR HBR HBW
   go_upto_region 5 with (first | (refine wpList_load_mid rfl 100 (.tmp 13) rfl bb (o+i * 10) rfl r.vals.toList _ HRG.out Tryz.underlying100 rfl (by show _=some 10; exact size106') ?_; rw [Array.toArray_toList]) | (refine wpList_store_row rfl 100 (.tmp 7) (.tmp 14) rfl wr§ r.vals rfl rfl 100 zg HZ.out size106' rfl (all10' r) ?_))
   generalize hWX:World.setRow _ _ _=WX
   have hWY:(wr.alloc (.cells zg 100)).setRow wr§ r.vals=WX:=hWX
   rw [hWY] at HBX HNX HT2
   clear hWX hWY HZ HRG
   obtain⟨G,eG⟩:∃ G,wr§=G:=⟨_,rfl⟩
   rw [eG] at HNX ⊢
   clear eG
   have HOK:=(HD.out r HMEM.out).2
   have HW0:Hid (yD w0 WX):=HB0.out.trans (HBX.out.mono HB0.out.size)
   have cV:Calls zG 37 #[zP tb,.agg #[zU r.m.h.k,zU r.m.h.o,zU r.m.h.t,zI r.m.h.n,zU r.m.h.f,.string r.m.h.x,.slice r.m.a r.m.ks.length r.m.c,zI r.m.h.p]] WX.drew (OutV WX.drew (valR x.s (gOf x.P q.rg) r.m)):=value_any HT2.out.fi r.m WX.drew (HT2.out.on (drew_below WX)).sv (((HD.out r HMEM.out).1.1.on HW0.out).on (drew_below WX)) (HT2.out.res HOK.1)
   obtain⟨rv,erv⟩:∃ rv,valR x.s (gOf x.P q.rg) r.m=rv:=⟨_,rfl⟩
   have ERV:Hid (valR x.s (gOf x.P q.rg) r.m=rv):=erv
   rw [erv] at cV
   clear HOK erv
   refine (?_:∀ Q',Hid (Q'=_)→Code.wp _ _ Q' _ _) _ rfl
   intro Q' HQ'
   have HPn:Hid (∀ p (d:Nat) v a w,Q' (.panic p) (Act.put a (some d) v) w→Q' (.panic p) a w):=by rw [HQ'.out]; exact fun _ _ _ _ _ h=>h
   refine wp_region_T (t:=99) (S:=fun u=>u.heap[G]? = (zC r.vals 100)) zK HNX.out (fun hHeld=>?_)
   refine wpAnyT_take (i:=0) (v:=?_) rfl zK zK zK zK (fun c a w h=>HPn.out c _ _ a w h) (Or.inl ⟨by rfl,?_⟩) (by assumption) ?_
   rotate_left
   ·(intro v hv; go_simp; try (with_reducible rfl))
   try simp [Act.put]
   refine wpAnyT_take (i:=1) (v:=?_) rfl zK zK zK zK (fun c a w h=>HPn.out c _ _ a w h) (Or.inl ⟨by rfl,?_⟩) (by assumption) ?_
   rotate_left
   ·(intro v hv; go_simp; try (with_reducible rfl))
   try simp [Act.put]
   refine wpAnyT_take (i:=2) (v:=?_) rfl zK zK zK zK (fun c a w h=>HPn.out c _ _ a w h) (Or.inl ⟨by rfl,?_⟩) (by assumption) ?_
   rotate_left
   ·(intro v hv; go_simp; try (with_reducible rfl))
   try simp [Act.put]
   refine wpAnyT_take (i:=3) (v:=?_) rfl zK zK zK zK (fun c a w h=>HPn.out c _ _ a w h) (Or.inl ⟨by rfl,?_⟩) (by assumption) ?_
   rotate_left
   ·(intro v hv; go_simp; try (with_reducible rfl))
   try simp [Act.put]
   refine wpAnyT_take (i:=4) (v:=?_) rfl zK zK zK zK (fun c a w h=>HPn.out c _ _ a w h) (Or.inl ⟨by rfl,?_⟩) (by assumption) ?_
   rotate_left
   ·(intro v hv; have e0:v.cell? G¢0=some (zU r.m.h.k):=cell_of hv 0; have e1:v.cell? G¢1=some (zU r.m.h.o):=cell_of hv 1; have e2:v.cell? G¢2=some (zU r.m.h.t):=cell_of hv 2; have e3:v.cell? G¢3=some (zI r.m.h.n):=cell_of hv 3; have e4:v.cell? G¢4=some (zU r.m.h.f):=cell_of hv 4; have e5:v.cell? G¢5=some (.string r.m.h.x):=cell_of hv 5; have e6:v.cell? G¢6=some (.slice r.m.a r.m.ks.length r.m.c):=cell_of hv 6; have e7:v.cell? G¢7=some (zI r.m.h.p):=cell_of hv 7; clear hv; go_simp; try (with_reducible rfl))
   try simp [Act.put]
   rcases rv with c1 | z1
   ·refine wpAnyT_one (i:=5) zK rfl (fun K hK=>?_)
    go_simp
    refine cV.mono ?_
    rintro e w1 ⟨rfl,hb⟩
    rw [HQ'.out]
    have hD:R=.error c1:=HC.out.symm.trans (fireN_err ERV.out)
    have hbb:yD w w1:=below2 HBX.out.drew hb
    have hkk:=(HT.out.on hbb).kp
    refine⟨rfl,?_⟩
    rw [hD]
    exact⟨rfl,hbb.mono HB0.out.size,fun p hp=>(hkk p hp).1⟩
   ·refine wpAnyT_one (i:=5) zK rfl (fun K hK=>?_)
    go_simp
    refine cV.mono ?_
    rintro e w1 ⟨rfl,hb⟩
    have HB1:Hid (yD w w1):=below2 HBX.out.drew hb
    have HN1:Hid (w1.heap[G]? = (zC r.vals 100)):=(heapOf hb (heapOf (drew_below WX) HNX.out))
    clear hb cV
    unfold endV
    go_simp
    refine hK.out _ _ (fun _=>HN1.out) ?_
    clear hK K
    try simp [Act.put]
    refine wpAnyT_done zK ?_ _
    rw [HQ'.out]
    clear HQ' HPn Q'
    cases hz:decide (z1=1) with
    | false =>
     have hz':¬ z1=1:=of_decide_eq_false hz
     have HD1:Hid (fireN x q (i+1) (rs.drop (i+1))=R):=(fireN_no ERV.out hz').symm.trans HC.out
     have hz1:(z1 == 1)=false:=beq_false_of_ne hz'
     clear hz' hz
     go_wp2_with fail
     exact⟨⟨i+1,hlt,rfl,rfl,HB1,HD1⟩,by simp only [intOf]; omega⟩
    | true =>
     obtain rfl:z1=1:=of_decide_eq_true hz
     clear hz
     have HW1:Hid (yD w0 w1):=HB0.out.trans (HB1.out.mono HB0.out.size)
     have hrl:=(HD.out r HMEM.out).1
     have hok:=(HD.out r HMEM.out).2
     have c8:w1.cell? G¢8=some (.slice r.a r.ds.length r.c):=cell_of HN1.out 8
     have cD:Calls zG 84 #[zP tb,.slice r.a r.ds.length r.c] w1 (OutDs w0§ x tb rb mb sb gb w1 (dosN x q r.ds)):=doAll_any r.a r.c r.ds (HT.out.on HB1.out) HQ.out HW1.out hrl.2.1 (fun d hm=>⟨hrl.2.2.1 d hm,hok.2.1 d hm⟩) hok.2.2
     obtain⟨rd,erd⟩:∃ rd,dosN x q r.ds=rd:=⟨_,rfl⟩
     have ERD:Hid (dosN x q r.ds=rd):=erd
     rw [erd] at cD
     clear hrl hok erd
     rcases rd with c2 | q2
     ·replace cD:Calls zG 84 #[zP tb,.slice r.a r.ds.length r.c] w1 (fun e w'=>e=fltE c2∧Below w0§ w1 w'∧∀ p ∈ x.K,w'.heap[p.1]? = some p.2):=cD
      go_wp2_with fail
      refine cD.mono ?_
      rintro e w2 ⟨rfl,hb2,hk2⟩
      have hD:R=.error c2:=HC.out.symm.trans (fireN_bad ERV.out ERD.out)
      refine⟨rfl,?_⟩
      rw [hD]
      exact⟨rfl,(HB1.out.mono HB0.out.size).trans hb2,hk2⟩
     ·replace cD:Calls zG 84 #[zP tb,.slice r.a r.ds.length r.c] w1 (fun e w'=>e=.returned (.tuple #[])∧(∃ h1 av',TnW w0§ h1 x tb rb mb sb gb w' av' q2)∧Below w0§ w1 w'):=cD
      have hD:Hid (R=.ok ((i:Int),q2)):=HC.out.symm.trans (fireN_yes ERV.out ERD.out)
      go_wp2_with fail
      refine cD.mono ?_
      rintro e w2 ⟨rfl,hk2,hb2⟩
      have HK2:Hid ((∃ h1 av',TnW w0§ h1 x tb rb mb sb gb w2 av' q2)∧Below w0§ w w2):=⟨hk2,(HB1.out.mono HB0.out.size).trans hb2⟩
      clear hk2 hb2 cD
      go_wp2_with fail
      go_ret
      rw [hD.out]
      exact⟨rfl,HK2.out.1,HK2.out.2⟩
  ·obtain rfl:i=rs.length:=by omega
   have hnot:¬ (rs.length:Int) < (rs.length:Int):=by omega
   have HD1:Hid (R=.ok (-1,q)):=by show _=_; rw [← HRR.out,List.drop_length]; rfl
   have HK2:Hid ((∃ h1 av',TnW w0§ h1 x tb rb mb sb gb wr av' q)∧Below w0§ w wr):=⟨⟨_,_,HT.out.on HBR.out⟩,HBR.out.mono HB0.out.size⟩
   clear HRR
   go_wp2_with fail
   go_ret
   rw [HD1.out]
   exact⟨rfl,HK2.out.1,HK2.out.2⟩
end Go.Proofs.YtfbjofnaghjmeaaGreatDoor
