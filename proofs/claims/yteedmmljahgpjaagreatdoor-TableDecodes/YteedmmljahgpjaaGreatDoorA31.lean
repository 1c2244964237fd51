import Derived.Test.YteedmmljahgpjaaGreatDoorA0
import Derived.Test.YteedmmljahgpjaaGreatDoorA30
namespace Go.Proofs.YteedmmljahgpjaaGreatDoor
namespace O
set_option maxRecDepth 100000
set_option maxHeartbeats 8000000
open Go.RowKit
set_option linter.unusedVariables false
set_option linter.unusedSimpArgs false
theorem decodes_any (b c:ByteArray) (w:World) (htb:Tab w):Calls zG 6 #[.string b,.string c] w fun e w'=>e=.returned (.bool true)∧Below w§ w w':=by
 have HT:Hid (Tab w):=htb
 have cA:=awake_any w htb
 clear htb
 go_enter Tryz.func6,Tryz.ntmps6
 go_wp2_with fail
 refine cA.mono ?_
 rintro e w0 ⟨rfl,hb0⟩
 have HB0:=zH hb0
 clear cA hb0
 by_cases hB:131072 < b.size
 ·have hB':(131072:Int) < (b.size:Int):=by omega
  go_wp2
  go_ret
  exact⟨rfl,HB0.out⟩
 by_cases hC:131072 < c.size
 ·have hB':¬ (131072:Int) < (b.size:Int):=by omega
  have hC':(131072:Int) < (c.size:Int):=by omega
  go_wp2
  go_ret
  exact⟨rfl,HB0.out⟩
 have hB':¬ (131072:Int) < (b.size:Int):=by omega
 have hC':¬ (131072:Int) < (c.size:Int):=by omega
 have HX:Hid (∀ i,(X3 b c i).size≤1099511627776):=fun i=>by unfold X3; split <;> omega
 have e2:=Qa (Bn w0 (.cells zA0 52)) (Bn (w0.alloc (.cells zA0 52)) (.cells #[.string b,.string c,.string b] 9))
 have n1:((w0.alloc (.cells zA0 52)).alloc (.cells #[.string b,.string c,.string b] 9)).heap[w0§]? = some (.cells zA0 52 (0,0)):=by rw [JZ,if_neg (by simp)]; exact Hn _ _
 have n2:((w0.alloc (.cells zA0 52)).alloc (.cells #[.string b,.string c,.string b] 9)).heap[w0§+1]? = some (.cells #[.string b,.string c,.string b] 9 (0,0)):=by rw [← Sa w0 (.cells zA0 52)]; exact Hn _ _
 have HI0:Hid (BI w w0 w0§ (w0§+1) b c 0 ((w0.alloc (.cells zA0 52)).alloc (.cells #[.string b,.string c,.string b] 9))) :=
  ⟨_,_,_,0,0,0,0,0,_,_,_,_,_,TBs.start e2 n1 (Nat.le_refl _) (w0§+1) (Qy n2) (by omega),rfl,fun q hq=>by rw [hq]; have:=HB0.out.size; omega,⟨by omega,by omega,by omega,by omega,by omega⟩,n2⟩
 clear e2 n1 n2
 go_wp2
 go_loopw [8] (fun xx wr=>∃ i:Nat,i≤3∧xx=zI i∧BI w w0 w0§ (w0§+1) b c i wr) (fun xx _=>3 - (intOf xx).toNat)
 case atStart=>exact⟨0,by omega,rfl,HI0.out⟩
 case round =>
  obtain⟨i,hi3,rfl,hp⟩:=hrel
  clear HI0
  have HI:=hp.hid
  by_cases hi:i < 3
  ·have hi':(i:Int) < 3:=by omega
   have hcell:=hp.cell hi
   obtain⟨cd,Tx,g1,g2,g3,g4⟩:=dec_two (X3 b c i) (HX.out i)
   have HG:=zH g1
   have HBd:Hid (∀ t,Tx t→Bd t):=g2
   have HBw:=zH (HB0.out.trans (hp.below.mono HB0.out.size))
   have cP:=g3 wr (HT.out.on HBw.out)
   have HCD:=zH g4
   have hLB:wr.heap[w0§+1]? = some (.cells #[.string b,.string c,.string b] 9 (0,0)):=by obtain⟨w1,U,A,NI,NR,NG,NW,NL,lI,lR,lG,lW,lL,_,_,_,_,h2⟩:=hp; exact h2
   have HLB:=zH hLB
   clear hp g1 g2 g3 g4 hLB
   go_wp2_with fail
   refine cP.mono ?_
   rintro e w3 ⟨t,nb,rfl,hTx,hBx,hOw,hb3⟩
   have HTX:Hid (Tx t):=hTx
   have HOW:Hid (OwT nb t):=hOw
   have HB3:=zH hb3
   have HZ3:Hid ((w3.alloc (.cells tb0 26)).heap[w3§]? = some (.cells tb0 26 (0,0))):=Hn _ _
   have hb4:Below w3§ w3 ((w3.alloc (.cells tb0 26)).setRow w3§ t.vals):=Qc (Bn _ _) (Nat.le_refl _) _
   have HB4:=zH (Qa hb3 hb4)
   have HX4:Hid (Bxs wr ((w3.alloc (.cells tb0 26)).setRow w3§ t.vals) t nb):=⟨hBx.1,fun q hq=>⟨(hb4.block _ (Qy (hBx.2 q hq).1)).trans (hBx.2 q hq).1,(hBx.2 q hq).2⟩⟩
   have HN4:Hid (((w3.alloc (.cells tb0 26)).setRow w3§ t.vals).heap[w3§]? = some (.cells t.vals 26 (0,0))):=setRow_heap _ _ _ _ _ _ HZ3.out
   clear cP hTx hBx hOw hb3 hb4 hcell
   go_upto_region 10 with (refine wpList_store_row rfl 26 (.tmp 9) (.tmp 44) rfl w3§ t.vals rfl rfl 26 tb0 HZ3.out Qe rfl (JN t) ?_)
   rw [show (w3.alloc (.cells zA3 26))=w3.alloc (.cells tb0 26) from rfl]
   generalize World.setRow _ _ _=W4 at HB4 HX4 HN4 ⊢
   generalize w3§=G4 at HN4 ⊢
   clear HZ3 HB3
   have hc4:W4.heap[w0§+1]? = some (.cells #[.string b,.string c,.string b] 9 (0,0)):=(HB4.out.block _ (Qy HLB.out)).trans HLB.out
   have hcell:W4.cell? ⟨w0§+1,i,none⟩=some (.string (X3 b c i)):=by
    rw [Co hc4]
    have:=HI.out.cell hi
    rw [Co HLB.out] at this
    exact this
   have cD:=HCD.out W4
   clear HCD hc4
   go_wp2_with fail
   refine cD.mono ?_
   rintro e w5 ⟨u,nu,rfl,hTu,hBu,hb5⟩
   have HSM:Hid (JU t u):=HG.out t u HTX.out hTu
   have HZ5:Hid ((w5.alloc (.cells tb0 26)).heap[w5§]? = some (.cells tb0 26 (0,0))):=Hn _ _
   have hb6:Below w5§ w5 ((w5.alloc (.cells tb0 26)).setRow w5§ u.vals):=Qc (Bn _ _) (Nat.le_refl _) _
   have h46:=Qa hb5 hb6
   have HB6:=zH (Qa HB4.out h46)
   have HX6:Hid (Bxs wr ((w5.alloc (.cells tb0 26)).setRow w5§ u.vals) t nb):=⟨HX4.out.1,fun q hq=>⟨(h46.block _ (Qy (HX4.out.2 q hq).1)).trans (HX4.out.2 q hq).1,(HX4.out.2 q hq).2⟩⟩
   have HU6:Hid (TbL ((w5.alloc (.cells tb0 26)).setRow w5§ u.vals) u):=hBu.1 _ (fun q hq=>(hb6.block _ (Qy (hBu.2 q hq).1)).trans (hBu.2 q hq).1)
   have HT6:Hid (((w5.alloc (.cells tb0 26)).setRow w5§ u.vals).heap[G4]? = some (.cells t.vals 26 (0,0))):=(h46.block _ (Qy HN4.out)).trans HN4.out
   have HN6:Hid (((w5.alloc (.cells tb0 26)).setRow w5§ u.vals).heap[w5§]? = some (.cells u.vals 26 (0,0))):=setRow_heap _ _ _ _ _ _ HZ5.out
   clear cD hTu hBu hb5 hb6 h46 hcell HB4 HX4 HN4
   go_upto_region 11 with (refine wpList_store_row rfl 26 (.tmp 11) (.tmp 52) rfl w5§ u.vals rfl rfl 26 tb0 HZ5.out Qe rfl (JN u) ?_)
   rw [show (w5.alloc (.cells zA3 26))=w5.alloc (.cells tb0 26) from rfl]
   generalize World.setRow _ _ _=W6 at HB6 HX6 HU6 HT6 HN6 ⊢
   generalize w5§=G6 at HN6 ⊢
   clear HZ5
   have cS:=sameTable_any t u W6 (HX6.out.1 _ (fun q hq=>(HX6.out.2 q hq).1)) HU6.out
   go_wp2_with (first | (refine wpList_load_row rfl 26 (.tmp 9) rfl G4 rfl 26 t.vals (0,0) _ HT6.out Tryz.underlying26 rfl Qe ?_) | (refine wpList_load_row rfl 26 (.tmp 11) rfl G6 rfl 26 u.vals (0,0) _ HN6.out Tryz.underlying26 rfl Qe ?_))
   refine cS.mono ?_
   rintro e w7 ⟨bb,rfl,hbb,hb7⟩
   obtain rfl:=hbb.2 HSM.out
   have HB7:=zH (Qa HB6.out hb7)
   have HX7:Hid (Bxs wr w7 t nb):=⟨HX6.out.1,fun q hq=>⟨(hb7.block _ (Qy (HX6.out.2 q hq).1)).trans (HX6.out.2 q hq).1,(HX6.out.2 q hq).2⟩⟩
   have HT7:Hid (w7.heap[G4]? = some (.cells t.vals 26 (0,0))):=(hb7.block _ (Qy HT6.out)).trans HT6.out
   have hEE:(cd != cd)=false:=by simp
   clear cS hbb hb7 HB6 HX6 HU6 HT6 HN6
   have cT:=HI.out.next (t:=t) (nb:=nb) hi HB0.out.size HB7.out (HBd.out t HTX.out) HOW.out HX7.out.2
   go_wp2_with (refine wpList_load_row rfl 26 (.tmp 9) rfl G4 rfl 26 t.vals (0,0) _ HT7.out Tryz.underlying26 rfl Qe ?_)
   refine cT.mono ?_
   rintro e w8 ⟨⟨r,rfl⟩,hI8⟩
   have HI8:=hI8.hid
   clear cT hI8
   go_wp2
   exact⟨⟨i+1,by omega,by go_num,HI8.out⟩,by simp only [intOf]; omega⟩
  ·obtain rfl:i=3:=by omega
   have cO:=HI.out.own (HB0.out.trans (HI.out.below.mono HB0.out.size))
   clear hp
   go_wp2_with fail
   refine cO.mono ?_
   rintro e w8 ⟨rfl,hb8⟩
   go_wp2
   go_ret
   exact⟨rfl,hb8⟩
end O
end Go.Proofs.YteedmmljahgpjaaGreatDoor
