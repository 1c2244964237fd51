import Derived.Test.YtkfabnchhjfjjaaGreatDoorA0
import Derived.Test.YtkfabnchhjfjjaaGreatDoorA23
namespace Go.Proofs.YtkfabnchhjfjjaaGreatDoor
set_option maxRecDepth 100000
set_option maxHeartbeats 16000000
open Go.RowKit
set_option linter.unusedVariables false
theorem size43:(Tryz.prog.info? 43).map (·.size)=some 4:=by kernel_rfl
theorem inf100:(Tryz.prog.info? 100).map (fun i=>(i.zero,i.size,i.bytes))=some (some (.agg zA3),11,104):=by kernel_rfl
theorem inf87:(Tryz.prog.info? 87).map (fun i=>(i.zero,i.size,i.bytes))=some (some (.agg zA11),3,48):=by kernel_rfl
theorem app_k {w:World}{b:Nat}{K:PK}{V:World}{bs:List (Nat × Nat × Nat)}{s:St}{e sz:Nat}{v:Value}{n:Nat}(hL:GL w b K V bs s e sz v n) (t:TypeId) (cs:Array Value) (hcs:cs.size=sz) (h1:cs.all (·.oneCell')=true)
  (z:Value) (by_:Nat) (ht:Tryz.prog.underlying t=some (.slice e)) (hi:(Tryz.prog.info? e).map (fun i=>(i.zero,i.size,i.bytes))=some (some z,sz,by_)) (hz:z.cells.size=sz) (h0:0 < sz) (hn:n≤1000) (hby:by_≤1000000)
  {ops:Array Oper}{rest:List Oper}{o:Oper}{a:Act}{Q:Exit→Act→World→Prop}(hgd:o.guard=none) (d x:Operand)
  (ho:o.op=.call { callee:=.builtin .append,args:=#[d,x],argTypes:=#[t,t] }) (hs:a.eval d=v) (hx:a.eval x=.slice (some ⟨V§,0,none⟩) 1 1)
  (h:∀ g cap w',GL w b K w' bs s e sz (.slice (some ⟨g,0,none⟩) (n+1) cap) (n+1)→(∀ k,k < V§→v.ownBlock≠some k→w'.heap[k]? = V.heap[k]?)→wpList Tryz.prog ops Q rest (a.put o.dst (.slice (some ⟨g,0,none⟩) (n+1) cap)) w') :
  wpList Tryz.prog ops Q (o :: rest) a (V.alloc (.cells cs e)):=by
 obtain⟨i0,hi0,hz0,hz1,hz2⟩:=info_parts hi
 obtain⟨xs,hr⟩:=hL.R
 have hsz:=Sa V (.cells cs e)
 have hby2:(n+1) * by_≤140737488355328:=by
  have:(n+1) * by_≤1001 * 1000000:=Nat.mul_le_mul (by omega) hby
  omega
 refine wpList_append_lies _ hgd d x t ho 0 e i0 z sz by_ ht hi0 hz0 hz1 hz2 hz h0 v n xs hs (World.ownsRow.alloc hr _) ⟨V§,0,none⟩ 1 1 cs.toList hx (by simp; exact hcs) (World.news_of_block (Hn V _)) (fun u hu=>(Array.all_eq_true_iff_forall_mem.1 h1) u (by simpa using hu)) (by decide) (by unfold maxLen; omega) hby2 (Nat.zero_le _) _ rfl ?_
 intro g cap w' h2 h3 h4 h5
 have hs3:=h3.size
 have hVw:=hL.G.M.size
 have old:∀ k,k < V§→v.ownBlock≠some k→w'.heap[k]? = V.heap[k]?:=fun k hk hne=>(h3.block k (by omega) (fun e=>hne e.symm)).trans (Below.heap_alloc _ _ _ hk)
 have vlow:∀ k,k < w§→v.ownBlock≠some k:=fun k hk e=>by have:=(hL.D _ e).1; omega
 refine h g cap w' ⟨⟨?_,fun p hp=>?_,?_,hL.G.W⟩,⟨_,h2⟩,fun k hk=>?_⟩ old
 ·exact (hL.G.M.trans (Mv.ofBelow (F:=fun k=>k=b) (Bn V (.cells cs e))) (fun _ e=>.inl e)).grown h3 (fun k e=>.inr (hL.D _ e).1)
 ·obtain⟨g1,g2⟩:=hL.G.B p hp
  exact⟨g1.blk (old _ g1.lt (fun e=>(hL.D _ e).2 p hp rfl)),g2⟩
 ·exact hL.G.S.off hL.G.W (fun k hk=>old k (by omega) (vlow k hk))
 ·simp [Value.ownBlock] at hk
  subst hk
  rcases h4 with h4 | h4
  ·exact hL.D _ h4
  ·refine⟨by omega,fun p hp=>?_⟩
   have:=(hL.G.B p hp).1.lt
   omega
theorem SpX.off {w w':World}{b:Nat}{K:PK}{s:St}(h:SpX w b K s) {B:Nat}(hB:Lw B b K) (o:∀ k,k < B→w'.heap[k]? = w.heap[k]?):SpX w' b K s:=by
 cases s with
 | ok ts=>exact Lv.off h hB o
 | error f =>
  cases f with
  | tok no p=>obtain⟨i,h1,h2⟩:=h; exact⟨i,h1.off hB o,h2⟩
  | lex=>obtain⟨i,e,p,h1,h2⟩:=h; exact⟨i,e,p,h1.off hB o,h2⟩
theorem gy_row {w:World}{b:Nat}{K:PK}{V:World}{s:St}{R T:Nat}{old:Array Value}(M:Mv w V (fun k=>k=b)) (hR:w§≤R) (g1:V.heap[R]? = some (.cells old T (0,0))) (W:Lw w§ b K) (S:SpX V b K s) (cs:Array Value) :
  (V.setRow R cs).heap[R]? = some (.cells cs T (0,0))∧SpX (V.setRow R cs) b K s∧Mv w (V.setRow R cs) (fun k=>k=b):=by
 have hsz:(V.setRow R cs)§=V§:=by unfold World.setRow; simp
 refine⟨setRow_heap V R old cs T (0,0) g1,S.off W (fun k hk=>setRow_oth _ _ _ (by omega)),⟨M.os,M.tape,M.output,by rw [hsz]; exact M.size,fun k hk hn'=>?_⟩⟩
 rw [setRow_oth _ _ _ (show k≠R by omega)]
 exact M.block k hk hn'
def dSts (s:St):St:=if dIs Zd s=true then dMany Zd dState 12 s else dWrong 130 s
def dBody (s:St):St:=dTake Z8 (dSts (dSlots 4 (dMany Zu dReg 12 (dTake Zs (dName (dTake ZQ s))))))
def OutWh (n:Nat) (b:Nat) (K:PK) (w:World) (s':St) (e:Ending) (w':World):Prop :=
 ∃ cs:Array Value,e=.returned (.agg cs)∧cs.size=n∧cs.all (·.oneCell')=true∧SpX w' b K s'∧Mv w w' (fun k=>k=b)
theorem whole_g {w:World}{b:Nat}{K:PK}{s:St}(hK:KG K) (h:Sp w b K s):Calls zG 28 #[zP b] w (OutWh 4 b K w (dEnd (dBody s))):=by
 have HK:Hid (KG K):=hK
 have HG0:=((GX.new h zA9 43 4 rfl (by simp [Value.oneCell'])).push zA9 43 4 rfl (by simp [Value.oneCell'])).hid
 have hN:=Hn (w.alloc (.cells zA9 43)) (.cells zA9 43)
 have HBN:Hid (b≠w§+1):=by have h1:=h.lw.1; show _≠_; omega
 rw [Sa] at HG0 hN
 clear h hK
 obtain⟨W0,eW0⟩:∃ W,(w.alloc (.cells zA9 43)).alloc (.cells zA9 43)=W:=⟨_,rfl⟩
 rw [eW0] at HG0 hN
 have HEW:=zH eW0
 clear eW0
 have HF0:Hid (Cl W0 (w§+1) 1 (.slice none 0 0)∧Cl W0 (w§+1) 3 (.slice none 0 0)):=⟨⟨_,_,hN,rfl⟩,⟨_,_,hN,rfl⟩⟩
 clear hN
 obtain⟨r0,er0⟩:∃ q,dEnd (dBody s)=q:=⟨_,rfl⟩
 have HR0:Hid (dEnd (dBody s)=r0):=er0
 rw [er0]
 clear er0
 have cT:=take_g HK.out HG0.out.S ZQ (by decide +kernel) (by decide)
 obtain⟨s1,es1⟩:∃ q,dTake ZQ s=q:=⟨_,rfl⟩
 have HS1:=zH es1
 rw [es1] at cT
 clear es1
 go_enter Tryz.func28,Tryz.ntmps28
 go_wp2_with fail
 try rw [HEW.out]
 refine cT.mono ?_
 rintro e w1 ⟨⟨p1,rfl⟩,hs,hm⟩
 obtain⟨N3,eN3⟩:∃ q,w§+1=q:=⟨_,rfl⟩
 have HG1:=(HG0.out.mv hm hs).hid
 have HF1:Hid (Cl w1 (w§+1) 1 (.slice none 0 0)∧Cl w1 (w§+1) 3 (.slice none 0 0)):=⟨HF0.out.1.mv hm HBN.out,HF0.out.2.mv hm HBN.out⟩
 rw [eN3] at HG1 HF1 HBN
 clear cT hs hm HG0 HEW HF0
 have cN:=name_g HG1.out.S
 go_wp2_with fail
 try rw [eN3]
 refine cN.mono ?_
 rintro e w4 ⟨⟨x4,rfl⟩,hs,hm⟩
 have HG4:=(HG1.out.mv hm hs).hid
 obtain⟨av0,ac0,af0⟩:=(HG4.out.B (N3,43,4) (by simp)).1.cell 0 (show 0 < 4 by omega)
 have HG5:=zH (HG4.out.set (N:=N3) (T:=43) (n:=4) (by simp) 0 (.string x4) rfl)
 have HF5:Hid (Cl (w4.setCell ⟨N3,0,none⟩ (.string x4)) N3 1 (.slice none 0 0)∧Cl (w4.setCell ⟨N3,0,none⟩ (.string x4)) N3 3 (.slice none 0 0)):=⟨(HF1.out.1.mv hm HBN.out).set 0 (by decide) _,(HF1.out.2.mv hm HBN.out).set 0 (by decide) _⟩
 clear cN hs hm HG1 HF1
 try rw [eN3]
 clear eN3
 go_upto_region 4 with fail
 obtain⟨W5,eW5⟩:∃ W,w4.setCell ⟨N3,0,none⟩ (.string x4)=W:=⟨_,rfl⟩
 rw [eW5] at HG5 HF5 ⊢
 clear eW5 ac0 af0 HG4
 have cT:=take_g HK.out HG5.out.S Zs (by decide +kernel) (by decide)
 go_wp2_with fail
 refine cT.mono ?_
 rintro e w2 ⟨⟨p2,rfl⟩,hs,hm⟩
 have HL0:=(GL.new (HG5.out.mv hm hs) 100 11).hid
 have HC0:=(HF5.out.1.mv hm HBN.out).hid
 have HX0s:=(HF5.out.2.mv hm HBN.out).hid
 clear cT hs hm HG5 HF5
 obtain⟨s2,es2⟩:∃ q,dTake Zs (dName s1)=q:=⟨_,rfl⟩
 have HS2:Hid (dEnd (dTake Z8 (dSts (dSlots 4 (dMany Zu dReg 12 s2))))=r0):=by
  show _=_
  rw [← HR0.out,dBody,HS1.out,es2]
 rw [es2] at HL0
 clear es2 HR0 HS1
 obtain⟨r1,er1⟩:∃ q,dMany Zu dReg 12 s2=q:=⟨_,rfl⟩
 have HR1:=zH er1
 rw [er1] at HS2
 clear er1
 go_wp2_with fail
 go_loopw [4,5,6] (fun _ _ _ wr=>∃ a n c s',n≤12∧Hid (GL w b K wr [(N3,43,4),(w§,43,4)] s' 100 11 (.slice a n c) n)∧Hid (Cl wr N3 1 (.slice a n c))∧Hid (dMany Zu dReg (12 - n) s'=r1)∧Hid (Cl wr N3 3 (.slice none 0 0))) (fun _ _ _ wr=>12 - clen N3 1 wr)
 case atStart=>exact⟨none,0,0,s2,by omega,HL0,HC0,HR1,HX0s⟩
 case round =>
  obtain⟨a,n,c,s',hn,HL,HC,HD,HX0⟩:=hrel
  have HMS:Hid (clen N3 1 wr=n):=HC.out.clen
  clear HL0 HC0 HR1 HX0s
  have cI:=is_g HK.out HL.out.G.S Zu (by decide +kernel) (by decide)
  obtain⟨q6,eq6⟩:∃ q,dIs Zu s'=q:=⟨_,rfl⟩
  have HQ6:=zH eq6
  rw [eq6] at cI
  clear eq6
  cases q6 with
  | false =>
   have HDE:Hid (r1=s'):=by show _=_; rw [← HD.out,dMany_no HQ6.out]
   go_wp2_with fail
   refine cI.mono ?_
   rintro e u1 ⟨rfl,hb⟩
   have uHL:=(HL.out.on hb).hid
   have uHC:=(HC.out.on hb).hid
   have HX0u:=(HX0.out.on hb).hid
   clear cI hb HL HC HX0
   have cS:=slots_g HK.out uHL.out.G.S
   have k8:=uHC.out.cell
   go_wp2_with fail
   refine cS.mono ?_
   rintro e z5 ⟨aS,nS,cS',rfl,hs,hm⟩
   have HG5:=zH (uHL.out.G.mv hm hs)
   have HX5:=(HX0u.out.mv hm HBN.out).hid
   obtain⟨av2,ac2,af2⟩:=(HG5.out.B (N3,43,4) (by simp)).1.cell 2 (show 2 < 4 by omega)
   have HG6:=zH (HG5.out.set (N:=N3) (T:=43) (n:=4) (by simp) 2 (.slice aS nS cS') rfl)
   have HX6:Hid (Cl (z5.setCell ⟨N3,2,none⟩ (.slice aS nS cS')) N3 3 (.slice none 0 0)):=HX5.out.set 2 (by decide) _
   clear cS hs hm uHL uHC HX0u k8
   go_upto_region 12 with fail
   obtain⟨W6,eW6⟩:∃ W,z5.setCell ⟨N3,2,none⟩ (.slice aS nS cS')=W:=⟨_,rfl⟩
   rw [eW6] at HG6 HX6 ⊢
   clear eW6 ac2 af2 HG5 HX5
   obtain⟨s4,es4⟩:∃ q,dSlots 4 s'=q:=⟨_,rfl⟩
   have HR3:Hid (dEnd (dTake Z8 (dSts s4))=r0):=by
    show _=_
    rw [← HS2.out,HDE.out,es4]
   rw [es4] at HG6
   clear es4
   obtain⟨r2,er2⟩:∃ q,dMany Zd dState 12 s4=q:=⟨_,rfl⟩
   have HR2:=zH er2
   have HR2b:=HR2
   clear er2
   have HL0b:=(GL.new HG6.out 87 3).hid
   have HC0b:=zH HX6.out
   clear HG6 HX6 HD HQ6 HMS HDE hn
   go_wp2_with fail
   go_loopw [7,8,9] (fun _ _ _ wr=>∃ a n c s',n≤12∧Hid (GL w b K wr [(N3,43,4),(w§,43,4)] s' 87 3 (.slice a n c) n)∧Hid (Cl wr N3 3 (.slice a n c))∧Hid (dMany Zd dState (12 - n) s'=r2)∧Hid ((n=0→s'=s4)∧(n≠0→dIs Zd s4=true))) (fun _ _ _ wr=>12 - clen N3 3 wr)
   case atStart=>exact⟨none,0,0,s4,by omega,HL0b,HC0b,HR2b,⟨fun _=>rfl,fun h=>absurd rfl h⟩⟩
   case round =>
    obtain⟨a,n,c,s',hn,HL,HC,HD,HZE⟩:=hrel
    have HMS:Hid (clen N3 3 wr=n):=HC.out.clen
    clear HL0b HC0b HR2b
    have cI:=is_g HK.out HL.out.G.S Zd (by decide +kernel) (by decide)
    obtain⟨q6,eq6⟩:∃ q,dIs Zd s'=q:=⟨_,rfl⟩
    have HQ6:=zH eq6
    rw [eq6] at cI
    clear eq6
    cases q6 with
    | false =>
     have HDE:Hid (r2=s'):=by show _=_; rw [← HD.out,dMany_no HQ6.out]
     go_wp2_with fail
     refine cI.mono ?_
     rintro e v1 ⟨rfl,hb⟩
     have vHL:=(HL.out.on hb).hid
     have vHC:=(HC.out.on hb).hid
     clear cI hb HL HC 
     have k8:=vHC.out.cell
     by_cases h0:n=0
     ·subst h0
      have HWF:Hid (dSts s4=dWrong 130 s'):=by
       show (if _ then _ else _)=_
       rw [← HZE.out.1 rfl,HQ6.out]
       rfl
      have cW:=wrong_g vHL.out.G.S 130 (by decide)
      go_wp2_with fail
      refine cW.mono ?_
      rintro e z7 ⟨rfl,hs,hm⟩
      have HGq:=zH (vHL.out.G.mv hm hs)
      clear cW hs hm vHL vHC k8
      have cT:=take_g HK.out HGq.out.S Z8 (by decide +kernel) (by decide)
      go_wp2_with fail
      refine cT.mono ?_
      rintro e z8 ⟨⟨p8,rfl⟩,hs,hm⟩
      have HG8:=zH (HGq.out.mv hm hs)
      clear cT hs hm HGq
      have cE:=end_s HG8.out.S
      go_wp2_with fail
      refine cE.mono ?_
      rintro e z9 ⟨rfl,hs,hm⟩
      have HHX:Hid (SpX z9 b K (dEnd (dTake Z8 (dWrong 130 s')))∧Mv w z9 (fun k=>k=b)):=⟨hs,HG8.out.M.trans hm (fun _ e=>.inl e)⟩
      have hbl:=HG8.out.W.1
      obtain⟨cs,hc1,hc2,hc3⟩:=(HG8.out.B (N3,43,4) (by simp)).1.blk (hm.block _ (HG8.out.B (N3,43,4) (by simp)).1.lt (by have h9:w§≤N3:=(HG8.out.B (N3,43,4) (by simp)).2; show ¬ N3=b; omega))
      obtain⟨old,ho1,ho2,ho3⟩:=(HG8.out.B (w§,43,4) (by simp)).1.blk (hm.block _ (HG8.out.B (w§,43,4) (by simp)).1.lt (by show ¬ w§=b; omega))
      have HC9:=zH hc1
      have HO9:=zH ho1
      have HN9:Hid (cs.size=4∧old.size=4∧cs.all (·.oneCell')=true):=⟨hc2,ho2,hc3⟩
      have HF9:Hid ((z9.setRow w§ cs).heap[w§]? = some (.cells cs 43 (0,0))∧SpX (z9.setRow w§ cs) b K (dEnd (dTake Z8 (dWrong 130 s')))∧Mv w (z9.setRow w§ cs) (fun k=>k=b)):=gy_row HHX.out.2 (Nat.le_refl _) ho1 HG8.out.W HHX.out.1 cs
      clear cE hs hm hbl hc1 hc2 hc3 ho1 ho2 ho3 HG8 HHX
      go_wp2_with (first | (refine wpList_load_row rfl 43 (.tmp 3) rfl N3 rfl 43 cs (0,0) _ HC9.out Tryz.underlying43 rfl (by rw [HN9.out.1]; exact size43) ?_) | (refine wpList_store_row rfl 43 (.tmp 2) (.tmp 69) rfl w§ cs rfl rfl 43 old HO9.out (by rw [HN9.out.1]; exact size43) (by rw [HN9.out.1,HN9.out.2.1]) HN9.out.2.2 ?_))
      exact bodyPost_ret (results_cell_row rfl _ _ w§ 43 cs (0,0) _ rfl HF9.out.1 Tryz.underlying43 rfl (by rw [HN9.out.1]; exact size43)) rfl ⟨cs,rfl,HN9.out.1,HN9.out.2.2,by rw [← HR3.out,HWF.out]; exact HF9.out.2.1,HF9.out.2.2⟩
     ·have hne:¬ (n:Int)=0:=by omega
      have hne2:((n:Int) == 0)=false:=by simp; omega
      have HWF:Hid (dSts s4=s'):=by
       show (if _ then _ else _)=_
       rw [if_pos (HZE.out.2 h0),HR2.out,HDE.out]
      have HGq:=zH vHL.out.G
      go_upto_region 20 with fail
      clear vHL vHC k8
      have cT:=take_g HK.out HGq.out.S Z8 (by decide +kernel) (by decide)
      go_wp2_with fail
      refine cT.mono ?_
      rintro e z8 ⟨⟨p8,rfl⟩,hs,hm⟩
      have HG8:=zH (HGq.out.mv hm hs)
      clear cT hs hm HGq
      have cE:=end_s HG8.out.S
      go_wp2_with fail
      refine cE.mono ?_
      rintro e z9 ⟨rfl,hs,hm⟩
      have HHX:Hid (SpX z9 b K (dEnd (dTake Z8 s'))∧Mv w z9 (fun k=>k=b)):=⟨hs,HG8.out.M.trans hm (fun _ e=>.inl e)⟩
      have hbl:=HG8.out.W.1
      obtain⟨cs,hc1,hc2,hc3⟩:=(HG8.out.B (N3,43,4) (by simp)).1.blk (hm.block _ (HG8.out.B (N3,43,4) (by simp)).1.lt (by have h9:w§≤N3:=(HG8.out.B (N3,43,4) (by simp)).2; show ¬ N3=b; omega))
      obtain⟨old,ho1,ho2,ho3⟩:=(HG8.out.B (w§,43,4) (by simp)).1.blk (hm.block _ (HG8.out.B (w§,43,4) (by simp)).1.lt (by show ¬ w§=b; omega))
      have HC9:=zH hc1
      have HO9:=zH ho1
      have HN9:Hid (cs.size=4∧old.size=4∧cs.all (·.oneCell')=true):=⟨hc2,ho2,hc3⟩
      have HF9:Hid ((z9.setRow w§ cs).heap[w§]? = some (.cells cs 43 (0,0))∧SpX (z9.setRow w§ cs) b K (dEnd (dTake Z8 s'))∧Mv w (z9.setRow w§ cs) (fun k=>k=b)):=gy_row HHX.out.2 (Nat.le_refl _) ho1 HG8.out.W HHX.out.1 cs
      clear cE hs hm hbl hc1 hc2 hc3 ho1 ho2 ho3 HG8 HHX
      go_wp2_with (first | (refine wpList_load_row rfl 43 (.tmp 3) rfl N3 rfl 43 cs (0,0) _ HC9.out Tryz.underlying43 rfl (by rw [HN9.out.1]; exact size43) ?_) | (refine wpList_store_row rfl 43 (.tmp 2) (.tmp 69) rfl w§ cs rfl rfl 43 old HO9.out (by rw [HN9.out.1]; exact size43) (by rw [HN9.out.1,HN9.out.2.1]) HN9.out.2.2 ?_))
      exact bodyPost_ret (results_cell_row rfl _ _ w§ 43 cs (0,0) _ rfl HF9.out.1 Tryz.underlying43 rfl (by rw [HN9.out.1]; exact size43)) rfl ⟨cs,rfl,HN9.out.1,HN9.out.2.2,by rw [← HR3.out,HWF.out]; exact HF9.out.2.1,HF9.out.2.2⟩
    | true =>
     obtain⟨t6,ts6,e6,hx6⟩:=dIs_ok HQ6.out
     have HE6:Hid (s'=.ok (t6 :: ts6)):=e6
     clear e6 hx6
     go_wp2_with fail
     refine cI.mono ?_
     rintro e v1 ⟨rfl,hb⟩
     have HL1:=(HL.out.on hb).hid
     have HC1:=(HC.out.on hb).hid
     have hlv:Lv v1 b K (t6 :: ts6):=by
      have h1:=HL1.out.G.S
      rw [HE6.out] at h1
      exact h1.2
     clear cI hb HL HC 
     have k8:=HC1.out.cell
     by_cases h4:n < 12
     ·have cM:=many_ok hlv n 12 h4 (by omega)
      have HD2:Hid (dMany Zd dState (12 - (n+1)) (dState s')=r2):=by
       show _=_
       rw [← HD.out,show 12 - n=(12 - (n+1))+1 by omega]
       show _=if _ then _ else _
       rw [if_pos HQ6.out]
      have HZ2:Hid ((n+1=0→dState s'=s4)∧(n+1≠0→dIs Zd s4=true)):=by
       refine⟨fun h=>by omega,fun _=>?_⟩
       by_cases h5:n=0
       ·rw [← HZE.out.1 h5]; exact HQ6.out
       ·exact HZE.out.2 h5
      clear hlv
      go_wp2_with fail
      refine cM.mono ?_
      rintro e v2 ⟨rfl,e2⟩
      obtain rfl:=e2.symm
      clear cM e2 k8
      have cR:=state_g HK.out HL1.out.G.S
      go_wp2_with fail
      refine cR.mono ?_
      rintro e w3 ⟨cs,rfl,hcs1,hcs2,hs,hm⟩
      have HCS:Hid (cs.size=3∧cs.all (·.oneCell')=true):=⟨hcs1,hcs2⟩
      have HLp:=((HL1.out.mv hm hs).push zA11 87 3 rfl (by simp [Value.oneCell'])).hid
      have hN3l:=(HC1.out.mv hm HBN.out).lt
      have HL4:=(HLp.out.row (N:=w3§) (T:=87) (m:=3) (by simp) cs hcs1 hcs2).1.hid
      have HN4:=zH ((HLp.out.row (N:=w3§) (T:=87) (m:=3) (by simp) cs hcs1 hcs2).2)
      have HZ:Hid ((w3.alloc (.cells zA11 87)).heap[w3§]? = some (.cells zA11 87 (0,0))):=Hn _ _
      have HC4:Hid (Cl ((w3.alloc (.cells zA11 87)).setRow w3§ cs) N3 3 (.slice a n c)):=((HC1.out.mv hm HBN.out).on (Bn _ _)).blk (setRow_oth _ _ _ (by omega))
      clear cR hs hm HL1 HC1  HLp hcs1 hcs2 hN3l
      go_upto_region 17 with (refine wpList_store_row rfl 87 (.tmp 9) (.tmp 52) rfl w3§ cs rfl rfl 87 zA11 HZ.out (by rw [HCS.out.1]; exact size87) (by rw [HCS.out.1]; rfl) HCS.out.2 ?_)
      generalize hW4:World.setRow _ _ _=W4
      have HL4:Hid (GL w b K W4 ((w3§,87,3) :: [(N3,43,4),(w§,43,4)]) (dState s') 87 3 (.slice a n c) n):=by rw [← hW4]; exact HL4.out
      have HC4:Hid (Cl W4 N3 3 (.slice a n c)):=by rw [← hW4]; exact HC4.out
      have HN4:Hid (W4.heap[w3§]? = some (.cells cs 87 (0,0))):=by rw [← hW4]; exact HN4.out
      obtain⟨N4,eN4⟩:∃ q,w3§=q:=⟨_,rfl⟩
      rw [eN4] at HL4 HN4 ⊢
      clear eN4 HZ hW4
      have k8:=HC4.out.cell
      go_wp2_with (first | (refine wpList_load_row rfl 87 (.tmp 9) rfl N4 rfl 87 cs (0,0) _ HN4.out Tryz.underlying87 rfl (by rw [HCS.out.1]; exact size87) ?_) | (refine wpList_slice1 rfl 41 87 (.tmp 55) rfl cs rfl 3 _ Tryz.underlying41 48 inf87 rfl HCS.out.1 (by decide) (by decide) ?_) | (at_builtin; refine app_g HL4.out 41 cs HCS.out.1 HCS.out.2 _ 48 Tryz.underlying41 inf87 rfl (by decide) (by omega) (by decide) rfl (.tmp 54) (.tmp 56) rfl rfl rfl ?_; intro g7 cap7 w7 hl7; have HL7:=hl7.pop.hid; obtain⟨av8,ac8,af8⟩:=(HL7.out.G.B (N3,43,4) (by simp)).1.cell 3 (show 3 < 4 by omega); clear hl7))
      have HL8:=(HL7.out.set (N:=N3) (T:=43) (m:=4) (by simp) 3 (.slice (some ⟨g7,0,none⟩) (n+1) cap7) rfl).hid
      have HC8:Hid (Cl (w7.setCell ⟨N3,3,none⟩ (.slice (some ⟨g7,0,none⟩) (n+1) cap7)) N3 3 (.slice (some ⟨g7,0,none⟩) (n+1) cap7)):=(HL7.out.G.B (N3,43,4) (by simp)).1.put (show 3 < 4 by omega) _
      exact⟨⟨_,n+1,_,_,by omega,HL8,HC8,HD2,HZ2⟩,by rw [HMS.out,HC8.out.clen]; omega⟩
     ·obtain rfl:n=12:=by omega
      have cM:=many_no hlv 12 12 (by omega) (by omega)
      have HDE:Hid (r2=.error (.tok 131 t6.p)):=by
       show _=_
       rw [← HD.out]
       show (if _ then _ else _)=_
       rw [if_pos HQ6.out,HE6.out]
       rfl
      clear hlv
      go_wp2_with fail
      refine cM.mono ?_
      rintro e v2 ⟨rfl,hd,hm⟩
      have vHL:=(HL1.out.mv (s':=.error (.tok 131 t6.p)) hm hd).hid
      have vHC:=(HC1.out.mv hm HBN.out).hid
      clear cM hd hm HL1 HC1  k8
      have k8:=vHC.out.cell
      have HWF:Hid (dSts s4=.error (.tok 131 t6.p)):=by
       show (if _ then _ else _)=_
       rw [if_pos (HZE.out.2 (by decide)),HR2.out,HDE.out]
      have HGq:=zH vHL.out.G
      go_upto_region 20 with fail
      clear vHL vHC k8
      have cT:=take_g HK.out HGq.out.S Z8 (by decide +kernel) (by decide)
      go_wp2_with fail
      refine cT.mono ?_
      rintro e z8 ⟨⟨p8,rfl⟩,hs,hm⟩
      have HG8:=zH (HGq.out.mv hm hs)
      clear cT hs hm HGq
      have cE:=end_s HG8.out.S
      go_wp2_with fail
      refine cE.mono ?_
      rintro e z9 ⟨rfl,hs,hm⟩
      have HHX:Hid (SpX z9 b K (dEnd (dTake Z8 (.error (.tok 131 t6.p))))∧Mv w z9 (fun k=>k=b)):=⟨hs,HG8.out.M.trans hm (fun _ e=>.inl e)⟩
      have hbl:=HG8.out.W.1
      obtain⟨cs,hc1,hc2,hc3⟩:=(HG8.out.B (N3,43,4) (by simp)).1.blk (hm.block _ (HG8.out.B (N3,43,4) (by simp)).1.lt (by have h9:w§≤N3:=(HG8.out.B (N3,43,4) (by simp)).2; show ¬ N3=b; omega))
      obtain⟨old,ho1,ho2,ho3⟩:=(HG8.out.B (w§,43,4) (by simp)).1.blk (hm.block _ (HG8.out.B (w§,43,4) (by simp)).1.lt (by show ¬ w§=b; omega))
      have HC9:=zH hc1
      have HO9:=zH ho1
      have HN9:Hid (cs.size=4∧old.size=4∧cs.all (·.oneCell')=true):=⟨hc2,ho2,hc3⟩
      have HF9:Hid ((z9.setRow w§ cs).heap[w§]? = some (.cells cs 43 (0,0))∧SpX (z9.setRow w§ cs) b K (dEnd (dTake Z8 (.error (.tok 131 t6.p))))∧Mv w (z9.setRow w§ cs) (fun k=>k=b)):=gy_row HHX.out.2 (Nat.le_refl _) ho1 HG8.out.W HHX.out.1 cs
      clear cE hs hm hbl hc1 hc2 hc3 ho1 ho2 ho3 HG8 HHX
      go_wp2_with (first | (refine wpList_load_row rfl 43 (.tmp 3) rfl N3 rfl 43 cs (0,0) _ HC9.out Tryz.underlying43 rfl (by rw [HN9.out.1]; exact size43) ?_) | (refine wpList_store_row rfl 43 (.tmp 2) (.tmp 69) rfl w§ cs rfl rfl 43 old HO9.out (by rw [HN9.out.1]; exact size43) (by rw [HN9.out.1,HN9.out.2.1]) HN9.out.2.2 ?_))
      exact bodyPost_ret (results_cell_row rfl _ _ w§ 43 cs (0,0) _ rfl HF9.out.1 Tryz.underlying43 rfl (by rw [HN9.out.1]; exact size43)) rfl ⟨cs,rfl,HN9.out.1,HN9.out.2.2,by rw [← HR3.out,HWF.out]; exact HF9.out.2.1,HF9.out.2.2⟩
  | true =>
   obtain⟨t6,ts6,e6,hx6⟩:=dIs_ok HQ6.out
   have HE6:Hid (s'=.ok (t6 :: ts6)):=e6
   clear e6 hx6
   go_wp2_with fail
   refine cI.mono ?_
   rintro e u1 ⟨rfl,hb⟩
   have HL1:=(HL.out.on hb).hid
   have HC1:=(HC.out.on hb).hid
   have HX0_1:=(HX0.out.on hb).hid
   have hlv:Lv u1 b K (t6 :: ts6):=by
    have h1:=HL1.out.G.S
    rw [HE6.out] at h1
    exact h1.2
   clear cI hb HL HC HX0
   have k8:=HC1.out.cell
   by_cases h4:n < 12
   ·have cM:=many_ok hlv n 12 h4 (by omega)
    have HD2:Hid (dMany Zu dReg (12 - (n+1)) (dReg s')=r1):=by
     show _=_
     rw [← HD.out,show 12 - n=(12 - (n+1))+1 by omega]
     show _=if _ then _ else _
     rw [if_pos HQ6.out]
    clear hlv
    go_wp2_with fail
    refine cM.mono ?_
    rintro e u2 ⟨rfl,e2⟩
    obtain rfl:=e2.symm
    clear cM e2 k8
    have cR:=reg_g HK.out HL1.out.G.S
    go_wp2_with fail
    refine cR.mono ?_
    rintro e w3 ⟨cs,rfl,hcs1,hcs2,hs,hm⟩
    have HCS:Hid (cs.size=11∧cs.all (·.oneCell')=true):=⟨hcs1,hcs2⟩
    have HLp:=((HL1.out.mv hm hs).push zA3 100 11 rfl (by simp [Value.oneCell'])).hid
    have hN3l:=(HC1.out.mv hm HBN.out).lt
    have HL4:=(HLp.out.row (N:=w3§) (T:=100) (m:=11) (by simp) cs hcs1 hcs2).1.hid
    have HN4:=zH ((HLp.out.row (N:=w3§) (T:=100) (m:=11) (by simp) cs hcs1 hcs2).2)
    have HZ:Hid ((w3.alloc (.cells zA3 100)).heap[w3§]? = some (.cells zA3 100 (0,0))):=Hn _ _
    have HC4:Hid (Cl ((w3.alloc (.cells zA3 100)).setRow w3§ cs) N3 1 (.slice a n c)):=((HC1.out.mv hm HBN.out).on (Bn _ _)).blk (setRow_oth _ _ _ (by omega))
    have HX04:Hid (Cl ((w3.alloc (.cells zA3 100)).setRow w3§ cs) N3 3 (.slice none 0 0)):=((HX0_1.out.mv hm HBN.out).on (Bn _ _)).blk (setRow_oth _ _ _ (by omega))
    clear cR hs hm HL1 HC1 HX0_1 HLp hcs1 hcs2 hN3l
    go_upto_region 10 with (refine wpList_store_row rfl 100 (.tmp 6) (.tmp 30) rfl w3§ cs rfl rfl 100 zA3 HZ.out (by rw [HCS.out.1]; exact size100) (by rw [HCS.out.1]; rfl) HCS.out.2 ?_)
    generalize hW4:World.setRow _ _ _=W4
    have HL4:Hid (GL w b K W4 ((w3§,100,11) :: [(N3,43,4),(w§,43,4)]) (dReg s') 100 11 (.slice a n c) n):=by rw [← hW4]; exact HL4.out
    have HC4:Hid (Cl W4 N3 1 (.slice a n c)):=by rw [← hW4]; exact HC4.out
    have HX04:Hid (Cl W4 N3 3 (.slice none 0 0)):=by rw [← hW4]; exact HX04.out
    have HN4:Hid (W4.heap[w3§]? = some (.cells cs 100 (0,0))):=by rw [← hW4]; exact HN4.out
    obtain⟨N4,eN4⟩:∃ q,w3§=q:=⟨_,rfl⟩
    rw [eN4] at HL4 HN4 ⊢
    clear eN4 HZ hW4
    have k8:=HC4.out.cell
    go_wp2_with (first | (refine wpList_load_row rfl 100 (.tmp 6) rfl N4 rfl 100 cs (0,0) _ HN4.out Tryz.underlying100 rfl (by rw [HCS.out.1]; exact size100) ?_) | (refine wpList_slice1 rfl 39 100 (.tmp 33) rfl cs rfl 11 _ Tryz.underlying39 104 inf100 rfl HCS.out.1 (by decide) (by decide) ?_) | (at_builtin; refine app_k HL4.out 39 cs HCS.out.1 HCS.out.2 _ 104 Tryz.underlying39 inf100 rfl (by decide) (by omega) (by decide) rfl (.tmp 32) (.tmp 34) rfl rfl rfl ?_; intro g7 cap7 w7 hl7 ho7; have HO7:Hid (w7.heap[N3]? = W4.heap[N3]?):=ho7 N3 HC4.out.lt (fun e=>(HL4.out.D _ e).2 (N3,43,4) (by simp) rfl); clear ho7; have HL7:=hl7.pop.hid; obtain⟨av8,ac8,af8⟩:=(HL7.out.G.B (N3,43,4) (by simp)).1.cell 1 (show 1 < 4 by omega); clear hl7))
    have HL8:=(HL7.out.set (N:=N3) (T:=43) (m:=4) (by simp) 1 (.slice (some ⟨g7,0,none⟩) (n+1) cap7) rfl).hid
    have HC8:Hid (Cl (w7.setCell ⟨N3,1,none⟩ (.slice (some ⟨g7,0,none⟩) (n+1) cap7)) N3 1 (.slice (some ⟨g7,0,none⟩) (n+1) cap7)):=(HL7.out.G.B (N3,43,4) (by simp)).1.put (show 1 < 4 by omega) _
    have HXE0:Hid (Cl (w7.setCell ⟨N3,1,none⟩ (.slice (some ⟨g7,0,none⟩) (n+1) cap7)) N3 3 (.slice none 0 0)):=(HX04.out.blk HO7.out).set 1 (by decide) _
    exact⟨⟨_,n+1,_,_,by omega,HL8,HC8,HD2,HXE0⟩,by rw [HMS.out,HC8.out.clen]; omega⟩
   ·obtain rfl:n=12:=by omega
    have cM:=many_no hlv 12 12 (by omega) (by omega)
    have HDE:Hid (r1=.error (.tok 131 t6.p)):=by
     show _=_
     rw [← HD.out]
     show (if _ then _ else _)=_
     rw [if_pos HQ6.out,HE6.out]
     rfl
    clear hlv
    go_wp2_with fail
    refine cM.mono ?_
    rintro e u2 ⟨rfl,hd,hm⟩
    have uHL:=(HL1.out.mv (s':=.error (.tok 131 t6.p)) hm hd).hid
    have uHC:=(HC1.out.mv hm HBN.out).hid
    have HX0u:=(HX0_1.out.mv hm HBN.out).hid
    clear cM hd hm HL1 HC1 HX0_1 k8
    have cS:=slots_g HK.out uHL.out.G.S
    have k8:=uHC.out.cell
    go_wp2_with fail
    refine cS.mono ?_
    rintro e z5 ⟨aS,nS,cS',rfl,hs,hm⟩
    have HG5:=zH (uHL.out.G.mv hm hs)
    have HX5:=(HX0u.out.mv hm HBN.out).hid
    obtain⟨av2,ac2,af2⟩:=(HG5.out.B (N3,43,4) (by simp)).1.cell 2 (show 2 < 4 by omega)
    have HG6:=zH (HG5.out.set (N:=N3) (T:=43) (n:=4) (by simp) 2 (.slice aS nS cS') rfl)
    have HX6:Hid (Cl (z5.setCell ⟨N3,2,none⟩ (.slice aS nS cS')) N3 3 (.slice none 0 0)):=HX5.out.set 2 (by decide) _
    clear cS hs hm uHL uHC HX0u k8
    go_upto_region 12 with fail
    obtain⟨W6,eW6⟩:∃ W,z5.setCell ⟨N3,2,none⟩ (.slice aS nS cS')=W:=⟨_,rfl⟩
    rw [eW6] at HG6 HX6 ⊢
    clear eW6 ac2 af2 HG5 HX5
    obtain⟨s4,es4⟩:∃ q,dSlots 4 (.error (.tok 131 t6.p))=q:=⟨_,rfl⟩
    have HR3:Hid (dEnd (dTake Z8 (dSts s4))=r0):=by
     show _=_
     rw [← HS2.out,HDE.out,es4]
    rw [es4] at HG6
    clear es4
    obtain⟨r2,er2⟩:∃ q,dMany Zd dState 12 s4=q:=⟨_,rfl⟩
    have HR2:=zH er2
    have HR2b:=HR2
    clear er2
    have HL0b:=(GL.new HG6.out 87 3).hid
    have HC0b:=zH HX6.out
    clear HG6 HX6 HD HQ6 HE6 HMS HDE hn
    clear h4
    go_wp2_with fail
    go_loopw [7,8,9] (fun _ _ _ wr=>∃ a n c s',n≤12∧Hid (GL w b K wr [(N3,43,4),(w§,43,4)] s' 87 3 (.slice a n c) n)∧Hid (Cl wr N3 3 (.slice a n c))∧Hid (dMany Zd dState (12 - n) s'=r2)∧Hid ((n=0→s'=s4)∧(n≠0→dIs Zd s4=true))) (fun _ _ _ wr=>12 - clen N3 3 wr)
    case atStart=>exact⟨none,0,0,s4,by omega,HL0b,HC0b,HR2b,⟨fun _=>rfl,fun h=>absurd rfl h⟩⟩
    case round =>
     obtain⟨a,n,c,s',hn,HL,HC,HD,HZE⟩:=hrel
     have HMS:Hid (clen N3 3 wr=n):=HC.out.clen
     clear HL0b HC0b HR2b
     have cI:=is_g HK.out HL.out.G.S Zd (by decide +kernel) (by decide)
     obtain⟨q6,eq6⟩:∃ q,dIs Zd s'=q:=⟨_,rfl⟩
     have HQ6:=zH eq6
     rw [eq6] at cI
     clear eq6
     cases q6 with
     | false =>
      have HDE:Hid (r2=s'):=by show _=_; rw [← HD.out,dMany_no HQ6.out]
      go_wp2_with fail
      refine cI.mono ?_
      rintro e v1 ⟨rfl,hb⟩
      have vHL:=(HL.out.on hb).hid
      have vHC:=(HC.out.on hb).hid
      clear cI hb HL HC 
      have k8:=vHC.out.cell
      by_cases h0:n=0
      ·subst h0
       have HWF:Hid (dSts s4=dWrong 130 s'):=by
        show (if _ then _ else _)=_
        rw [← HZE.out.1 rfl,HQ6.out]
        rfl
       have cW:=wrong_g vHL.out.G.S 130 (by decide)
       go_wp2_with fail
       refine cW.mono ?_
       rintro e z7 ⟨rfl,hs,hm⟩
       have HGq:=zH (vHL.out.G.mv hm hs)
       clear cW hs hm vHL vHC k8
       have cT:=take_g HK.out HGq.out.S Z8 (by decide +kernel) (by decide)
       go_wp2_with fail
       refine cT.mono ?_
       rintro e z8 ⟨⟨p8,rfl⟩,hs,hm⟩
       have HG8:=zH (HGq.out.mv hm hs)
       clear cT hs hm HGq
       have cE:=end_s HG8.out.S
       go_wp2_with fail
       refine cE.mono ?_
       rintro e z9 ⟨rfl,hs,hm⟩
       have HHX:Hid (SpX z9 b K (dEnd (dTake Z8 (dWrong 130 s')))∧Mv w z9 (fun k=>k=b)):=⟨hs,HG8.out.M.trans hm (fun _ e=>.inl e)⟩
       have hbl:=HG8.out.W.1
       obtain⟨cs,hc1,hc2,hc3⟩:=(HG8.out.B (N3,43,4) (by simp)).1.blk (hm.block _ (HG8.out.B (N3,43,4) (by simp)).1.lt (by have h9:w§≤N3:=(HG8.out.B (N3,43,4) (by simp)).2; show ¬ N3=b; omega))
       obtain⟨old,ho1,ho2,ho3⟩:=(HG8.out.B (w§,43,4) (by simp)).1.blk (hm.block _ (HG8.out.B (w§,43,4) (by simp)).1.lt (by show ¬ w§=b; omega))
       have HC9:=zH hc1
       have HO9:=zH ho1
       have HN9:Hid (cs.size=4∧old.size=4∧cs.all (·.oneCell')=true):=⟨hc2,ho2,hc3⟩
       have HF9:Hid ((z9.setRow w§ cs).heap[w§]? = some (.cells cs 43 (0,0))∧SpX (z9.setRow w§ cs) b K (dEnd (dTake Z8 (dWrong 130 s')))∧Mv w (z9.setRow w§ cs) (fun k=>k=b)):=gy_row HHX.out.2 (Nat.le_refl _) ho1 HG8.out.W HHX.out.1 cs
       clear cE hs hm hbl hc1 hc2 hc3 ho1 ho2 ho3 HG8 HHX
       go_wp2_with (first | (refine wpList_load_row rfl 43 (.tmp 3) rfl N3 rfl 43 cs (0,0) _ HC9.out Tryz.underlying43 rfl (by rw [HN9.out.1]; exact size43) ?_) | (refine wpList_store_row rfl 43 (.tmp 2) (.tmp 69) rfl w§ cs rfl rfl 43 old HO9.out (by rw [HN9.out.1]; exact size43) (by rw [HN9.out.1,HN9.out.2.1]) HN9.out.2.2 ?_))
       exact bodyPost_ret (results_cell_row rfl _ _ w§ 43 cs (0,0) _ rfl HF9.out.1 Tryz.underlying43 rfl (by rw [HN9.out.1]; exact size43)) rfl ⟨cs,rfl,HN9.out.1,HN9.out.2.2,by rw [← HR3.out,HWF.out]; exact HF9.out.2.1,HF9.out.2.2⟩
      ·have hne:¬ (n:Int)=0:=by omega
       have hne2:((n:Int) == 0)=false:=by simp; omega
       have HWF:Hid (dSts s4=s'):=by
        show (if _ then _ else _)=_
        rw [if_pos (HZE.out.2 h0),HR2.out,HDE.out]
       have HGq:=zH vHL.out.G
       go_upto_region 20 with fail
       clear vHL vHC k8
       have cT:=take_g HK.out HGq.out.S Z8 (by decide +kernel) (by decide)
       go_wp2_with fail
       refine cT.mono ?_
       rintro e z8 ⟨⟨p8,rfl⟩,hs,hm⟩
       have HG8:=zH (HGq.out.mv hm hs)
       clear cT hs hm HGq
       have cE:=end_s HG8.out.S
       go_wp2_with fail
       refine cE.mono ?_
       rintro e z9 ⟨rfl,hs,hm⟩
       have HHX:Hid (SpX z9 b K (dEnd (dTake Z8 s'))∧Mv w z9 (fun k=>k=b)):=⟨hs,HG8.out.M.trans hm (fun _ e=>.inl e)⟩
       have hbl:=HG8.out.W.1
       obtain⟨cs,hc1,hc2,hc3⟩:=(HG8.out.B (N3,43,4) (by simp)).1.blk (hm.block _ (HG8.out.B (N3,43,4) (by simp)).1.lt (by have h9:w§≤N3:=(HG8.out.B (N3,43,4) (by simp)).2; show ¬ N3=b; omega))
       obtain⟨old,ho1,ho2,ho3⟩:=(HG8.out.B (w§,43,4) (by simp)).1.blk (hm.block _ (HG8.out.B (w§,43,4) (by simp)).1.lt (by show ¬ w§=b; omega))
       have HC9:=zH hc1
       have HO9:=zH ho1
       have HN9:Hid (cs.size=4∧old.size=4∧cs.all (·.oneCell')=true):=⟨hc2,ho2,hc3⟩
       have HF9:Hid ((z9.setRow w§ cs).heap[w§]? = some (.cells cs 43 (0,0))∧SpX (z9.setRow w§ cs) b K (dEnd (dTake Z8 s'))∧Mv w (z9.setRow w§ cs) (fun k=>k=b)):=gy_row HHX.out.2 (Nat.le_refl _) ho1 HG8.out.W HHX.out.1 cs
       clear cE hs hm hbl hc1 hc2 hc3 ho1 ho2 ho3 HG8 HHX
       go_wp2_with (first | (refine wpList_load_row rfl 43 (.tmp 3) rfl N3 rfl 43 cs (0,0) _ HC9.out Tryz.underlying43 rfl (by rw [HN9.out.1]; exact size43) ?_) | (refine wpList_store_row rfl 43 (.tmp 2) (.tmp 69) rfl w§ cs rfl rfl 43 old HO9.out (by rw [HN9.out.1]; exact size43) (by rw [HN9.out.1,HN9.out.2.1]) HN9.out.2.2 ?_))
       exact bodyPost_ret (results_cell_row rfl _ _ w§ 43 cs (0,0) _ rfl HF9.out.1 Tryz.underlying43 rfl (by rw [HN9.out.1]; exact size43)) rfl ⟨cs,rfl,HN9.out.1,HN9.out.2.2,by rw [← HR3.out,HWF.out]; exact HF9.out.2.1,HF9.out.2.2⟩
     | true =>
      obtain⟨t6,ts6,e6,hx6⟩:=dIs_ok HQ6.out
      have HE6:Hid (s'=.ok (t6 :: ts6)):=e6
      clear e6 hx6
      go_wp2_with fail
      refine cI.mono ?_
      rintro e v1 ⟨rfl,hb⟩
      have HL1:=(HL.out.on hb).hid
      have HC1:=(HC.out.on hb).hid
      have hlv:Lv v1 b K (t6 :: ts6):=by
       have h1:=HL1.out.G.S
       rw [HE6.out] at h1
       exact h1.2
      clear cI hb HL HC 
      have k8:=HC1.out.cell
      by_cases h4:n < 12
      ·have cM:=many_ok hlv n 12 h4 (by omega)
       have HD2:Hid (dMany Zd dState (12 - (n+1)) (dState s')=r2):=by
        show _=_
        rw [← HD.out,show 12 - n=(12 - (n+1))+1 by omega]
        show _=if _ then _ else _
        rw [if_pos HQ6.out]
       have HZ2:Hid ((n+1=0→dState s'=s4)∧(n+1≠0→dIs Zd s4=true)):=by
        refine⟨fun h=>by omega,fun _=>?_⟩
        by_cases h5:n=0
        ·rw [← HZE.out.1 h5]; exact HQ6.out
        ·exact HZE.out.2 h5
       clear hlv
       go_wp2_with fail
       refine cM.mono ?_
       rintro e v2 ⟨rfl,e2⟩
       obtain rfl:=e2.symm
       clear cM e2 k8
       have cR:=state_g HK.out HL1.out.G.S
       go_wp2_with fail
       refine cR.mono ?_
       rintro e w3 ⟨cs,rfl,hcs1,hcs2,hs,hm⟩
       have HCS:Hid (cs.size=3∧cs.all (·.oneCell')=true):=⟨hcs1,hcs2⟩
       have HLp:=((HL1.out.mv hm hs).push zA11 87 3 rfl (by simp [Value.oneCell'])).hid
       have hN3l:=(HC1.out.mv hm HBN.out).lt
       have HL4:=(HLp.out.row (N:=w3§) (T:=87) (m:=3) (by simp) cs hcs1 hcs2).1.hid
       have HN4:=zH ((HLp.out.row (N:=w3§) (T:=87) (m:=3) (by simp) cs hcs1 hcs2).2)
       have HZ:Hid ((w3.alloc (.cells zA11 87)).heap[w3§]? = some (.cells zA11 87 (0,0))):=Hn _ _
       have HC4:Hid (Cl ((w3.alloc (.cells zA11 87)).setRow w3§ cs) N3 3 (.slice a n c)):=((HC1.out.mv hm HBN.out).on (Bn _ _)).blk (setRow_oth _ _ _ (by omega))
       clear cR hs hm HL1 HC1  HLp hcs1 hcs2 hN3l
       go_upto_region 17 with (refine wpList_store_row rfl 87 (.tmp 9) (.tmp 52) rfl w3§ cs rfl rfl 87 zA11 HZ.out (by rw [HCS.out.1]; exact size87) (by rw [HCS.out.1]; rfl) HCS.out.2 ?_)
       generalize hW4:World.setRow _ _ _=W4
       have HL4:Hid (GL w b K W4 ((w3§,87,3) :: [(N3,43,4),(w§,43,4)]) (dState s') 87 3 (.slice a n c) n):=by rw [← hW4]; exact HL4.out
       have HC4:Hid (Cl W4 N3 3 (.slice a n c)):=by rw [← hW4]; exact HC4.out
       have HN4:Hid (W4.heap[w3§]? = some (.cells cs 87 (0,0))):=by rw [← hW4]; exact HN4.out
       obtain⟨N4,eN4⟩:∃ q,w3§=q:=⟨_,rfl⟩
       rw [eN4] at HL4 HN4 ⊢
       clear eN4 HZ hW4
       have k8:=HC4.out.cell
       go_wp2_with (first | (refine wpList_load_row rfl 87 (.tmp 9) rfl N4 rfl 87 cs (0,0) _ HN4.out Tryz.underlying87 rfl (by rw [HCS.out.1]; exact size87) ?_) | (refine wpList_slice1 rfl 41 87 (.tmp 55) rfl cs rfl 3 _ Tryz.underlying41 48 inf87 rfl HCS.out.1 (by decide) (by decide) ?_) | (at_builtin; refine app_g HL4.out 41 cs HCS.out.1 HCS.out.2 _ 48 Tryz.underlying41 inf87 rfl (by decide) (by omega) (by decide) rfl (.tmp 54) (.tmp 56) rfl rfl rfl ?_; intro g7 cap7 w7 hl7; have HL7:=hl7.pop.hid; obtain⟨av8,ac8,af8⟩:=(HL7.out.G.B (N3,43,4) (by simp)).1.cell 3 (show 3 < 4 by omega); clear hl7))
       have HL8:=(HL7.out.set (N:=N3) (T:=43) (m:=4) (by simp) 3 (.slice (some ⟨g7,0,none⟩) (n+1) cap7) rfl).hid
       have HC8:Hid (Cl (w7.setCell ⟨N3,3,none⟩ (.slice (some ⟨g7,0,none⟩) (n+1) cap7)) N3 3 (.slice (some ⟨g7,0,none⟩) (n+1) cap7)):=(HL7.out.G.B (N3,43,4) (by simp)).1.put (show 3 < 4 by omega) _
       exact⟨⟨_,n+1,_,_,by omega,HL8,HC8,HD2,HZ2⟩,by rw [HMS.out,HC8.out.clen]; omega⟩
      ·obtain rfl:n=12:=by omega
       have cM:=many_no hlv 12 12 (by omega) (by omega)
       have HDE:Hid (r2=.error (.tok 131 t6.p)):=by
        show _=_
        rw [← HD.out]
        show (if _ then _ else _)=_
        rw [if_pos HQ6.out,HE6.out]
        rfl
       clear hlv
       go_wp2_with fail
       refine cM.mono ?_
       rintro e v2 ⟨rfl,hd,hm⟩
       have vHL:=(HL1.out.mv (s':=.error (.tok 131 t6.p)) hm hd).hid
       have vHC:=(HC1.out.mv hm HBN.out).hid
       clear cM hd hm HL1 HC1  k8
       have k8:=vHC.out.cell
       have HWF:Hid (dSts s4=.error (.tok 131 t6.p)):=by
        show (if _ then _ else _)=_
        rw [if_pos (HZE.out.2 (by decide)),HR2.out,HDE.out]
       have HGq:=zH vHL.out.G
       go_upto_region 20 with fail
       clear vHL vHC k8
       have cT:=take_g HK.out HGq.out.S Z8 (by decide +kernel) (by decide)
       go_wp2_with fail
       refine cT.mono ?_
       rintro e z8 ⟨⟨p8,rfl⟩,hs,hm⟩
       have HG8:=zH (HGq.out.mv hm hs)
       clear cT hs hm HGq
       have cE:=end_s HG8.out.S
       go_wp2_with fail
       refine cE.mono ?_
       rintro e z9 ⟨rfl,hs,hm⟩
       have HHX:Hid (SpX z9 b K (dEnd (dTake Z8 (.error (.tok 131 t6.p))))∧Mv w z9 (fun k=>k=b)):=⟨hs,HG8.out.M.trans hm (fun _ e=>.inl e)⟩
       have hbl:=HG8.out.W.1
       obtain⟨cs,hc1,hc2,hc3⟩:=(HG8.out.B (N3,43,4) (by simp)).1.blk (hm.block _ (HG8.out.B (N3,43,4) (by simp)).1.lt (by have h9:w§≤N3:=(HG8.out.B (N3,43,4) (by simp)).2; show ¬ N3=b; omega))
       obtain⟨old,ho1,ho2,ho3⟩:=(HG8.out.B (w§,43,4) (by simp)).1.blk (hm.block _ (HG8.out.B (w§,43,4) (by simp)).1.lt (by show ¬ w§=b; omega))
       have HC9:=zH hc1
       have HO9:=zH ho1
       have HN9:Hid (cs.size=4∧old.size=4∧cs.all (·.oneCell')=true):=⟨hc2,ho2,hc3⟩
       have HF9:Hid ((z9.setRow w§ cs).heap[w§]? = some (.cells cs 43 (0,0))∧SpX (z9.setRow w§ cs) b K (dEnd (dTake Z8 (.error (.tok 131 t6.p))))∧Mv w (z9.setRow w§ cs) (fun k=>k=b)):=gy_row HHX.out.2 (Nat.le_refl _) ho1 HG8.out.W HHX.out.1 cs
       clear cE hs hm hbl hc1 hc2 hc3 ho1 ho2 ho3 HG8 HHX
       go_wp2_with (first | (refine wpList_load_row rfl 43 (.tmp 3) rfl N3 rfl 43 cs (0,0) _ HC9.out Tryz.underlying43 rfl (by rw [HN9.out.1]; exact size43) ?_) | (refine wpList_store_row rfl 43 (.tmp 2) (.tmp 69) rfl w§ cs rfl rfl 43 old HO9.out (by rw [HN9.out.1]; exact size43) (by rw [HN9.out.1,HN9.out.2.1]) HN9.out.2.2 ?_))
       exact bodyPost_ret (results_cell_row rfl _ _ w§ 43 cs (0,0) _ rfl HF9.out.1 Tryz.underlying43 rfl (by rw [HN9.out.1]; exact size43)) rfl ⟨cs,rfl,HN9.out.1,HN9.out.2.2,by rw [← HR3.out,HWF.out]; exact HF9.out.2.1,HF9.out.2.2⟩
def EnS (e:Tk):St→Prop
 | .ok ts=>e ∈ ts
 | .error .lex=>False
 | .error (.tok _ _)=>True
section
variable {e : Tk} (hk : e.k = 0) (hx : e.x = ⟨#[]⟩) (hy : e.ty = 0)
theorem ens_nf {ts:List Tk}(h:e ∈ ts):EnS e (nf ts):=by
 cases ts with
 | nil=>simp at h
 | cons t ts=>exact h
theorem ens_wrong (no:Int) {s:St}(h:EnS e s):EnS e (dWrong no s):=by
 match s,h with
 | .ok (t :: ts),h=>trivial
 | .ok [],h=>simp [EnS] at h
 | .error (.tok _ _),h=>trivial
include hx in
theorem ens_take {x:ByteArray}(hn:x≠⟨#[]⟩) {s:St}(h:EnS e s):EnS e (dTake x s):=by
 match s,h with
 | .ok (t :: ts),h =>
  show EnS e (if t.x=x then nf ts else _)
  by_cases c:t.x=x
  ·rw [if_pos c]; exact ens_nf (en_tl h (en_x hx c hn))
  ·rw [if_neg c]; trivial
 | .ok [],h=>simp [EnS] at h
 | .error (.tok _ _),h=>trivial
include hk in
theorem ens_name {s:St}(h:EnS e s):EnS e (dName s):=by
 match s,h with
 | .ok (t :: ts),h =>
  show EnS e (if t.k=2 then nf ts else _)
  by_cases c:t.k=2
  ·rw [if_pos c]; exact ens_nf (en_tl h (fun q=>by rw [q,hk] at c; cases c))
  ·rw [if_neg c]; trivial
 | .ok [],h=>simp [EnS] at h
 | .error (.tok _ _),h=>trivial
include hx in
theorem ens_is {x:ByteArray}(hn:x≠⟨#[]⟩) {s:St}(h:EnS e s) (hi:dIs x s=true):EnS e (dStep s):=by
 obtain⟨t,ts,rfl,c⟩:=dIs_ok hi
 exact ens_nf (en_tl h (en_x hx c hn))
include hx in
theorem ens_any {L:List ByteArray}(hL:∀ x ∈ L,x≠⟨#[]⟩) {s:St}(h:EnS e s) (hi:0≤dAny L s):EnS e (dStep s):=by
 obtain⟨t,ts,rfl,c⟩:=dAny_ok hi
 exact ens_nf (en_tl h (en_x hx rfl (hL _ (fnd_mem _ L 0 (by omega)))))
include hx in
theorem ens_ty {s:St}(h:EnS e s):EnS e (dTy s):=by
 match s,h with
 | .ok (t :: ts),h =>
  show EnS e (if 0≤fnd t.x [Ze,Zg,Zf,Zh,ZB,ZD] 0 then nf ts else _)
  by_cases c:0≤fnd t.x [Ze,Zg,Zf,Zh,ZB,ZD] 0
  ·rw [if_pos c]
   have hT:∀ x ∈ ([Ze,Zg,Zf,Zh,ZB,ZD]:List ByteArray),x≠⟨#[]⟩:=(by intro x hx; simp only [List.mem_cons,List.not_mem_nil,or_false] at hx; rcases hx with rfl | rfl | rfl | rfl | rfl | rfl <;> decide)
   exact ens_nf (en_tl h (en_x hx rfl (hT _ (fnd_mem _ _ 0 c))))
  ·rw [if_neg c]; trivial
 | .ok [],h=>simp [EnS] at h
 | .error (.tok _ _),h=>trivial
include hx hy in
theorem ens_lit {s:St}(h:EnS e s):EnS e (dLit s):=by
 match s,h with
 | .ok (t :: ts),h =>
  show EnS e (if (valT t).1≠0 then nf ts else _)
  by_cases c:(valT t).1≠0
  ·rw [if_pos c]
   refine ens_nf (en_tl h (fun q=>c ?_))
   rw [q]
   have h1:eqX (⟨#[]⟩:ByteArray) [116,114,117,101]=false:=by decide +kernel
   have h2:eqX (⟨#[]⟩:ByteArray) [102,97,108,115,101]=false:=by decide +kernel
   have h3:eqX (⟨#[]⟩:ByteArray) [98,117,121]=false:=by decide +kernel
   have h4:eqX (⟨#[]⟩:ByteArray) [115,101,108,108]=false:=by decide +kernel
   simp only [valT,hx,h1,h2,h3,h4]
   exact hy
  ·rw [if_neg c]; trivial
 | .ok [],h=>simp [EnS] at h
 | .error (.tok _ _),h=>trivial
theorem ens_num {s:St}(h:EnS e s):EnS e (dNum s):=by
 match s,h with
 | .ok (t :: ts),h =>
  show EnS e (if t.k=3 then .ok (t :: ts) else _)
  by_cases c:t.k=3
  ·rw [if_pos c]; exact h
  ·rw [if_neg c]; trivial
 | .ok [],h=>simp [EnS] at h
 | .error (.tok _ _),h=>trivial
include hx in
theorem ens_min {s:St}(h:EnS e s):EnS e (dMin s):=by
 unfold dMin
 by_cases c:dIs Zc s=true
 ·rw [if_pos c]; exact ens_num (ens_is hx (by decide) h c)
 ·rw [if_neg c]; exact h
include hk hx hy in
theorem ens_reg {s:St}(h:EnS e s):EnS e (dReg s):=ens_take hx (by decide) (ens_lit hx hy (ens_min hx (ens_take hx (by decide) (ens_ty hx (ens_name hk (ens_take hx (by decide) h))))))
include hk hx hy in
theorem ens_ex {s:St}(h:EnS e s):EnS e (dEx s):=by
 match s,h with
 | .ok ts,h =>
  have h4:=en_expr hk hx hy ts h
  show EnS e (stOf (exprT ts))
  cases hr:exprT ts with
  | error f =>
   rw [hr] at h4
   cases f with
   | tok no p=>trivial
   | lex=>exact absurd rfl h4.2
  | ok q =>
   rw [hr] at h4
   exact ens_nf (h4.1 q.1 q.2 rfl)
 | .error (.tok _ _),h=>trivial
include hx in
theorem ens_ord {s:St}(h:EnS e s):EnS e (dOrd s):=by
 unfold dOrd
 by_cases c:0≤dAny [ZH,ZG,ZF,ZJ] s
 ·rw [if_pos c]; exact ens_any (L:=[ZH,ZG,ZF,ZJ]) hx (by intro x hx; simp only [List.mem_cons,List.not_mem_nil,or_false] at hx; rcases hx with rfl | rfl | rfl | rfl <;> decide) h c
 ·rw [if_neg c]; exact ens_wrong _ h
include hk hx hy in
theorem ens_sel {s:St}(h:EnS e s):EnS e (dSel s):=by
 unfold dSel
 by_cases c:dAny [Zt,Zi] s=0
 ·rw [if_pos c]; exact ens_any (L:=[Zt,Zi]) hx (by intro x hx; simp only [List.mem_cons,List.not_mem_nil,or_false] at hx; rcases hx with rfl | rfl <;> decide) h (by omega)
 ·rw [if_neg c]
  by_cases c1:dAny [Zt,Zi] s=1
  ·rw [if_pos c1]; exact ens_ord hx (ens_ex hk hx hy (ens_any (L:=[Zt,Zi]) hx (by intro x hx; simp only [List.mem_cons,List.not_mem_nil,or_false] at hx; rcases hx with rfl | rfl <;> decide) h (by omega)))
  ·rw [if_neg c1]; exact ens_wrong _ h
include hk hx in
theorem ens_as {s:St}(h:EnS e s):EnS e (dAs s):=by
 unfold dAs
 by_cases c:dIs ZR s=true
 ·rw [if_pos c]; exact ens_name hk (ens_is hx (by decide) h c)
 ·rw [if_neg c]; exact h
include hk hx hy in
theorem ens_submit {s:St}(h:EnS e s):EnS e (dSubmit s):=ens_as hk hx (ens_sel hk hx hy (ens_ex hk hx hy (ens_take hx (by decide) (ens_ex hk hx hy (ens_take hx (by decide) h)))))
include hk hx hy in
theorem ens_do {s:St}(h:EnS e s):EnS e (dDo s):=by
 have hst:0≤dAny [Z2,Z3,Z4,Z7,Z5,Z6] s→EnS e (dStep s):=fun c=>ens_any (L:=[Z2,Z3,Z4,Z7,Z5,Z6]) hx (by intro x hx; simp only [List.mem_cons,List.not_mem_nil,or_false] at hx; rcases hx with rfl | rfl | rfl | rfl | rfl | rfl <;> decide) h c
 unfold dDo
 by_cases c0:dAny [Z2,Z3,Z4,Z7,Z5,Z6] s=0
 ·rw [if_pos c0]; exact ens_submit hk hx hy h
 rw [if_neg c0]
 by_cases c1:dAny [Z2,Z3,Z4,Z7,Z5,Z6] s=1
 ·rw [if_pos c1]; exact ens_ex hk hx hy (ens_take hx (by decide) (ens_ex hk hx hy (ens_take hx (by decide) (ens_name hk (hst (by omega))))))
 rw [if_neg c1]
 by_cases c2:dAny [Z2,Z3,Z4,Z7,Z5,Z6] s=2
 ·rw [if_pos c2]; exact ens_name hk (hst (by omega))
 rw [if_neg c2]
 by_cases c3:dAny [Z2,Z3,Z4,Z7,Z5,Z6] s=3
 ·rw [if_pos c3]; exact ens_ex hk hx hy (ens_take hx (by decide) (ens_name hk (hst (by omega))))
 rw [if_neg c3]
 by_cases c4:dAny [Z2,Z3,Z4,Z7,Z5,Z6] s=4
 ·rw [if_pos c4]; exact ens_name hk (hst (by omega))
 rw [if_neg c4]
 by_cases c5:dAny [Z2,Z3,Z4,Z7,Z5,Z6] s=5
 ·rw [if_pos c5]; exact hst (by omega)
 rw [if_neg c5]
 exact ens_wrong _ h
include hk hx hy in
theorem ens_dos:∀ (r:Nat) {s:St},EnS e s→EnS e (dDos r s):=by
 intro r
 induction r with
 | zero =>
  intro s h
  have h1:=ens_do hk hx hy h
  unfold dDos
  by_cases c:dIs Zk (dDo s)=true
  ·rw [if_pos c]; exact ens_wrong _ h1
  ·rw [if_neg c]; exact h1
 | succ r ih =>
  intro s h
  have h1:=ens_do hk hx hy h
  unfold dDos
  by_cases c:dIs Zk (dDo s)=true
  ·rw [if_pos c]; exact ih (ens_is hx (by decide) h1 c)
  ·rw [if_neg c]; exact h1
include hk hx hy in
theorem ens_rule {s:St}(h:EnS e s):EnS e (dRule s):=ens_take hx (by decide) (ens_dos hk hx hy 7 (ens_take hx (by decide) (ens_ex hk hx hy (ens_take hx (by decide) h))))
theorem ens_many {x:ByteArray}{part:St→St}(hp:∀ {s:St},EnS e s→EnS e (part s)):∀ (r:Nat) {s:St},EnS e s→EnS e (dMany x part r s):=by
 intro r
 induction r with
 | zero =>
  intro s h
  unfold dMany
  by_cases c:dIs x s=true
  ·rw [if_pos c]; exact ens_wrong _ h
  ·rw [if_neg c]; exact h
 | succ r ih =>
  intro s h
  unfold dMany
  by_cases c:dIs x s=true
  ·rw [if_pos c]; exact ih (hp h)
  ·rw [if_neg c]; exact h
theorem dSlots_many:∀ (r:Nat) (s:St),dSlots r s=dMany Zz dSlot r s:=by
 intro r
 induction r with
 | zero=>intro s; rfl
 | succ r ih=>intro s; unfold dSlots dMany; rw [ih]
include hk hx in
theorem ens_slot {s:St}(h:EnS e s):EnS e (dSlot s):=ens_take hx (by decide) (ens_name hk (ens_take hx (by decide) h))
include hk hx hy in
theorem ens_state {s:St}(h:EnS e s):EnS e (dState s):=ens_take hx (by decide) (ens_many (fun h=>ens_rule hk hx hy h) 12 (ens_take hx (by decide) (ens_name hk (ens_take hx (by decide) h))))
include hk hx hy in
theorem ens_sts {s:St}(h:EnS e s):EnS e (dSts s):=by
 unfold dSts
 by_cases c:dIs Zd s=true
 ·rw [if_pos c]; exact ens_many (fun h=>ens_state hk hx hy h) 12 h
 ·rw [if_neg c]; exact ens_wrong _ h
include hk hx hy in
theorem ens_body {s:St}(h:EnS e s):EnS e (dBody s):=by
 unfold dBody
 rw [dSlots_many]
 exact ens_take hx (by decide) (ens_sts hk hx hy (ens_many (fun h=>ens_slot hk hx h) 4 (ens_many (fun h=>ens_reg hk hx hy h) 12 (ens_take hx (by decide) (ens_name hk (ens_take hx (by decide) h))))))
theorem ens_end {s:St}(h:EnS e s):EnS e (dEnd s):=by
 match s,h with
 | .ok (t :: ts),h =>
  show EnS e (if t.k=0 then .ok (t :: ts) else _)
  by_cases c:t.k=0
  ·rw [if_pos c]; exact h
  ·rw [if_neg c]; trivial
 | .ok [],h=>simp [EnS] at h
 | .error (.tok _ _),h=>trivial
end
def sWhole (s:ByteArray):St:=dEnd (dBody (nf (rdT s)))
theorem strat_lex {s:ByteArray}(h:tksE s=0):sWhole s≠.error .lex:=by
 obtain⟨e,he,h1,h2,h3⟩:=rdT_end h
 have h4:EnS e (sWhole s):=ens_end (ens_body h1 h2 h3 (ens_nf he))
 intro q
 rw [q] at h4
 exact h4
end Go.Proofs.YtkfabnchhjfjjaaGreatDoor
