import Derived.Test.YtkfabnchhjfjjaaGreatDoorA0
import Derived.Test.YtkfabnchhjfjjaaGreatDoorA27
import Derived.Laws.AppendOwnNone
namespace Go.Proofs.YtkfabnchhjfjjaaGreatDoor
set_option maxRecDepth 100000
set_option maxHeartbeats 4000000
open Go.RowKit
set_option linter.unusedVariables false
structure PL (w:World) (b G:Nat) (fa:Int) (fe:Value) (V:World) (ts:List Tk) (e sz:Nat) (v:Value) (n:Nat):Prop where
 G:GP w b G fa fe V [] ts
 R:∃ xs,V.ownsRow 0 e sz v n xs∧∀ u ∈ xs,u.oneCell'=true
 D:∀ k,v.ownBlock=some k→w§≤k
theorem PL.hid {w:World}{b G:Nat}{fa:Int}{fe:Value}{V:World}{ts:List Tk}{e sz:Nat}{v:Value}{n:Nat}(h:PL w b G fa fe V ts e sz v n):Hid (PL w b G fa fe V ts e sz v n):=h
theorem PL.lt {w:World}{b G:Nat}{fa:Int}{fe:Value}{V:World}{ts:List Tk}{e sz:Nat}{v:Value}{n:Nat}(h:PL w b G fa fe V ts e sz v n):∀ k,v.ownBlock=some k→k < V§:=by
 obtain⟨xs,hx,_⟩:=h.R
 exact fun k hk=>(World.ownsRow.lt hx k hk).2
theorem PL.mv {w:World}{b G:Nat}{fa:Int}{fe:Value}{V:World}{ts:List Tk}{e sz:Nat}{v:Value}{n:Nat}{V':World}{ts':List Tk}(h:PL w b G fa fe V ts e sz v n) (hm:Mv V V' (fun k=>k=b)) (hs:Rp V' b G fa fe ts'):PL w b G fa fe V' ts' e sz v n:=by
 obtain⟨xs,hx,h1⟩:=h.R
 have hb:=h.G.W.1
 exact⟨h.G.mv hm hs,⟨xs,owns_blk hx fun k hk=>hm.block k (h.lt k hk) (by have:=h.D k hk; omega),h1⟩,h.D⟩
theorem PL.on {w:World}{b G:Nat}{fa:Int}{fe:Value}{V:World}{ts:List Tk}{e sz:Nat}{v:Value}{n:Nat}{V':World}(h:PL w b G fa fe V ts e sz v n) (k:Below V§ V V'):PL w b G fa fe V' ts e sz v n:=h.mv (Mv.ofBelow k) (h.G.R.on k)
theorem app_p {w:World}{b G:Nat}{fa:Int}{fe:Value}{V:World}{ts:List Tk}{e sz:Nat}{v:Value}{n:Nat}(hL:PL w b G fa fe V ts e sz v n) (t:TypeId) (cs:Array Value) (hcs:cs.size=sz) (h1:cs.all (·.oneCell')=true)
  (z:Value) (by_:Nat) (ht:Tryz.prog.underlying t=some (.slice e)) (hi:(Tryz.prog.info? e).map (fun i=>(i.zero,i.size,i.bytes))=some (some z,sz,by_)) (hz:z.cells.size=sz) (h0:0 < sz) (hn:n≤1000) (hby:by_≤1000000)
  {ops:Array Oper}{rest:List Oper}{o:Oper}{a:Act}{Q:Exit→Act→World→Prop}(hgd:o.guard=none) (d x:Operand)
  (ho:o.op=.call { callee:=.builtin .append,args:=#[d,x],argTypes:=#[t,t] }) (hs:a.eval d=v) (hx:a.eval x=.slice (some ⟨V§,0,none⟩) 1 1)
  (h:∀ g cap w',PL w b G fa fe w' ts e sz (.slice (some ⟨g,0,none⟩) (n+1) cap) (n+1)→wpList Tryz.prog ops Q rest (a.put o.dst (.slice (some ⟨g,0,none⟩) (n+1) cap)) w') :
  wpList Tryz.prog ops Q (o :: rest) a (V.alloc (.cells cs e)):=by
 obtain⟨i0,hi0,hz0,hz1,hz2⟩:=info_parts hi
 obtain⟨xs,hr,hone⟩:=hL.R
 have hsz:=Sa V (.cells cs e)
 have hone2:∀ u ∈ cs.toList,u.oneCell'=true:=fun u hu=>(Array.all_eq_true_iff_forall_mem.1 h1) u (by simpa using hu)
 have hby2:(n+1) * by_≤140737488355328:=by
  have:(n+1) * by_≤1001 * 1000000:=Nat.mul_le_mul (by omega) hby
  omega
 refine wpList_append_lies _ hgd d x t ho 0 e i0 z sz by_ ht hi0 hz0 hz1 hz2 hz h0 v n xs hs (World.ownsRow.alloc hr _) ⟨V§,0,none⟩ 1 1 cs.toList hx (by simp; exact hcs) (World.news_of_block (Hn V _)) hone2 (by decide) (by unfold maxLen; omega) hby2 (Nat.zero_le _) _ rfl ?_
 intro g cap w' h2 h3 h4 h5
 have hs3:=h3.size
 have hVw:=hL.G.M.size
 have hW:=hL.G.W
 have old:∀ k,k < V§→v.ownBlock≠some k→w'.heap[k]? = V.heap[k]?:=fun k hk hne=>(h3.block k (by omega) (fun e=>hne e.symm)).trans (Below.heap_alloc _ _ _ hk)
 have vlow:∀ k,k < w§→v.ownBlock≠some k:=fun k hk e=>by have:=hL.D _ e; omega
 refine h g cap w' ⟨⟨?_,(fun p hp=>by simp at hp),?_,hW⟩,⟨_,h2,fun u hu=>(List.mem_append.1 hu).elim (hone u) (hone2 u)⟩,fun k hk=>?_⟩
 ·exact (hL.G.M.trans (Mv.ofBelow (F:=fun k=>k=b) (Bn V (.cells cs e))) (fun _ e=>.inl e)).grown h3 (fun k e=>.inr (hL.D _ e))
 ·exact hL.G.R.off (old b (by omega) (vlow b hW.1)) (old G (by omega) (vlow G hW.2)) (by omega)
 ·simp [Value.ownBlock] at hk
  subst hk
  rcases h4 with h4 | h4
  ·exact hL.D _ h4
  ·omega
def OutL (e sz:Nat) (x:ByteArray) (b G:Nat) (fa:Int) (fe:Value) (w:World) (s s':St) (en:Ending) (w':World):Prop :=
 (∃ a n c ts',en=.returned (.slice a n c)∧(∃ xs,w'.ownsRow 0 e sz (.slice a n c) n xs∧∀ u ∈ xs,u.oneCell'=true)∧(∀ k,(Value.slice a n c).ownBlock=some k→w§≤k)∧Rp w' b G fa fe ts'∧nf ts'=s'∧((n=0→nf ts'=s∧dIs x s=false)∧(n≠0→dIs x s=true))∧n≤100∧Mv w w' (fun k=>k=b))∨(∃ f,en=pan (ftV fa fe f)∧s'=.error f∧Mv w w' (fun k=>k=b))
theorem list66_p {w:World}{b G:Nat}{fa:Int}{fe:Value}{ts:List Tk}(part:St→St) (cR:∀ V ts,Rp V b G fa fe ts→Calls zG 67 #[zP b] V (OutV (Cells 11) b G fa fe V (part (nf ts)))) (h:Rp w b G fa fe ts) (x:ByteArray) (mx:Nat) (hmx:mx≤100) :
  Calls zG 66 #[zP b,.string x,zI mx,.func (.func 67) #[zP b] #[]] w (OutL 100 11 x b G fa fe w (nf ts) (dMany x part mx (nf ts))):=by
 have HP:=zH cR
 have HL0:=(show PL w b G fa fe w ts 100 11 (.slice none 0 0) 0 from ⟨⟨Mv.refl _ _,(fun p hp=>by simp at hp),h,h.lt⟩,⟨[],World.ownsRow_nil w 0 100 11,by simp⟩,fun k hk=>by simp [Value.ownBlock] at hk⟩).hid
 obtain⟨s0,es0⟩:∃ q,nf ts=q:=⟨_,rfl⟩
 obtain⟨r0,er0⟩:∃ q,dMany x part mx (nf ts)=q:=⟨_,rfl⟩
 have HR0:=zH er0
 have HS0:Hid (nf ts=s0):=es0
 rw [er0,es0]
 clear h cR er0 es0
 go_enter Tryz.func66,Tryz.ntmps66
 go_wp2_with fail
 go_loopw [9] (fun t wr=>∃ a n c ts',n≤mx∧t=.slice a n c∧Hid (PL w b G fa fe wr ts' 100 11 (.slice a n c) n)∧Hid (dMany x part (mx - n) (nf ts')=r0)∧Hid ((n=0→nf ts'=s0)∧(n≠0→dIs x s0=true))) (fun t _=>mx - slen t)
 case atStart=>exact⟨none,0,0,ts,by omega,rfl,HL0,HR0,fun _=>HS0.out,fun h=>absurd rfl h⟩
 case round =>
  obtain⟨a,n,c,ts',hn,rfl,HL,HD,HZ⟩:=hrel
  clear HL0 HR0 HS0
  have cI:=is_p HL.out.G.R x
  obtain⟨q6,eq6⟩:∃ q,dIs x (nf ts')=q:=⟨_,rfl⟩
  have HQ6:Hid (dIs x (nf ts')=q6):=eq6
  rw [eq6] at cI
  clear eq6
  go_wp2_with fail
  refine cI.mono ?_
  rintro e w1 (⟨rfl,hne,hb⟩ | ⟨rfl,rfl,hb⟩)
  rotate_left
  ·exact⟨rfl,.inr ⟨.lex,rfl,by rw [← HD.out]; exact dMany_no rfl,HL.out.G.M.trans (Mv.ofBelow hb) (fun _ e=>.inl e)⟩⟩
  have HL1:=(HL.out.on hb).hid
  have HNE:Hid (ts'≠[]):=hne
  clear cI hb HL hne
  cases q6 with
  | false =>
   go_wp2_with fail
   go_ret
   refine .inl ⟨a,n,c,ts',rfl,HL1.out.R,HL1.out.D,HL1.out.G.R,by rw [← HD.out,dMany_no HQ6.out],⟨fun h0=>?_,fun h0=>HZ.out.2 h0⟩,by omega,HL1.out.G.M⟩
   have e1:=HZ.out.1 h0
   exact⟨e1,by rw [← e1]; exact HQ6.out⟩
  | true =>
   obtain⟨t6,ts6,e6⟩:∃ t r,ts'=t :: r:=by
    cases ts' with
    | nil=>exact absurd rfl HNE.out
    | cons t r=>exact⟨t,r,rfl⟩
   by_cases h4:n < mx
   ·have h5:(n:Int) < (mx:Int):=by omega
    have h6:decide ((n:Int) < (mx:Int))=true:=decide_eq_true h5
    have HD2:Hid (dMany x part (mx - (n+1)) (part (nf ts'))=r0):=by
     show _=_
     rw [← HD.out,show mx - n=(mx - (n+1))+1 by omega]
     show _=if _ then _ else _
     rw [if_pos HQ6.out]
    have HZ2:Hid (dIs x s0=true):=by
     by_cases h7:n=0
     ·show _=_
      rw [← HZ.out.1 h7]; exact HQ6.out
     ·exact HZ.out.2 h7
    have cN:=need_ok w1 b 131
    have cX:=HP.out w1 ts' HL1.out.G.R
    go_wp2_with (go_at_call 72; refine cN.mono ?_; rintro e w2 ⟨rfl,e4⟩; obtain rfl:=e4.symm)
    refine cX.mono ?_
    rintro e w2 (⟨_,ts2,rfl,⟨cs,rfl,hc2,hc3⟩,hr,hn2,hm⟩ | ⟨f,rfl,hf,hm⟩)
    rotate_left
    ·exact⟨rfl,.inr ⟨f,rfl,by rw [← HD2.out,hf]; exact dMany_no rfl,HL1.out.G.M.trans hm (fun _ e=>.inl e)⟩⟩
    have HL2:=(HL1.out.mv hm hr).hid
    have HCS:Hid (cs.size=11∧cs.all (·.oneCell')=true):=⟨hc2,hc3⟩
    have HN2:=zH hn2
    clear cX cN hr hn2 hm hc2 hc3 HL1
    go_wp2_with (first | (refine wpList_slice1 rfl 39 100 (.tmp 21) rfl cs rfl 11 _ Tryz.underlying39 104 inf100 rfl HCS.out.1 (by decide) (by decide) ?_) | (at_builtin; refine app_p HL2.out 39 cs HCS.out.1 HCS.out.2 _ 104 Tryz.underlying39 inf100 rfl (by decide) (by omega) (by decide) rfl (.tmp 19) (.tmp 22) rfl rfl rfl ?_; intro g7 cap7 w7 hl7; have HL7:=hl7.hid; clear hl7))
    exact⟨⟨some ⟨g7,0,none⟩,n+1,cap7,ts2,by omega,rfl,HL7,by rw [HN2.out]; exact HD2,fun h0=>by omega,fun _=>HZ2.out⟩,by simp only [slen]; omega⟩
   ·obtain rfl:n=mx:=by omega
    have h5:¬ (n:Int) < (n:Int):=by omega
    have h6:decide ((n:Int) < (n:Int))=false:=decide_eq_false h5
    have HDE:Hid (r0=.error (.tok 131 t6.p)):=by
     show _=_
     rw [← HD.out,Nat.sub_self]
     show (if _ then _ else _)=_
     rw [if_pos HQ6.out,e6]
     rfl
    rw [e6] at HL1
    obtain⟨a1,c1,h1⟩:=HL1.out.G.R.1
    have cN:=need_tok h1 131
    clear h1 e6
    go_wp2_with fail
    refine cN.mono ?_
    rintro e w2 ⟨rfl,hb⟩
    exact⟨rfl,.inr ⟨_,rfl,HDE.out,HL1.out.G.M.trans (Mv.ofBelow hb) (fun _ e=>.inl e)⟩⟩
theorem list68_p {w:World}{b G:Nat}{fa:Int}{fe:Value}{ts:List Tk}(part:St→St) (cR:∀ V ts,Rp V b G fa fe ts→Calls zG 69 #[zP b] V (OutV (Cells 2) b G fa fe V (part (nf ts)))) (h:Rp w b G fa fe ts) (x:ByteArray) (mx:Nat) (hmx:mx≤100) :
  Calls zG 68 #[zP b,.string x,zI mx,.func (.func 69) #[zP b] #[]] w (OutL 102 2 x b G fa fe w (nf ts) (dMany x part mx (nf ts))):=by
 have HP:=zH cR
 have HL0:=(show PL w b G fa fe w ts 102 2 (.slice none 0 0) 0 from ⟨⟨Mv.refl _ _,(fun p hp=>by simp at hp),h,h.lt⟩,⟨[],World.ownsRow_nil w 0 102 2,by simp⟩,fun k hk=>by simp [Value.ownBlock] at hk⟩).hid
 obtain⟨s0,es0⟩:∃ q,nf ts=q:=⟨_,rfl⟩
 obtain⟨r0,er0⟩:∃ q,dMany x part mx (nf ts)=q:=⟨_,rfl⟩
 have HR0:=zH er0
 have HS0:Hid (nf ts=s0):=es0
 rw [er0,es0]
 clear h cR er0 es0
 go_enter Tryz.func68,Tryz.ntmps68
 go_wp2_with fail
 go_loopw [9] (fun t wr=>∃ a n c ts',n≤mx∧t=.slice a n c∧Hid (PL w b G fa fe wr ts' 102 2 (.slice a n c) n)∧Hid (dMany x part (mx - n) (nf ts')=r0)∧Hid ((n=0→nf ts'=s0)∧(n≠0→dIs x s0=true))) (fun t _=>mx - slen t)
 case atStart=>exact⟨none,0,0,ts,by omega,rfl,HL0,HR0,fun _=>HS0.out,fun h=>absurd rfl h⟩
 case round =>
  obtain⟨a,n,c,ts',hn,rfl,HL,HD,HZ⟩:=hrel
  clear HL0 HR0 HS0
  have cI:=is_p HL.out.G.R x
  obtain⟨q6,eq6⟩:∃ q,dIs x (nf ts')=q:=⟨_,rfl⟩
  have HQ6:Hid (dIs x (nf ts')=q6):=eq6
  rw [eq6] at cI
  clear eq6
  go_wp2_with fail
  refine cI.mono ?_
  rintro e w1 (⟨rfl,hne,hb⟩ | ⟨rfl,rfl,hb⟩)
  rotate_left
  ·exact⟨rfl,.inr ⟨.lex,rfl,by rw [← HD.out]; exact dMany_no rfl,HL.out.G.M.trans (Mv.ofBelow hb) (fun _ e=>.inl e)⟩⟩
  have HL1:=(HL.out.on hb).hid
  have HNE:Hid (ts'≠[]):=hne
  clear cI hb HL hne
  cases q6 with
  | false =>
   go_wp2_with fail
   go_ret
   refine .inl ⟨a,n,c,ts',rfl,HL1.out.R,HL1.out.D,HL1.out.G.R,by rw [← HD.out,dMany_no HQ6.out],⟨fun h0=>?_,fun h0=>HZ.out.2 h0⟩,by omega,HL1.out.G.M⟩
   have e1:=HZ.out.1 h0
   exact⟨e1,by rw [← e1]; exact HQ6.out⟩
  | true =>
   obtain⟨t6,ts6,e6⟩:∃ t r,ts'=t :: r:=by
    cases ts' with
    | nil=>exact absurd rfl HNE.out
    | cons t r=>exact⟨t,r,rfl⟩
   by_cases h4:n < mx
   ·have h5:(n:Int) < (mx:Int):=by omega
    have h6:decide ((n:Int) < (mx:Int))=true:=decide_eq_true h5
    have HD2:Hid (dMany x part (mx - (n+1)) (part (nf ts'))=r0):=by
     show _=_
     rw [← HD.out,show mx - n=(mx - (n+1))+1 by omega]
     show _=if _ then _ else _
     rw [if_pos HQ6.out]
    have HZ2:Hid (dIs x s0=true):=by
     by_cases h7:n=0
     ·show _=_
      rw [← HZ.out.1 h7]; exact HQ6.out
     ·exact HZ.out.2 h7
    have cN:=need_ok w1 b 131
    have cX:=HP.out w1 ts' HL1.out.G.R
    go_wp2_with (go_at_call 72; refine cN.mono ?_; rintro e w2 ⟨rfl,e4⟩; obtain rfl:=e4.symm)
    refine cX.mono ?_
    rintro e w2 (⟨_,ts2,rfl,⟨cs,rfl,hc2,hc3⟩,hr,hn2,hm⟩ | ⟨f,rfl,hf,hm⟩)
    rotate_left
    ·exact⟨rfl,.inr ⟨f,rfl,by rw [← HD2.out,hf]; exact dMany_no rfl,HL1.out.G.M.trans hm (fun _ e=>.inl e)⟩⟩
    have HL2:=(HL1.out.mv hm hr).hid
    have HCS:Hid (cs.size=2∧cs.all (·.oneCell')=true):=⟨hc2,hc3⟩
    have HN2:=zH hn2
    clear cX cN hr hn2 hm hc2 hc3 HL1
    go_wp2_with (first | (refine wpList_slice1 rfl 40 102 (.tmp 21) rfl cs rfl 2 _ Tryz.underlying40 24 inf102 rfl HCS.out.1 (by decide) (by decide) ?_) | (at_builtin; refine app_p HL2.out 40 cs HCS.out.1 HCS.out.2 _ 24 Tryz.underlying40 inf102 rfl (by decide) (by omega) (by decide) rfl (.tmp 19) (.tmp 22) rfl rfl rfl ?_; intro g7 cap7 w7 hl7; have HL7:=hl7.hid; clear hl7))
    exact⟨⟨some ⟨g7,0,none⟩,n+1,cap7,ts2,by omega,rfl,HL7,by rw [HN2.out]; exact HD2,fun h0=>by omega,fun _=>HZ2.out⟩,by simp only [slen]; omega⟩
   ·obtain rfl:n=mx:=by omega
    have h5:¬ (n:Int) < (n:Int):=by omega
    have h6:decide ((n:Int) < (n:Int))=false:=decide_eq_false h5
    have HDE:Hid (r0=.error (.tok 131 t6.p)):=by
     show _=_
     rw [← HD.out,Nat.sub_self]
     show (if _ then _ else _)=_
     rw [if_pos HQ6.out,e6]
     rfl
    rw [e6] at HL1
    obtain⟨a1,c1,h1⟩:=HL1.out.G.R.1
    have cN:=need_tok h1 131
    clear h1 e6
    go_wp2_with fail
    refine cN.mono ?_
    rintro e w2 ⟨rfl,hb⟩
    exact⟨rfl,.inr ⟨_,rfl,HDE.out,HL1.out.G.M.trans (Mv.ofBelow hb) (fun _ e=>.inl e)⟩⟩
theorem list70_p {w:World}{b G:Nat}{fa:Int}{fe:Value}{ts:List Tk}(part:St→St) (cR:∀ V ts,Rp V b G fa fe ts→Calls zG 71 #[zP b] V (OutV (Cells 3) b G fa fe V (part (nf ts)))) (h:Rp w b G fa fe ts) (x:ByteArray) (mx:Nat) (hmx:mx≤100) :
  Calls zG 70 #[zP b,.string x,zI mx,.func (.func 71) #[zP b] #[]] w (OutL 87 3 x b G fa fe w (nf ts) (dMany x part mx (nf ts))):=by
 have HP:=zH cR
 have HL0:=(show PL w b G fa fe w ts 87 3 (.slice none 0 0) 0 from ⟨⟨Mv.refl _ _,(fun p hp=>by simp at hp),h,h.lt⟩,⟨[],World.ownsRow_nil w 0 87 3,by simp⟩,fun k hk=>by simp [Value.ownBlock] at hk⟩).hid
 obtain⟨s0,es0⟩:∃ q,nf ts=q:=⟨_,rfl⟩
 obtain⟨r0,er0⟩:∃ q,dMany x part mx (nf ts)=q:=⟨_,rfl⟩
 have HR0:=zH er0
 have HS0:Hid (nf ts=s0):=es0
 rw [er0,es0]
 clear h cR er0 es0
 go_enter Tryz.func70,Tryz.ntmps70
 go_wp2_with fail
 go_loopw [9] (fun t wr=>∃ a n c ts',n≤mx∧t=.slice a n c∧Hid (PL w b G fa fe wr ts' 87 3 (.slice a n c) n)∧Hid (dMany x part (mx - n) (nf ts')=r0)∧Hid ((n=0→nf ts'=s0)∧(n≠0→dIs x s0=true))) (fun t _=>mx - slen t)
 case atStart=>exact⟨none,0,0,ts,by omega,rfl,HL0,HR0,fun _=>HS0.out,fun h=>absurd rfl h⟩
 case round =>
  obtain⟨a,n,c,ts',hn,rfl,HL,HD,HZ⟩:=hrel
  clear HL0 HR0 HS0
  have cI:=is_p HL.out.G.R x
  obtain⟨q6,eq6⟩:∃ q,dIs x (nf ts')=q:=⟨_,rfl⟩
  have HQ6:Hid (dIs x (nf ts')=q6):=eq6
  rw [eq6] at cI
  clear eq6
  go_wp2_with fail
  refine cI.mono ?_
  rintro e w1 (⟨rfl,hne,hb⟩ | ⟨rfl,rfl,hb⟩)
  rotate_left
  ·exact⟨rfl,.inr ⟨.lex,rfl,by rw [← HD.out]; exact dMany_no rfl,HL.out.G.M.trans (Mv.ofBelow hb) (fun _ e=>.inl e)⟩⟩
  have HL1:=(HL.out.on hb).hid
  have HNE:Hid (ts'≠[]):=hne
  clear cI hb HL hne
  cases q6 with
  | false =>
   go_wp2_with fail
   go_ret
   refine .inl ⟨a,n,c,ts',rfl,HL1.out.R,HL1.out.D,HL1.out.G.R,by rw [← HD.out,dMany_no HQ6.out],⟨fun h0=>?_,fun h0=>HZ.out.2 h0⟩,by omega,HL1.out.G.M⟩
   have e1:=HZ.out.1 h0
   exact⟨e1,by rw [← e1]; exact HQ6.out⟩
  | true =>
   obtain⟨t6,ts6,e6⟩:∃ t r,ts'=t :: r:=by
    cases ts' with
    | nil=>exact absurd rfl HNE.out
    | cons t r=>exact⟨t,r,rfl⟩
   by_cases h4:n < mx
   ·have h5:(n:Int) < (mx:Int):=by omega
    have h6:decide ((n:Int) < (mx:Int))=true:=decide_eq_true h5
    have HD2:Hid (dMany x part (mx - (n+1)) (part (nf ts'))=r0):=by
     show _=_
     rw [← HD.out,show mx - n=(mx - (n+1))+1 by omega]
     show _=if _ then _ else _
     rw [if_pos HQ6.out]
    have HZ2:Hid (dIs x s0=true):=by
     by_cases h7:n=0
     ·show _=_
      rw [← HZ.out.1 h7]; exact HQ6.out
     ·exact HZ.out.2 h7
    have cN:=need_ok w1 b 131
    have cX:=HP.out w1 ts' HL1.out.G.R
    go_wp2_with (go_at_call 72; refine cN.mono ?_; rintro e w2 ⟨rfl,e4⟩; obtain rfl:=e4.symm)
    refine cX.mono ?_
    rintro e w2 (⟨_,ts2,rfl,⟨cs,rfl,hc2,hc3⟩,hr,hn2,hm⟩ | ⟨f,rfl,hf,hm⟩)
    rotate_left
    ·exact⟨rfl,.inr ⟨f,rfl,by rw [← HD2.out,hf]; exact dMany_no rfl,HL1.out.G.M.trans hm (fun _ e=>.inl e)⟩⟩
    have HL2:=(HL1.out.mv hm hr).hid
    have HCS:Hid (cs.size=3∧cs.all (·.oneCell')=true):=⟨hc2,hc3⟩
    have HN2:=zH hn2
    clear cX cN hr hn2 hm hc2 hc3 HL1
    go_wp2_with (first | (refine wpList_slice1 rfl 41 87 (.tmp 21) rfl cs rfl 3 _ Tryz.underlying41 48 inf87 rfl HCS.out.1 (by decide) (by decide) ?_) | (at_builtin; refine app_p HL2.out 41 cs HCS.out.1 HCS.out.2 _ 48 Tryz.underlying41 inf87 rfl (by decide) (by omega) (by decide) rfl (.tmp 19) (.tmp 22) rfl rfl rfl ?_; intro g7 cap7 w7 hl7; have HL7:=hl7.hid; clear hl7))
    exact⟨⟨some ⟨g7,0,none⟩,n+1,cap7,ts2,by omega,rfl,HL7,by rw [HN2.out]; exact HD2,fun h0=>by omega,fun _=>HZ2.out⟩,by simp only [slen]; omega⟩
   ·obtain rfl:n=mx:=by omega
    have h5:¬ (n:Int) < (n:Int):=by omega
    have h6:decide ((n:Int) < (n:Int))=false:=decide_eq_false h5
    have HDE:Hid (r0=.error (.tok 131 t6.p)):=by
     show _=_
     rw [← HD.out,Nat.sub_self]
     show (if _ then _ else _)=_
     rw [if_pos HQ6.out,e6]
     rfl
    rw [e6] at HL1
    obtain⟨a1,c1,h1⟩:=HL1.out.G.R.1
    have cN:=need_tok h1 131
    clear h1 e6
    go_wp2_with fail
    refine cN.mono ?_
    rintro e w2 ⟨rfl,hb⟩
    exact⟨rfl,.inr ⟨_,rfl,HDE.out,HL1.out.G.M.trans (Mv.ofBelow hb) (fun _ e=>.inl e)⟩⟩
theorem list108_p {w:World}{b G:Nat}{fa:Int}{fe:Value}{ts:List Tk}(part:St→St) (cR:∀ V ts,Rp V b G fa fe ts→Calls zG 109 #[zP b] V (OutV (Cells 10) b G fa fe V (part (nf ts)))) (h:Rp w b G fa fe ts) (x:ByteArray) (mx:Nat) (hmx:mx≤100) :
  Calls zG 108 #[zP b,.string x,zI mx,.func (.func 109) #[zP b] #[]] w (OutL 106 10 x b G fa fe w (nf ts) (dMany x part mx (nf ts))):=by
 have HP:=zH cR
 have HL0:=(show PL w b G fa fe w ts 106 10 (.slice none 0 0) 0 from ⟨⟨Mv.refl _ _,(fun p hp=>by simp at hp),h,h.lt⟩,⟨[],World.ownsRow_nil w 0 106 10,by simp⟩,fun k hk=>by simp [Value.ownBlock] at hk⟩).hid
 obtain⟨s0,es0⟩:∃ q,nf ts=q:=⟨_,rfl⟩
 obtain⟨r0,er0⟩:∃ q,dMany x part mx (nf ts)=q:=⟨_,rfl⟩
 have HR0:=zH er0
 have HS0:Hid (nf ts=s0):=es0
 rw [er0,es0]
 clear h cR er0 es0
 go_enter Tryz.func108,Tryz.ntmps108
 go_wp2_with fail
 go_loopw [9] (fun t wr=>∃ a n c ts',n≤mx∧t=.slice a n c∧Hid (PL w b G fa fe wr ts' 106 10 (.slice a n c) n)∧Hid (dMany x part (mx - n) (nf ts')=r0)∧Hid ((n=0→nf ts'=s0)∧(n≠0→dIs x s0=true))) (fun t _=>mx - slen t)
 case atStart=>exact⟨none,0,0,ts,by omega,rfl,HL0,HR0,fun _=>HS0.out,fun h=>absurd rfl h⟩
 case round =>
  obtain⟨a,n,c,ts',hn,rfl,HL,HD,HZ⟩:=hrel
  clear HL0 HR0 HS0
  have cI:=is_p HL.out.G.R x
  obtain⟨q6,eq6⟩:∃ q,dIs x (nf ts')=q:=⟨_,rfl⟩
  have HQ6:Hid (dIs x (nf ts')=q6):=eq6
  rw [eq6] at cI
  clear eq6
  go_wp2_with fail
  refine cI.mono ?_
  rintro e w1 (⟨rfl,hne,hb⟩ | ⟨rfl,rfl,hb⟩)
  rotate_left
  ·exact⟨rfl,.inr ⟨.lex,rfl,by rw [← HD.out]; exact dMany_no rfl,HL.out.G.M.trans (Mv.ofBelow hb) (fun _ e=>.inl e)⟩⟩
  have HL1:=(HL.out.on hb).hid
  have HNE:Hid (ts'≠[]):=hne
  clear cI hb HL hne
  cases q6 with
  | false =>
   go_wp2_with fail
   go_ret
   refine .inl ⟨a,n,c,ts',rfl,HL1.out.R,HL1.out.D,HL1.out.G.R,by rw [← HD.out,dMany_no HQ6.out],⟨fun h0=>?_,fun h0=>HZ.out.2 h0⟩,by omega,HL1.out.G.M⟩
   have e1:=HZ.out.1 h0
   exact⟨e1,by rw [← e1]; exact HQ6.out⟩
  | true =>
   obtain⟨t6,ts6,e6⟩:∃ t r,ts'=t :: r:=by
    cases ts' with
    | nil=>exact absurd rfl HNE.out
    | cons t r=>exact⟨t,r,rfl⟩
   by_cases h4:n < mx
   ·have h5:(n:Int) < (mx:Int):=by omega
    have h6:decide ((n:Int) < (mx:Int))=true:=decide_eq_true h5
    have HD2:Hid (dMany x part (mx - (n+1)) (part (nf ts'))=r0):=by
     show _=_
     rw [← HD.out,show mx - n=(mx - (n+1))+1 by omega]
     show _=if _ then _ else _
     rw [if_pos HQ6.out]
    have HZ2:Hid (dIs x s0=true):=by
     by_cases h7:n=0
     ·show _=_
      rw [← HZ.out.1 h7]; exact HQ6.out
     ·exact HZ.out.2 h7
    have cN:=need_ok w1 b 131
    have cX:=HP.out w1 ts' HL1.out.G.R
    go_wp2_with (go_at_call 72; refine cN.mono ?_; rintro e w2 ⟨rfl,e4⟩; obtain rfl:=e4.symm)
    refine cX.mono ?_
    rintro e w2 (⟨_,ts2,rfl,⟨cs,rfl,hc2,hc3⟩,hr,hn2,hm⟩ | ⟨f,rfl,hf,hm⟩)
    rotate_left
    ·exact⟨rfl,.inr ⟨f,rfl,by rw [← HD2.out,hf]; exact dMany_no rfl,HL1.out.G.M.trans hm (fun _ e=>.inl e)⟩⟩
    have HL2:=(HL1.out.mv hm hr).hid
    have HCS:Hid (cs.size=10∧cs.all (·.oneCell')=true):=⟨hc2,hc3⟩
    have HN2:=zH hn2
    clear cX cN hr hn2 hm hc2 hc3 HL1
    go_wp2_with (first | (refine wpList_slice1 rfl 85 106 (.tmp 21) rfl cs rfl 10 _ Tryz.underlying85 104 inf106 rfl HCS.out.1 (by decide) (by decide) ?_) | (at_builtin; refine app_p HL2.out 85 cs HCS.out.1 HCS.out.2 _ 104 Tryz.underlying85 inf106 rfl (by decide) (by omega) (by decide) rfl (.tmp 19) (.tmp 22) rfl rfl rfl ?_; intro g7 cap7 w7 hl7; have HL7:=hl7.hid; clear hl7))
    exact⟨⟨some ⟨g7,0,none⟩,n+1,cap7,ts2,by omega,rfl,HL7,by rw [HN2.out]; exact HD2,fun h0=>by omega,fun _=>HZ2.out⟩,by simp only [slen]; omega⟩
   ·obtain rfl:n=mx:=by omega
    have h5:¬ (n:Int) < (n:Int):=by omega
    have h6:decide ((n:Int) < (n:Int))=false:=decide_eq_false h5
    have HDE:Hid (r0=.error (.tok 131 t6.p)):=by
     show _=_
     rw [← HD.out,Nat.sub_self]
     show (if _ then _ else _)=_
     rw [if_pos HQ6.out,e6]
     rfl
    rw [e6] at HL1
    obtain⟨a1,c1,h1⟩:=HL1.out.G.R.1
    have cN:=need_tok h1 131
    clear h1 e6
    go_wp2_with fail
    refine cN.mono ?_
    rintro e w2 ⟨rfl,hb⟩
    exact⟨rfl,.inr ⟨_,rfl,HDE.out,HL1.out.G.M.trans (Mv.ofBelow hb) (fun _ e=>.inl e)⟩⟩
theorem list132_p {w:World}{b G:Nat}{fa:Int}{fe:Value}{ts:List Tk}(part:St→St) (cR:∀ V ts,Rp V b G fa fe ts→Calls zG 133 #[zP b] V (OutV (Cells 36) b G fa fe V (part (nf ts)))) (h:Rp w b G fa fe ts) (x:ByteArray) (mx:Nat) (hmx:mx≤100) :
  Calls zG 132 #[zP b,.string x,zI mx,.func (.func 133) #[zP b] #[]] w (OutL 110 36 x b G fa fe w (nf ts) (dMany x part mx (nf ts))):=by
 have HP:=zH cR
 have HL0:=(show PL w b G fa fe w ts 110 36 (.slice none 0 0) 0 from ⟨⟨Mv.refl _ _,(fun p hp=>by simp at hp),h,h.lt⟩,⟨[],World.ownsRow_nil w 0 110 36,by simp⟩,fun k hk=>by simp [Value.ownBlock] at hk⟩).hid
 obtain⟨s0,es0⟩:∃ q,nf ts=q:=⟨_,rfl⟩
 obtain⟨r0,er0⟩:∃ q,dMany x part mx (nf ts)=q:=⟨_,rfl⟩
 have HR0:=zH er0
 have HS0:Hid (nf ts=s0):=es0
 rw [er0,es0]
 clear h cR er0 es0
 go_enter Tryz.func132,Tryz.ntmps132
 go_wp2_with fail
 go_loopw [9] (fun t wr=>∃ a n c ts',n≤mx∧t=.slice a n c∧Hid (PL w b G fa fe wr ts' 110 36 (.slice a n c) n)∧Hid (dMany x part (mx - n) (nf ts')=r0)∧Hid ((n=0→nf ts'=s0)∧(n≠0→dIs x s0=true))) (fun t _=>mx - slen t)
 case atStart=>exact⟨none,0,0,ts,by omega,rfl,HL0,HR0,fun _=>HS0.out,fun h=>absurd rfl h⟩
 case round =>
  obtain⟨a,n,c,ts',hn,rfl,HL,HD,HZ⟩:=hrel
  clear HL0 HR0 HS0
  have cI:=is_p HL.out.G.R x
  obtain⟨q6,eq6⟩:∃ q,dIs x (nf ts')=q:=⟨_,rfl⟩
  have HQ6:Hid (dIs x (nf ts')=q6):=eq6
  rw [eq6] at cI
  clear eq6
  go_wp2_with fail
  refine cI.mono ?_
  rintro e w1 (⟨rfl,hne,hb⟩ | ⟨rfl,rfl,hb⟩)
  rotate_left
  ·exact⟨rfl,.inr ⟨.lex,rfl,by rw [← HD.out]; exact dMany_no rfl,HL.out.G.M.trans (Mv.ofBelow hb) (fun _ e=>.inl e)⟩⟩
  have HL1:=(HL.out.on hb).hid
  have HNE:Hid (ts'≠[]):=hne
  clear cI hb HL hne
  cases q6 with
  | false =>
   go_wp2_with fail
   go_ret
   refine .inl ⟨a,n,c,ts',rfl,HL1.out.R,HL1.out.D,HL1.out.G.R,by rw [← HD.out,dMany_no HQ6.out],⟨fun h0=>?_,fun h0=>HZ.out.2 h0⟩,by omega,HL1.out.G.M⟩
   have e1:=HZ.out.1 h0
   exact⟨e1,by rw [← e1]; exact HQ6.out⟩
  | true =>
   obtain⟨t6,ts6,e6⟩:∃ t r,ts'=t :: r:=by
    cases ts' with
    | nil=>exact absurd rfl HNE.out
    | cons t r=>exact⟨t,r,rfl⟩
   by_cases h4:n < mx
   ·have h5:(n:Int) < (mx:Int):=by omega
    have h6:decide ((n:Int) < (mx:Int))=true:=decide_eq_true h5
    have HD2:Hid (dMany x part (mx - (n+1)) (part (nf ts'))=r0):=by
     show _=_
     rw [← HD.out,show mx - n=(mx - (n+1))+1 by omega]
     show _=if _ then _ else _
     rw [if_pos HQ6.out]
    have HZ2:Hid (dIs x s0=true):=by
     by_cases h7:n=0
     ·show _=_
      rw [← HZ.out.1 h7]; exact HQ6.out
     ·exact HZ.out.2 h7
    have cN:=need_ok w1 b 131
    have cX:=HP.out w1 ts' HL1.out.G.R
    go_wp2_with (go_at_call 72; refine cN.mono ?_; rintro e w2 ⟨rfl,e4⟩; obtain rfl:=e4.symm)
    refine cX.mono ?_
    rintro e w2 (⟨_,ts2,rfl,⟨cs,rfl,hc2,hc3⟩,hr,hn2,hm⟩ | ⟨f,rfl,hf,hm⟩)
    rotate_left
    ·exact⟨rfl,.inr ⟨f,rfl,by rw [← HD2.out,hf]; exact dMany_no rfl,HL1.out.G.M.trans hm (fun _ e=>.inl e)⟩⟩
    have HL2:=(HL1.out.mv hm hr).hid
    have HCS:Hid (cs.size=36∧cs.all (·.oneCell')=true):=⟨hc2,hc3⟩
    have HN2:=zH hn2
    clear cX cN hr hn2 hm hc2 hc3 HL1
    go_wp2_with (first | (refine wpList_slice1 rfl 104 110 (.tmp 21) rfl cs rfl 36 _ Tryz.underlying104 320 inf110 rfl HCS.out.1 (by decide) (by decide) ?_) | (at_builtin; refine app_p HL2.out 104 cs HCS.out.1 HCS.out.2 _ 320 Tryz.underlying104 inf110 rfl (by decide) (by omega) (by decide) rfl (.tmp 19) (.tmp 22) rfl rfl rfl ?_; intro g7 cap7 w7 hl7; have HL7:=hl7.hid; clear hl7))
    exact⟨⟨some ⟨g7,0,none⟩,n+1,cap7,ts2,by omega,rfl,HL7,by rw [HN2.out]; exact HD2,fun h0=>by omega,fun _=>HZ2.out⟩,by simp only [slen]; omega⟩
   ·obtain rfl:n=mx:=by omega
    have h5:¬ (n:Int) < (n:Int):=by omega
    have h6:decide ((n:Int) < (n:Int))=false:=decide_eq_false h5
    have HDE:Hid (r0=.error (.tok 131 t6.p)):=by
     show _=_
     rw [← HD.out,Nat.sub_self]
     show (if _ then _ else _)=_
     rw [if_pos HQ6.out,e6]
     rfl
    rw [e6] at HL1
    obtain⟨a1,c1,h1⟩:=HL1.out.G.R.1
    have cN:=need_tok h1 131
    clear h1 e6
    go_wp2_with fail
    refine cN.mono ?_
    rintro e w2 ⟨rfl,hb⟩
    exact⟨rfl,.inr ⟨_,rfl,HDE.out,HL1.out.G.M.trans (Mv.ofBelow hb) (fun _ e=>.inl e)⟩⟩
def dOther (s:St):St:=dDo (dTake Zk s)
theorem dDos_many:∀ (r:Nat) (s:St),dDos r s=dMany Zk dOther r (dDo s):=by
 intro r
 induction r with
 | zero=>intro s; rfl
 | succ r ih =>
  intro s
  unfold dDos dMany
  by_cases c:dIs Zk (dDo s)=true
  ·rw [if_pos c,if_pos c,ih]
   obtain⟨t,ts,e,hx⟩:=dIs_ok c
   have e1:dTake Zk (dDo s)=dStep (dDo s):=by
    rw [e]
    show (if t.x=Zk then nf ts else _)=_
    rw [if_pos hx]
    rfl
   unfold dOther
   rw [e1]
  ·rw [if_neg c,if_neg c]
theorem app_two {w:World}{b G:Nat}{fa:Int}{fe:Value}{V:World}{bs:List (Nat × Nat × Nat)}{ts:List Tk}(hG:GP w b G fa fe V bs ts) (cs:Array Value) (hcs:cs.size=36) (h1:cs.all (·.oneCell')=true)
  {aL:Option Addr}{nL cL:Nat}(hX:∃ xs,V.ownsRow 0 110 36 (.slice aL nL cL) nL xs∧∀ u ∈ xs,u.oneCell'=true) (hn:nL≤100)
  {ops:Array Oper}{rest:List Oper}{o:Oper}{a:Act}{Q:Exit→Act→World→Prop}(hgd:o.guard=none) (d x:Operand)
  (ho:o.op=.call { callee:=.builtin .append,args:=#[d,x],argTypes:=#[104,104] }) (hs:a.eval d=.slice (some ⟨V§,0,none⟩) 1 1) (hx:a.eval x=.slice aL nL cL)
  (h:∀ a' n' c' w',GP w b G fa fe w' bs ts→wpList Tryz.prog ops Q rest (a.put o.dst (.slice a' n' c')) w') :
  wpList Tryz.prog ops Q (o :: rest) a (V.alloc (.cells cs 110)):=by
 obtain⟨i0,hi0,hz0,hz1,hz2⟩:=info_parts inf110
 obtain⟨xs,hr,hone⟩:=hX
 have hsz:=Sa V (.cells cs 110)
 have hd:(V.alloc (.cells cs 110)).ownsRow 0 110 36 (.slice (some ⟨V§,0,none⟩) 1 1) 1 cs.toList:=by
  refine⟨by simp; exact hcs,.inr ⟨V§,1,cs,rfl,Nat.zero_le _,Hn V _,Nat.le_refl _,by unfold maxLen; omega,by omega,?_⟩⟩
  exact List.take_of_length_le (by simp; omega)
 have hone2:∀ u ∈ cs.toList,u.oneCell'=true:=fun u hu=>(Array.all_eq_true_iff_forall_mem.1 h1) u (by simpa using hu)
 have hr2:=World.ownsRow.alloc hr (.cells cs 110)
 rcases hr.2 with ⟨he,hn0⟩ | ⟨g,cap,cur,he,_,hg,_,_,_,_⟩
 ·refine wpList_append_own_none hgd d x 104 ho 0 110 i0 36 Tryz.underlying104 hi0 _ 1 _ hs hd (by rw [hx]; exact he) ?_
  exact h _ _ _ _ (hG.on (Bn _ _))
 ·rw [he] at hx hr2
  have hlen:xs.length=nL * 36:=hr.1
  refine wpList_append_own _ hgd d x 104 ho 0 110 i0 _ 36 320 Tryz.underlying104 hi0 hz0 hz1 hz2 rfl (by decide) _ 1 _ hs hd ⟨g,0,none⟩ nL cap xs hx hlen (fun j u hu=>?_) hone (by unfold maxLen; omega) (by omega) (Nat.zero_le _) ?_
  ·have hj:j < xs.length:=(List.getElem?_eq_some_iff.1 hu).1
   have hadd:(⟨g,0,none⟩:Addr).add j=⟨g,j,none⟩:=by unfold Addr.add; split <;> simp_all
   rw [hadd,World.ownsRow.cellAt hr2 j (by omega)]
   exact hu
  ·intro v' w' h2 h3 _
   have hs3:=h3.size
   have hVw:=hG.M.size
   have hW:=hG.W
   have old:∀ k,k < V§→w'.heap[k]? = V.heap[k]?:=fun k hk=>(h3.block k (by omega) (by simp [Value.ownBlock]; omega)).trans (Below.heap_alloc _ _ _ hk)
   have hgp:GP w b G fa fe w' bs ts:=by
    refine⟨?_,fun p hp=>?_,hG.R.off (old b (by omega)) (old G (by omega)) (by omega),hW⟩
    ·refine (hG.M.trans (Mv.ofBelow (F:=fun k=>k=b) (Bn V (.cells cs 110))) (fun _ e=>.inl e)).grown h3 (fun k e=>.inr ?_)
     simp [Value.ownBlock] at e
     omega
    ·obtain⟨g1,g2⟩:=hG.B p hp
     exact⟨g1.blk (old _ g1.lt),g2⟩
   rcases h2.2 with ⟨hv,_⟩ | ⟨g',cap',cur',hv,_⟩
   ·rw [hv]; exact h _ _ _ _ hgp
   ·rw [hv]; exact h _ _ _ _ hgp
theorem otherDo_p {w:World}{b G:Nat}{fa:Int}{fe:Value}{ts:List Tk}(h:Rp w b G fa fe ts):Calls zG 133 #[zP b] w (OutV (Cells 36) b G fa fe w (dOther (nf ts))):=by
 have HG0:=(GP.new h zA0 110 36 rfl (by simp [Value.oneCell'])).hid
 clear h
 obtain⟨W0,eW0⟩:∃ W,w.alloc (.cells zA0 110)=W:=⟨_,rfl⟩
 rw [eW0] at HG0
 have HEW:=zH eW0
 clear eW0
 go_enter Tryz.func133,Tryz.ntmps133
 have cT:=take_p HG0.out.R Zk
 go_wp2_with fail
 try rw [HEW.out]
 refine cT.mono ?_
 rintro e w1 (⟨_,ts1,rfl,⟨tk1,rfl⟩,hr,hn,hm⟩ | ⟨f,rfl,hf,hm⟩)
 rotate_left
 ·exact⟨rfl,.inr ⟨f,rfl,by rw [dOther,hf]; rfl,HG0.out.M.trans hm (fun _ e=>.inl e)⟩⟩
 have HG1:=(HG0.out.mv hm hr).hid
 have HN1:=zH hn
 clear cT hr hn hm HG0
 clear HEW
 generalize Value.agg (tkA tk1)=D1
 have cD:=do_p HG1.out.R
 go_wp2_with fail
 refine cD.mono ?_
 rintro e w2 (⟨_,ts2,rfl,⟨cs,rfl,hc2,hc3⟩,hr,hn,hm⟩ | ⟨f,rfl,hf,hm⟩)
 rotate_left
 ·exact⟨rfl,.inr ⟨f,rfl,by rw [dOther,← HN1.out]; exact hf,HG1.out.M.trans hm (fun _ e=>.inl e)⟩⟩
 have HG2:=(HG1.out.mv hm hr).hid
 have HN2:=zH hn
 clear cD hr hn hm HG1
 obtain⟨old,ho1,ho2,ho3⟩:=(HG2.out.B (w§,110,36) (by simp)).1
 have HO:=zH ho1
 have HF:=zH (HG2.out.row (N:=w§) (T:=110) (n:=36) (by simp) cs hc2 hc3)
 have HSZ1:Hid (cs.size=36∧old.size=36∧cs.all (·.oneCell')=true):=⟨hc2,ho2,hc3⟩
 clear hc2 hc3 ho1 ho2 ho3 HG2
 go_wp2_with (refine wpList_store_row rfl 110 (.tmp 2) (.tmp 6) rfl w§ cs rfl rfl 110 old HO.out (by rw [HSZ1.out.1]; exact size110) (by rw [HSZ1.out.1,HSZ1.out.2.1]) HSZ1.out.2.2 ?_)
 exact bodyPost_ret (results_cell_row rfl _ _ w§ 110 cs (0,0) _ rfl HF.out.2 Tryz.underlying110 rfl (by rw [HSZ1.out.1]; exact size110)) rfl (.inl ⟨_,ts2,rfl,⟨cs,rfl,HSZ1.out.1,HSZ1.out.2.2⟩,HF.out.1.R,by rw [dOther,← HN1.out]; exact HN2.out,HF.out.1.M⟩)
theorem rule_p {w:World}{b G:Nat}{fa:Int}{fe:Value}{ts:List Tk}(h:Rp w b G fa fe ts):Calls zG 109 #[zP b] w (OutV (Cells 10) b G fa fe w (dRule (nf ts))):=by
 have hmf:∀ (fn:Fn) (first cap:Array Value) (w:World),(Instr.makeFunc fn first cap).run Tryz.prog w=.ok (.func fn first cap) w:=fun _ _ _ _=>rfl
 have HG0:=(GP.new h zA4 106 10 rfl (by simp [Value.oneCell'])).hid
 clear h
 obtain⟨W0,eW0⟩:∃ W,w.alloc (.cells zA4 106)=W:=⟨_,rfl⟩
 rw [eW0] at HG0
 have HEW:Hid (w.alloc (.cells zA4 106)=W0):=eW0
 clear eW0
 go_enter Tryz.func109,Tryz.ntmps109
 have cT:=take_p HG0.out.R ZK
 go_wp2_with fail
 try rw [HEW.out]
 refine cT.mono ?_
 rintro e w1 (⟨_,ts1,rfl,⟨tk1,rfl⟩,hr,hn,hm⟩ | ⟨f,rfl,hf,hm⟩)
 rotate_left
 ·exact⟨rfl,.inr ⟨f,rfl,by rw [dRule,hf]; rfl,HG0.out.M.trans hm (fun _ e=>.inl e)⟩⟩
 have HG1:=(HG0.out.mv hm hr).hid
 have HN1:Hid (nf ts1=dTake ZK (nf ts)):=hn
 clear cT hr hn hm HG0
 clear HEW
 have hf4:=fun v=>field82_4 tk1 v
 have HGp:=(HG1.out.push #[zU 0,zU 0,zU 0,zI 0,zU 0,.string ⟨#[]⟩,.slice none 0 0,zI 0,.slice none 0 0,zI tk1.p] 106 10 rfl (by simp [Value.oneCell'])).hid
 go_upto_region 2 with fail
 obtain⟨N3,eN3⟩:∃ q,w1§=q:=⟨_,rfl⟩
 obtain⟨W1,eW1⟩:∃ W,w1.alloc (.cells #[zU 0,zU 0,zU 0,zI 0,zU 0,.string ⟨#[]⟩,.slice none 0 0,zI 0,.slice none 0 0,zI tk1.p] 106)=W:=⟨_,rfl⟩
 rw [eW1] at HGp ⊢
 rw [eN3] at HGp ⊢
 clear eW1 eN3 hf4 HG1
 generalize Value.agg (tkA tk1)=D1
 generalize Value.agg #[zU 0,zU 0,zU 0,zI 0,zU 0,.string ⟨#[]⟩,.slice none 0 0,zI 0,.slice none 0 0,zI tk1.p]=D0
 have cE:=expr_p HGp.out.R
 go_wp2_with fail
 refine cE.mono ?_
 rintro e w2 (⟨_,ts2,rfl,⟨⟨⟨k2,o2,ty2,n2,f2,x2,p2⟩,am2,cm2,ks2⟩,rfl⟩,hr,hn,hm⟩ | ⟨f,rfl,hf,hm⟩)
 rotate_left
 ·exact⟨rfl,.inr ⟨f,rfl,by rw [dRule,← HN1.out,hf]; rfl,HGp.out.M.trans hm (fun _ e=>.inl e)⟩⟩
 simp only [Nd.vals,Nd.h,Nd.a,Nd.c,Nd.ks,hdA]
 have HG2:=(HGp.out.mv hm hr).hid
 have HN2:Hid (nf ts2=dEx (nf ts1)):=hn
 clear cE hr hn hm HGp
 obtain⟨av0,ac0,af0⟩:=(HG2.out.B (N3,106,10) (by simp)).1.cell 0 (show 0 < 10 by omega)
 obtain⟨av1,ac1,af1⟩:=(HG2.out.B (N3,106,10) (by simp)).1.cell 1 (show 1 < 10 by omega)
 obtain⟨av2,ac2,af2⟩:=(HG2.out.B (N3,106,10) (by simp)).1.cell 2 (show 2 < 10 by omega)
 obtain⟨av3,ac3,af3⟩:=(HG2.out.B (N3,106,10) (by simp)).1.cell 3 (show 3 < 10 by omega)
 obtain⟨av4,ac4,af4⟩:=(HG2.out.B (N3,106,10) (by simp)).1.cell 4 (show 4 < 10 by omega)
 obtain⟨av5,ac5,af5⟩:=(HG2.out.B (N3,106,10) (by simp)).1.cell 5 (show 5 < 10 by omega)
 obtain⟨av6,ac6,af6⟩:=(HG2.out.B (N3,106,10) (by simp)).1.cell 6 (show 6 < 10 by omega)
 obtain⟨av7,ac7,af7⟩:=(HG2.out.B (N3,106,10) (by simp)).1.cell 7 (show 7 < 10 by omega)
 have HGx:Hid (GP w b G fa fe ((((((((w2.setCell ⟨N3,0,none⟩ (zU k2)).setCell ⟨N3,1,none⟩ (zU o2)).setCell ⟨N3,2,none⟩ (zU ty2)).setCell ⟨N3,3,none⟩ (zI n2)).setCell ⟨N3,4,none⟩ (zU f2)).setCell ⟨N3,5,none⟩ (.string x2)).setCell ⟨N3,6,none⟩ (.slice am2 ks2.length cm2)).setCell ⟨N3,7,none⟩ (zI p2)) _ ts2):=HG2.out.node (N:=N3) (T:=106) (n:=10) (by simp) 0 (Nd.mk ⟨k2,o2,ty2,n2,f2,x2,p2⟩ am2 cm2 ks2)
 go_upto_region 3 with fail
 obtain⟨Wx,eWx⟩:∃ Y,((((((((w2.setCell ⟨N3,0,none⟩ (zU k2)).setCell ⟨N3,1,none⟩ (zU o2)).setCell ⟨N3,2,none⟩ (zU ty2)).setCell ⟨N3,3,none⟩ (zI n2)).setCell ⟨N3,4,none⟩ (zU f2)).setCell ⟨N3,5,none⟩ (.string x2)).setCell ⟨N3,6,none⟩ (.slice am2 ks2.length cm2)).setCell ⟨N3,7,none⟩ (zI p2))=Y:=⟨_,rfl⟩
 rw [eWx] at HGx ⊢
 clear eWx ac0 af0 ac1 af1 ac2 af2 ac3 af3 ac4 af4 ac5 af5 ac6 af6 ac7 af7 HG2
 generalize Value.agg (zN k2 o2 ty2 n2 f2 x2 am2 ks2 cm2 p2)=Dgx
 have cT:=take_p HGx.out.R Z07
 go_wp2_with fail
 refine cT.mono ?_
 rintro e w3 (⟨_,ts3,rfl,⟨tk3,rfl⟩,hr,hn,hm⟩ | ⟨f,rfl,hf,hm⟩)
 rotate_left
 ·exact⟨rfl,.inr ⟨f,rfl,by rw [dRule,← HN1.out,← HN2.out,hf]; rfl,HGx.out.M.trans hm (fun _ e=>.inl e)⟩⟩
 have HG3:=(HGx.out.mv hm hr).hid
 have HN3:Hid (nf ts3=dTake Z07 (nf ts2)):=hn
 clear cT hr hn hm HGx
 generalize Value.agg (tkA tk3)=D3
 have cD:=do_p HG3.out.R
 go_wp2_with fail
 refine cD.mono ?_
 rintro e w4 (⟨_,ts4,rfl,⟨cs,rfl,hc2,hc3⟩,hr,hn,hm⟩ | ⟨f,rfl,hf,hm⟩)
 rotate_left
 ·exact⟨rfl,.inr ⟨f,rfl,by rw [dRule,← HN1.out,← HN2.out,← HN3.out,dDos_many,hf]; rfl,HG3.out.M.trans hm (fun _ e=>.inl e)⟩⟩
 have HN4:Hid (nf ts4=dDo (nf ts3)):=hn
 have HCS:Hid (cs.size=36∧cs.all (·.oneCell')=true):=⟨hc2,hc3⟩
 have HGq:=((HG3.out.mv hm hr).push zA0 110 36 rfl (by simp [Value.oneCell'])).hid
 have HG4:=(HGq.out.row (N:=w4§) (T:=110) (n:=36) (by simp) cs hc2 hc3).1.hid
 have HZ:Hid ((w4.alloc (.cells zA0 110)).heap[w4§]? = some (.cells zA0 110 (0,0))):=Hn _ _
 clear cD hr hn hm hc2 hc3 HG3 HGq
 go_upto_region 5 with (refine wpList_store_row rfl 110 (.tmp 4) (.tmp 16) rfl w4§ cs rfl rfl 110 zA0 HZ.out (by rw [HCS.out.1]; exact size110) (by rw [HCS.out.1]; rfl) HCS.out.2 ?_)
 generalize hW4:World.setRow _ _ _=W4
 have HG4:Hid (GP w b G fa fe W4 [(w4§,110,36),(N3,106,10),(w§,106,10)] ts4):=by rw [← hW4]; exact HG4.out
 obtain⟨N4,eN4⟩:∃ q,w4§=q:=⟨_,rfl⟩
 rw [eN4] at HG4 ⊢
 clear eN4 HZ hW4 HCS
 generalize Value.agg cs=D4
 have cL:Calls zG 132 #[zP b,.string Zk,zI 7,.func (.func 133) #[zP b] #[]] _ _:=list132_p dOther (fun V ts h=>otherDo_p h) HG4.out.R Zk 7 (by omega)
 go_wp2_with fail
 refine cL.mono ?_
 rintro e w5 (⟨aL5,nL5,cL5,ts5,rfl,hx,hd,hr,hn,hz,hle,hm⟩ | ⟨f,rfl,hf,hm⟩)
 rotate_left
 ·exact⟨rfl,.inr ⟨f,rfl,by rw [dRule,← HN1.out,← HN2.out,← HN3.out,dDos_many,← HN4.out,hf]; rfl,HG4.out.M.trans hm (fun _ e=>.inl e)⟩⟩
 have HG5:=(HG4.out.mv hm hr).hid
 have HN5:Hid (nf ts5=dMany Zk dOther 7 (nf ts4)):=hn
 have HLX5:Hid ((∃ xs,w5.ownsRow 0 110 36 (.slice aL5 nL5 cL5) nL5 xs∧∀ u ∈ xs,u.oneCell'=true)∧nL5≤100):=⟨hx,hle⟩
 have HLZ5:Hid ((nL5=0→nf ts5=nf ts4∧dIs Zk (nf ts4)=false)∧(nL5≠0→dIs Zk (nf ts4)=true)):=hz
 clear cL hr hn hm hx hd hz hle HG4
 obtain⟨c4,hc1,hc2,hc3⟩:=(HG5.out.B (N4,110,36) (by simp)).1
 have HC4:Hid (w5.heap[N4]? = some (.cells c4 110 (0,0))∧c4.size=36∧c4.all (·.oneCell')=true):=⟨hc1,hc2,hc3⟩
 clear hc1 hc2 hc3
 go_upto_region 7 with (first | (refine wpList_load_row rfl 110 (.tmp 4) rfl N4 rfl 110 c4 (0,0) _ HC4.out.1 Tryz.underlying110 rfl (by rw [HC4.out.2.1]; exact size110) ?_) | (refine wpList_slice1 rfl 104 110 (.tmp 21) rfl c4 rfl 36 _ Tryz.underlying104 320 inf110 rfl HC4.out.2.1 (by decide) (by decide) ?_) | (at_builtin; refine app_two HG5.out c4 HC4.out.2.1 HC4.out.2.2 HLX5.out.1 HLX5.out.2 rfl (.tmp 22) (.tmp 23) rfl rfl rfl ?_; intro a7 n7 c7 w7 hg7; have HG7:=hg7.hid; obtain⟨av8,ac8,af8⟩:=(HG7.out.B (N3,106,10) (by simp)).1.cell 8 (show 8 < 10 by omega); clear hg7))
 have HG8:Hid (GP w b G fa fe (w7.setCell ⟨N3,8,none⟩ (.slice a7 n7 c7)) _ ts5):=HG7.out.set (N:=N3) (T:=106) (n:=10) (by simp) 8 (.slice a7 n7 c7) rfl
 obtain⟨W8,eW8⟩:∃ W,w7.setCell ⟨N3,8,none⟩ (.slice a7 n7 c7)=W:=⟨_,rfl⟩
 rw [eW8] at HG8 ⊢
 clear eW8 HG7 ac8 af8 HC4 HG5
 generalize Value.agg c4=D8
 have cT:=take_p HG8.out.R Zr
 go_wp2_with fail
 refine cT.mono ?_
 rintro e w9 (⟨_,ts9,rfl,⟨tk9,rfl⟩,hr,hn,hm⟩ | ⟨f,rfl,hf,hm⟩)
 rotate_left
 ·exact⟨rfl,.inr ⟨f,rfl,by rw [dRule,← HN1.out,← HN2.out,← HN3.out,dDos_many,← HN4.out,← HN5.out,hf],HG8.out.M.trans hm (fun _ e=>.inl e)⟩⟩
 have HG9:=(HG8.out.mv hm hr).hid
 have HN9:Hid (nf ts9=dTake Zr (nf ts5)):=hn
 clear cT hr hn hm HG8
 generalize Value.agg (tkA tk9)=D9
 obtain⟨cs,hc1,hc2,hc3⟩:=(HG9.out.B (N3,106,10) (by simp)).1
 obtain⟨old,ho1,ho2,ho3⟩:=(HG9.out.B (w§,106,10) (by simp)).1
 have HC:Hid (w9.heap[N3]? = some (.cells cs 106 (0,0))):=hc1
 have HO:Hid (w9.heap[w§]? = some (.cells old 106 (0,0))):=ho1
 have HF:Hid (GP w b G fa fe (w9.setRow w§ cs) _ ts9∧(w9.setRow w§ cs).heap[w§]? = some (.cells cs 106 (0,0))):=HG9.out.row (N:=w§) (T:=106) (n:=10) (by simp) cs hc2 hc3
 have HSZ1:Hid (cs.size=10∧old.size=10∧cs.all (·.oneCell')=true):=⟨hc2,ho2,hc3⟩
 clear hc1 hc2 hc3 ho1 ho2 ho3
 go_wp2_with (first | (refine wpList_load_row rfl 106 (.tmp 3) rfl N3 rfl 106 cs (0,0) _ HC.out Tryz.underlying106 rfl (by rw [HSZ1.out.1]; exact size106) ?_) | (refine wpList_store_row rfl 106 (.tmp 2) (.tmp 28) rfl w§ cs rfl rfl 106 old HO.out (by rw [HSZ1.out.1]; exact size106) (by rw [HSZ1.out.1,HSZ1.out.2.1]) HSZ1.out.2.2 ?_))
 exact bodyPost_ret (results_cell_row rfl _ _ w§ 106 cs (0,0) _ rfl HF.out.2 Tryz.underlying106 rfl (by rw [HSZ1.out.1]; exact size106)) rfl (.inl ⟨_,ts9,rfl,⟨cs,rfl,HSZ1.out.1,HSZ1.out.2.2⟩,HF.out.1.R,by rw [dRule,← HN1.out,← HN2.out,← HN3.out,dDos_many,← HN4.out,← HN5.out,← HN9.out],HF.out.1.M⟩)
theorem state_p {w:World}{b G:Nat}{fa:Int}{fe:Value}{ts:List Tk}(h:Rp w b G fa fe ts):Calls zG 71 #[zP b] w (OutV (Cells 3) b G fa fe w (dState (nf ts))):=by
 have hmf:∀ (fn:Fn) (first cap:Array Value) (w:World),(Instr.makeFunc fn first cap).run Tryz.prog w=.ok (.func fn first cap) w:=fun _ _ _ _=>rfl
 have HG0:=(GP.new h zA11 87 3 rfl (by simp [Value.oneCell'])).hid
 clear h
 obtain⟨W0,eW0⟩:∃ W,w.alloc (.cells zA11 87)=W:=⟨_,rfl⟩
 rw [eW0] at HG0
 have HEW:=zH eW0
 clear eW0
 go_enter Tryz.func71,Tryz.ntmps71
 have cT:=take_p HG0.out.R Zd
 go_wp2_with fail
 try rw [HEW.out]
 refine cT.mono ?_
 rintro e w1 (⟨_,ts1,rfl,⟨tk1,rfl⟩,hr,hn,hm⟩ | ⟨f,rfl,hf,hm⟩)
 rotate_left
 ·exact⟨rfl,.inr ⟨f,rfl,by rw [dState,hf]; rfl,HG0.out.M.trans hm (fun _ e=>.inl e)⟩⟩
 have HG1:=(HG0.out.mv hm hr).hid
 have HN1:=zH hn
 clear cT hr hn hm HG0
 clear HEW
 have hf4:=fun v=>field82_4 tk1 v
 have HGp:=(HG1.out.push #[.string ⟨#[]⟩,.slice none 0 0,zI tk1.p] 87 3 rfl (by simp [Value.oneCell'])).hid
 go_upto_region 2 with fail
 obtain⟨N3,eN3⟩:∃ q,w1§=q:=⟨_,rfl⟩
 obtain⟨W1,eW1⟩:∃ W,w1.alloc (.cells #[.string ⟨#[]⟩,.slice none 0 0,zI tk1.p] 87)=W:=⟨_,rfl⟩
 rw [eW1] at HGp ⊢
 rw [eN3] at HGp ⊢
 clear eW1 eN3 hf4 HG1
 generalize Value.agg (tkA tk1)=D1
 have cN:=name_p HGp.out.R
 go_wp2_with fail
 refine cN.mono ?_
 rintro e w2 (⟨_,ts2,rfl,⟨x2,rfl⟩,hr,hn,hm⟩ | ⟨f,rfl,hf,hm⟩)
 rotate_left
 ·exact⟨rfl,.inr ⟨f,rfl,by rw [dState,← HN1.out,hf]; rfl,HGp.out.M.trans hm (fun _ e=>.inl e)⟩⟩
 have HG2:=(HGp.out.mv hm hr).hid
 have HN2:=zH hn
 clear cN hr hn hm HGp
 obtain⟨av0,ac0,af0⟩:=(HG2.out.B (N3,87,3) (by simp)).1.cell 0 (show 0 < 3 by omega)
 have HG3:=zH (HG2.out.set (N:=N3) (T:=87) (n:=3) (by simp) 0 (.string x2) rfl)
 go_upto_region 3 with fail
 obtain⟨W3,eW3⟩:∃ Y,w2.setCell ⟨N3,0,none⟩ (.string x2)=Y:=⟨_,rfl⟩
 rw [eW3] at HG3 ⊢
 clear eW3 ac0 af0 HG2
 have cT:=take_p HG3.out.R Zs
 go_wp2_with fail
 refine cT.mono ?_
 rintro e w4 (⟨_,ts4,rfl,⟨tk4,rfl⟩,hr,hn,hm⟩ | ⟨f,rfl,hf,hm⟩)
 rotate_left
 ·exact⟨rfl,.inr ⟨f,rfl,by rw [dState,← HN1.out,← HN2.out,hf]; rfl,HG3.out.M.trans hm (fun _ e=>.inl e)⟩⟩
 have HG4:=(HG3.out.mv hm hr).hid
 have HN4:=zH hn
 clear cT hr hn hm HG3
 generalize Value.agg (tkA tk4)=D4
 have cL:Calls zG 108 #[zP b,.string ZK,zI 12,.func (.func 109) #[zP b] #[]] _ _:=list108_p dRule (fun V ts h=>rule_p h) HG4.out.R ZK 12 (by omega)
 go_wp2_with fail
 refine cL.mono ?_
 rintro e w5 (⟨aL5,nL5,cL5,ts5,rfl,hx,hd,hr,hn,hz,hle,hm⟩ | ⟨f,rfl,hf,hm⟩)
 rotate_left
 ·exact⟨rfl,.inr ⟨f,rfl,by rw [dState,← HN1.out,← HN2.out,← HN4.out,hf]; rfl,HG4.out.M.trans hm (fun _ e=>.inl e)⟩⟩
 have HG5:=(HG4.out.mv hm hr).hid
 have HN5:=zH hn
 have HLX5:Hid ((∃ xs,w5.ownsRow 0 106 10 (.slice aL5 nL5 cL5) nL5 xs∧∀ u ∈ xs,u.oneCell'=true)∧nL5≤100):=⟨hx,hle⟩
 have HLZ5:=zH hz
 clear cL hr hn hm hx hd hz hle HG4
 obtain⟨av1,ac1,af1⟩:=(HG5.out.B (N3,87,3) (by simp)).1.cell 1 (show 1 < 3 by omega)
 have HG6:=zH (HG5.out.set (N:=N3) (T:=87) (n:=3) (by simp) 1 (.slice aL5 nL5 cL5) rfl)
 go_upto_region 5 with fail
 obtain⟨W6,eW6⟩:∃ Y,w5.setCell ⟨N3,1,none⟩ (.slice aL5 nL5 cL5)=Y:=⟨_,rfl⟩
 rw [eW6] at HG6 ⊢
 clear eW6 ac1 af1 HG5
 have cT:=take_p HG6.out.R Z8
 go_wp2_with fail
 refine cT.mono ?_
 rintro e w9 (⟨_,ts9,rfl,⟨tk9,rfl⟩,hr,hn,hm⟩ | ⟨f,rfl,hf,hm⟩)
 rotate_left
 ·exact⟨rfl,.inr ⟨f,rfl,by rw [dState,← HN1.out,← HN2.out,← HN4.out,← HN5.out,hf],HG6.out.M.trans hm (fun _ e=>.inl e)⟩⟩
 have HG9:=(HG6.out.mv hm hr).hid
 have HN9:=zH hn
 clear cT hr hn hm HG6
 generalize Value.agg (tkA tk9)=D9
 obtain⟨cs,hc1,hc2,hc3⟩:=(HG9.out.B (N3,87,3) (by simp)).1
 obtain⟨old,ho1,ho2,ho3⟩:=(HG9.out.B (w§,87,3) (by simp)).1
 have HC:=zH hc1
 have HO:=zH ho1
 have HF:=zH (HG9.out.row (N:=w§) (T:=87) (n:=3) (by simp) cs hc2 hc3)
 have HSZ1:Hid (cs.size=3∧old.size=3∧cs.all (·.oneCell')=true):=⟨hc2,ho2,hc3⟩
 clear hc1 hc2 hc3 ho1 ho2 ho3
 go_wp2_with (first | (refine wpList_load_row rfl 87 (.tmp 3) rfl N3 rfl 87 cs (0,0) _ HC.out Tryz.underlying87 rfl (by rw [HSZ1.out.1]; exact size87) ?_) | (refine wpList_store_row rfl 87 (.tmp 2) (.tmp 20) rfl w§ cs rfl rfl 87 old HO.out (by rw [HSZ1.out.1]; exact size87) (by rw [HSZ1.out.1,HSZ1.out.2.1]) HSZ1.out.2.2 ?_))
 exact bodyPost_ret (results_cell_row rfl _ _ w§ 87 cs (0,0) _ rfl HF.out.2 Tryz.underlying87 rfl (by rw [HSZ1.out.1]; exact size87)) rfl (.inl ⟨_,ts9,rfl,⟨cs,rfl,HSZ1.out.1,HSZ1.out.2.2⟩,HF.out.1.R,by rw [dState,← HN1.out,← HN2.out,← HN4.out,← HN5.out,← HN9.out],HF.out.1.M⟩)
theorem dSts_err {s:St}{f:Ft}(h:dMany Zd dState 12 s=.error f):dTake Z8 (dSts s)=.error f:=by
 by_cases c:dIs Zd s=true
 ·unfold dSts
  rw [if_pos c,h]
  rfl
 ·have c2:dIs Zd s=false:=by simpa using c
  rw [dMany_no c2] at h
  subst h
  rfl
theorem strat_p {w:World}{b G:Nat}{fa:Int}{fe:Value}{ts:List Tk}(h:Rp w b G fa fe ts):Calls zG 26 #[zP b] w (OutV (Cells 4) b G fa fe w (dBody (nf ts))):=by
 have hmf:∀ (fn:Fn) (first cap:Array Value) (w:World),(Instr.makeFunc fn first cap).run Tryz.prog w=.ok (.func fn first cap) w:=fun _ _ _ _=>rfl
 have HG0:=(GP.new h zA9 43 4 rfl (by simp [Value.oneCell'])).hid
 clear h
 obtain⟨W0,eW0⟩:∃ W,w.alloc (.cells zA9 43)=W:=⟨_,rfl⟩
 rw [eW0] at HG0
 have HEW:Hid (w.alloc (.cells zA9 43)=W0):=eW0
 clear eW0
 go_enter Tryz.func26,Tryz.ntmps26
 have cT:=take_p HG0.out.R ZQ
 go_wp2_with fail
 try rw [HEW.out]
 refine cT.mono ?_
 rintro e w1 (⟨_,ts1,rfl,⟨tk1,rfl⟩,hr,hn,hm⟩ | ⟨f,rfl,hf,hm⟩)
 rotate_left
 ·exact⟨rfl,.inr ⟨f,rfl,by rw [dBody,hf]; rfl,HG0.out.M.trans hm (fun _ e=>.inl e)⟩⟩
 have HG1:=(HG0.out.mv hm hr).hid
 have HN1:Hid (nf ts1=dTake ZQ (nf ts)):=hn
 clear cT hr hn hm HG0
 clear HEW
 generalize Value.agg (tkA tk1)=D1
 have cN:=name_p HG1.out.R
 go_wp2_with fail
 refine cN.mono ?_
 rintro e w2 (⟨_,ts2,rfl,⟨x2,rfl⟩,hr,hn,hm⟩ | ⟨f,rfl,hf,hm⟩)
 rotate_left
 ·exact⟨rfl,.inr ⟨f,rfl,by rw [dBody,← HN1.out,hf]; rfl,HG1.out.M.trans hm (fun _ e=>.inl e)⟩⟩
 have HG2:=(HG1.out.mv hm hr).hid
 have HN2:Hid (nf ts2=dName (nf ts1)):=hn
 clear cN hr hn hm HG1
 have HGp:=(HG2.out.push #[.string x2,.slice none 0 0,.slice none 0 0,.slice none 0 0] 43 4 rfl (by simp [Value.oneCell'])).hid
 go_upto_region 3 with fail
 obtain⟨N3,eN3⟩:∃ q,w2§=q:=⟨_,rfl⟩
 obtain⟨W2,eW2⟩:∃ W,w2.alloc (.cells #[.string x2,.slice none 0 0,.slice none 0 0,.slice none 0 0] 43)=W:=⟨_,rfl⟩
 rw [eW2] at HGp ⊢
 rw [eN3] at HGp ⊢
 clear eW2 eN3 HG2
 have cT:=take_p HGp.out.R Zs
 go_wp2_with fail
 refine cT.mono ?_
 rintro e w3 (⟨_,ts3,rfl,⟨tk3,rfl⟩,hr,hn,hm⟩ | ⟨f,rfl,hf,hm⟩)
 rotate_left
 ·exact⟨rfl,.inr ⟨f,rfl,by rw [dBody,← HN1.out,← HN2.out,hf]; rfl,HGp.out.M.trans hm (fun _ e=>.inl e)⟩⟩
 have HG3:=(HGp.out.mv hm hr).hid
 have HN3:Hid (nf ts3=dTake Zs (nf ts2)):=hn
 clear cT hr hn hm HGp
 generalize Value.agg (tkA tk3)=D3
 have cL:Calls zG 66 #[zP b,.string Zu,zI 12,.func (.func 67) #[zP b] #[]] _ _:=list66_p dReg (fun V ts h=>reg_p h) HG3.out.R Zu 12 (by omega)
 go_wp2_with fail
 refine cL.mono ?_
 rintro e w4 (⟨aL4,nL4,cL4,ts4,rfl,hx,hd,hr,hn,hz,hle,hm⟩ | ⟨f,rfl,hf,hm⟩)
 rotate_left
 ·exact⟨rfl,.inr ⟨f,rfl,by rw [dBody,← HN1.out,← HN2.out,← HN3.out,hf]; rfl,HG3.out.M.trans hm (fun _ e=>.inl e)⟩⟩
 have HG4:=(HG3.out.mv hm hr).hid
 have HN4:Hid (nf ts4=dMany Zu dReg 12 (nf ts3)):=hn
 have HLX4:Hid ((∃ xs,w4.ownsRow 0 100 11 (.slice aL4 nL4 cL4) nL4 xs∧∀ u ∈ xs,u.oneCell'=true)∧nL4≤100):=⟨hx,hle⟩
 have HLZ4:Hid ((nL4=0→nf ts4=nf ts3∧dIs Zu (nf ts3)=false)∧(nL4≠0→dIs Zu (nf ts3)=true)):=hz
 clear cL hr hn hm hx hd hz hle HG3
 obtain⟨av1,ac1,af1⟩:=(HG4.out.B (N3,43,4) (by simp)).1.cell 1 (show 1 < 4 by omega)
 have HG5:Hid (GP w b G fa fe (w4.setCell ⟨N3,1,none⟩ (.slice aL4 nL4 cL4)) _ ts4):=HG4.out.set (N:=N3) (T:=43) (n:=4) (by simp) 1 (.slice aL4 nL4 cL4) rfl
 go_upto_region 5 with fail
 obtain⟨W5,eW5⟩:∃ Y,w4.setCell ⟨N3,1,none⟩ (.slice aL4 nL4 cL4)=Y:=⟨_,rfl⟩
 rw [eW5] at HG5 ⊢
 clear eW5 ac1 af1 HG4
 have cL:Calls zG 68 #[zP b,.string Zz,zI 4,.func (.func 69) #[zP b] #[]] _ _:=list68_p dSlot (fun V ts h=>slot_p h) HG5.out.R Zz 4 (by omega)
 go_wp2_with fail
 refine cL.mono ?_
 rintro e w6 (⟨aL6,nL6,cL6,ts6,rfl,hx,hd,hr,hn,hz,hle,hm⟩ | ⟨f,rfl,hf,hm⟩)
 rotate_left
 ·exact⟨rfl,.inr ⟨f,rfl,by rw [dBody,← HN1.out,← HN2.out,← HN3.out,← HN4.out,dSlots_many,hf]; rfl,HG5.out.M.trans hm (fun _ e=>.inl e)⟩⟩
 have HG6:=(HG5.out.mv hm hr).hid
 have HN6:Hid (nf ts6=dMany Zz dSlot 4 (nf ts4)):=hn
 have HLX6:Hid ((∃ xs,w6.ownsRow 0 102 2 (.slice aL6 nL6 cL6) nL6 xs∧∀ u ∈ xs,u.oneCell'=true)∧nL6≤100):=⟨hx,hle⟩
 have HLZ6:Hid ((nL6=0→nf ts6=nf ts4∧dIs Zz (nf ts4)=false)∧(nL6≠0→dIs Zz (nf ts4)=true)):=hz
 clear cL hr hn hm hx hd hz hle HG5
 obtain⟨av2,ac2,af2⟩:=(HG6.out.B (N3,43,4) (by simp)).1.cell 2 (show 2 < 4 by omega)
 have HG7:Hid (GP w b G fa fe (w6.setCell ⟨N3,2,none⟩ (.slice aL6 nL6 cL6)) _ ts6):=HG6.out.set (N:=N3) (T:=43) (n:=4) (by simp) 2 (.slice aL6 nL6 cL6) rfl
 go_upto_region 6 with fail
 obtain⟨W7,eW7⟩:∃ Y,w6.setCell ⟨N3,2,none⟩ (.slice aL6 nL6 cL6)=Y:=⟨_,rfl⟩
 rw [eW7] at HG7 ⊢
 clear eW7 ac2 af2 HG6
 have cL:Calls zG 70 #[zP b,.string Zd,zI 12,.func (.func 71) #[zP b] #[]] _ _:=list70_p dState (fun V ts h=>state_p h) HG7.out.R Zd 12 (by omega)
 go_wp2_with fail
 refine cL.mono ?_
 rintro e w8 (⟨aL8,nL8,cL8,ts8,rfl,hx,hd,hr,hn,hz,hle,hm⟩ | ⟨f,rfl,hf,hm⟩)
 rotate_left
 ·exact⟨rfl,.inr ⟨f,rfl,by rw [dBody,← HN1.out,← HN2.out,← HN3.out,← HN4.out,dSlots_many,← HN6.out,dSts_err hf],HG7.out.M.trans hm (fun _ e=>.inl e)⟩⟩
 have HG8:=(HG7.out.mv hm hr).hid
 have HN8:Hid (nf ts8=dMany Zd dState 12 (nf ts6)):=hn
 have HLX8:Hid ((∃ xs,w8.ownsRow 0 87 3 (.slice aL8 nL8 cL8) nL8 xs∧∀ u ∈ xs,u.oneCell'=true)∧nL8≤100):=⟨hx,hle⟩
 have HLZ8:Hid ((nL8=0→nf ts8=nf ts6∧dIs Zd (nf ts6)=false)∧(nL8≠0→dIs Zd (nf ts6)=true)):=hz
 clear cL hr hn hm hx hd hz hle HG7
 have HC9:Hid (Cl (w8.setCell ⟨N3,3,none⟩ (.slice aL8 nL8 cL8)) N3 3 (.slice aL8 nL8 cL8)):=(HG8.out.B (N3,43,4) (by simp)).1.put (show 3 < 4 by omega) _
 obtain⟨av3,ac3,af3⟩:=(HG8.out.B (N3,43,4) (by simp)).1.cell 3 (show 3 < 4 by omega)
 have HG9:Hid (GP w b G fa fe (w8.setCell ⟨N3,3,none⟩ (.slice aL8 nL8 cL8)) _ ts8):=HG8.out.set (N:=N3) (T:=43) (n:=4) (by simp) 3 (.slice aL8 nL8 cL8) rfl
 go_upto_region 7 with fail
 obtain⟨W9,eW9⟩:∃ Y,w8.setCell ⟨N3,3,none⟩ (.slice aL8 nL8 cL8)=Y:=⟨_,rfl⟩
 rw [eW9] at HG9 HC9 ⊢
 clear eW9 ac3 af3 HG8
 have k3:=HC9.out.cell
 have HBD:Hid (dBody (nf ts)=dTake Z8 (dSts (nf ts6))):=by
  show _=_
  rw [dBody,← HN1.out,← HN2.out,← HN3.out,← HN4.out,dSlots_many,← HN6.out]
 by_cases h0:nL8=0
 ·have h1:¬ (nL8:Int) > 0:=by omega
  have h2:decide ((nL8:Int) > 0)=false:=decide_eq_false h1
  have h3:decide (0 < (nL8:Int))=false:=decide_eq_false (by omega)
  obtain⟨z1,z2⟩:=HLZ8.out.1 h0
  have HSW:Hid (dBody (nf ts)=dTake Z8 (dWrong 130 (nf ts8))):=by
   show _=_
   rw [HBD.out,z1]
   show dTake Z8 (if _ then _ else _)=_
   rw [z2]
   rfl
  clear z1 z2
  cases ts8 with
  | nil =>
   obtain⟨a9,c9,g9⟩:=HG9.out.R.1
   have cN:=need_lex g9 130
   clear g9
   go_wp2_with fail
   refine cN.mono ?_
   rintro e u1 ⟨rfl,hb⟩
   have HE9 : Hid (dTake Z8 (dWrong 130 (nf [])) = .error .lex) := rfl
   exact⟨rfl,.inr ⟨.lex,rfl,HSW.out.trans HE9.out,HG9.out.M.trans (Mv.ofBelow hb) (fun _ e=>.inl e)⟩⟩
  | cons t8 r8 =>
   obtain⟨a9,c9,g9⟩:=HG9.out.R.1
   have cN:=need_tok g9 130
   clear g9
   go_wp2_with fail
   refine cN.mono ?_
   rintro e u1 ⟨rfl,hb⟩
   have HE9:Hid (dTake Z8 (dWrong 130 (nf (t8 :: r8)))=.error (.tok 130 t8.p)):=rfl
   exact⟨rfl,.inr ⟨.tok 130 t8.p,rfl,HSW.out.trans HE9.out,HG9.out.M.trans (Mv.ofBelow hb) (fun _ e=>.inl e)⟩⟩
 ·have h1:(nL8:Int) > 0:=by omega
  have h2:decide ((nL8:Int) > 0)=true:=decide_eq_true h1
  have h3:decide (0 < (nL8:Int))=true:=decide_eq_true (by omega)
  have HSW:Hid (dBody (nf ts)=dTake Z8 (nf ts8)):=by
   show _=_
   rw [HBD.out,HN8.out]
   show dTake Z8 (if _ then _ else _)=_
   rw [if_pos (HLZ8.out.2 h0)]
  have h5:0 < nL8:=by omega
  have h6:decide (0 < nL8)=true:=decide_eq_true h5
  go_wp2_with fail
  have cN:=need_ok W9 b 130
  refine cN.mono ?_
  rintro e u1 ⟨rfl,e4⟩
  obtain rfl:=e4.symm
  clear k3 cN e4
  have cT:=take_p HG9.out.R Z8
  go_wp2_with fail
  refine cT.mono ?_
  rintro e wa (⟨_,tsa,rfl,⟨tka,rfl⟩,hr,hn,hm⟩ | ⟨f,rfl,hf,hm⟩)
  rotate_left
  ·exact⟨rfl,.inr ⟨f,rfl,by rw [HSW.out,hf],HG9.out.M.trans hm (fun _ e=>.inl e)⟩⟩
  have HGa:=(HG9.out.mv hm hr).hid
  have HNa:Hid (nf tsa=dTake Z8 (nf ts8)):=hn
  clear cT hr hn hm HG9
  generalize Value.agg (tkA tka)=Da
  obtain⟨cs,hc1,hc2,hc3⟩:=(HGa.out.B (N3,43,4) (by simp)).1
  obtain⟨old,ho1,ho2,ho3⟩:=(HGa.out.B (w§,43,4) (by simp)).1
  have HC:Hid (wa.heap[N3]? = some (.cells cs 43 (0,0))):=hc1
  have HO:Hid (wa.heap[w§]? = some (.cells old 43 (0,0))):=ho1
  have HF:Hid (GP w b G fa fe (wa.setRow w§ cs) _ tsa∧(wa.setRow w§ cs).heap[w§]? = some (.cells cs 43 (0,0))):=HGa.out.row (N:=w§) (T:=43) (n:=4) (by simp) cs hc2 hc3
  have HSZ1:Hid (cs.size=4∧old.size=4∧cs.all (·.oneCell')=true):=⟨hc2,ho2,hc3⟩
  clear hc1 hc2 hc3 ho1 ho2 ho3
  go_wp2_with (first | (refine wpList_load_row rfl 43 (.tmp 3) rfl N3 rfl 43 cs (0,0) _ HC.out Tryz.underlying43 rfl (by rw [HSZ1.out.1]; exact size43) ?_) | (refine wpList_store_row rfl 43 (.tmp 2) (.tmp 34) rfl w§ cs rfl rfl 43 old HO.out (by rw [HSZ1.out.1]; exact size43) (by rw [HSZ1.out.1,HSZ1.out.2.1]) HSZ1.out.2.2 ?_))
  exact bodyPost_ret (results_cell_row rfl _ _ w§ 43 cs (0,0) _ rfl HF.out.2 Tryz.underlying43 rfl (by rw [HSZ1.out.1]; exact size43)) rfl (.inl ⟨_,tsa,rfl,⟨cs,rfl,HSZ1.out.1,HSZ1.out.2.2⟩,HF.out.1.R,by rw [HSW.out,← HNa.out],HF.out.1.M⟩)
end Go.Proofs.YtkfabnchhjfjjaaGreatDoor
