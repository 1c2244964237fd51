import Derived.Test.YtoogodlnnijikaaGreatDoorA0
import Derived.Test.YtoogodlnnijikaaGreatDoorA41
namespace Go.Proofs.YtoogodlnnijikaaGreatDoor
open Go.RowKit
set_option linter.unusedVariables false
set_option linter.unusedSimpArgs false
theorem lit_size {m:Nd}(h:initE m=0):size m≤900000000:=by
 unfold initE at h
 rw [fs_zero] at h
 obtain⟨h1,h2⟩:=h
 have hf:formB m=true:=by
  unfold fE at h1
  by_cases hh:formB m=true
  ·exact hh
  ·rw [if_neg hh] at h1; cases h1
 cases m with
 | mk g a c ks =>
  simp only [formB,Bool.and_eq_true,oneH] at hf
  obtain⟨⟨_,hfit⟩,hks⟩:=hf
  by_cases h3:g.k=5∧g.o=1
  ·have hl:ks.length=1:=by
    unfold fitB at hfit
    rw [if_neg (by omega),if_neg (by omega),if_neg (by omega),if_neg (by omega),if_pos h3.1] at hfit
    simp only [Bool.and_eq_true,decide_eq_true_eq] at hfit
    exact hfit.1
   rw [if_pos (show (Nd.mk g a c ks).h.k=5∧(Nd.mk g a c ks).h.o=1 from h3),fs_zero] at h2
   match ks,hl with
   | [q],_ =>
    have hq:q.h.k=1:=by
     have h4:=h2.2
     unfold okE at h4
     by_cases h5:q.h.k=1
     ·exact h5
     ·have e:decide ((kid0 (Nd.mk g a c [q])).h.k=1)=false:=decide_eq_false (show ¬ q.h.k=1 from h5)
      rw [e] at h4
      cases h4
    simp only [formsB,Bool.and_true] at hks
    cases q with
    | mk g2 a2 c2 ks2 =>
     simp only [formB,Bool.and_eq_true,oneH] at hks
     obtain⟨⟨_,hfit2⟩,_⟩:=hks
     unfold fitB at hfit2
     rw [if_pos (show g2.k=1 from hq)] at hfit2
     simp only [Bool.and_eq_true,decide_eq_true_eq] at hfit2
     have:ks2 = []:=List.length_eq_zero_iff.1 hfit2.1
     subst this
     simp [size,sizes]
  ·rw [if_neg (show ¬ ((Nd.mk g a c ks).h.k=5∧(Nd.mk g a c ks).h.o=1) from h3)] at h2
   have hk:g.k=1:=by
    unfold okE at h2
    by_cases h5:g.k=1
    ·exact h5
    ·have e:decide ((Nd.mk g a c ks).h.k=1)=false:=decide_eq_false (show ¬ g.k=1 from h5)
     rw [e] at h2
     cases h2
   unfold fitB at hfit
   rw [if_pos hk] at hfit
   simp only [Bool.and_eq_true,decide_eq_true_eq] at hfit
   have:ks = []:=List.length_eq_zero_iff.1 hfit.1
   subst this
   simp [size,sizes]
theorem z9_of {S:StratM}(h:chkE S=none) (hy:StratY S):StratZ9 S:=by
 have F:=fine_iff.1 (chk_none h).1
 have c1:=cnt_zero F.rc
 have c2:=cnt_zero F.sc
 have c3:=cnt_zero F.tc
 refine⟨by omega,fun r hr=>?_,by omega,by omega,fun s hs=>?_⟩
 ·have h1:=F.r r hr
  unfold regE at h1
  rw [fs_zero,fs_zero] at h1
  exact lit_size h1.2.2
 ·have h1:=F.t s hs
  unfold stateE at h1
  rw [fs_zero,fs_zero,fsL_zero] at h1
  have c4:=cnt_zero h1.2.1
  refine⟨by omega,fun r hr=>?_⟩
  have h2:=h1.2.2 (ruleE r) (List.mem_map.2 ⟨r,hr,rfl⟩)
  unfold ruleE at h2
  rw [fs_zero,fs_zero] at h2
  have c5:=cnt_zero h2.2.1
  have y1:=hy s hs r hr
  refine⟨Nat.le_trans y1.1 (by decide),by omega,fun d hd=>?_⟩
  have y2:=y1.2 d hd
  exact⟨⟨Nat.le_trans y2.1 (by decide),Nat.le_trans y2.2.1 (by decide),Nat.le_trans y2.2.2.1 (by decide),Nat.le_trans y2.2.2.2 (by decide)⟩,Nat.le_trans y2.1 (by decide),Nat.le_trans y2.2.1 (by decide),Nat.le_trans y2.2.2.1 (by decide),Nat.le_trans y2.2.2.2 (by decide)⟩
theorem yz {S:StratM}(hy:StratY S):StratZ S:=fun s hs r hr=>⟨Nat.le_trans (hy s hs r hr).1 (by decide),fun d hd=>⟨Nat.le_trans ((hy s hs r hr).2 d hd).1 (by decide),Nat.le_trans ((hy s hs r hr).2 d hd).2.1 (by decide),Nat.le_trans ((hy s hs r hr).2 d hd).2.2.1 (by decide),Nat.le_trans ((hy s hs r hr).2 d hd).2.2.2 (by decide)⟩⟩
theorem z_zB {S:StratM}(h:StratZ S):zB S=true:=by
 simp only [zB,stZB,List.all_eq_true,Bool.and_eq_true,decide_eq_true_eq]
 intro s hs r hr
 refine⟨(h s hs r hr).1,fun d hd=>?_⟩
 have h2:=(h s hs r hr).2 d hd
 simp only [doZB,List.all_cons,List.all_nil,Bool.and_true,Bool.and_eq_true,decide_eq_true_eq]
 exact h2
theorem like_of {A B:StratM}(h:bStr A=bStr B) (hB:Twc B) (hz:StratZ B):Twc A∧StratZ A:=by
 refine⟨?_,zB_z ?_⟩
 ·obtain⟨p,n,e,k⟩:=hB
  exact⟨p,n,by rw [← chkE_b,h,chkE_b]; exact e,k⟩
 ·rw [← zB_b,h,zB_b]; exact z_zB hz
theorem regs_of {w:yW}{S:StratM}{R:List RegM}{v1 v2:Value}{h1 h2:Nat}{W w3:yW}(p:CpR w S R v1 v2 h1 h2 W) (B:yD w w3) (k:∀ b,b < W§→b < h1→w3.heap[b]? = W.heap[b]?) :
  (∃ a c,v1=.slice a R.length c∧SlAt w3 11 a c (R.map RegM.vals)):=by
 have ha:=p.a
 have hr:RA w w3 62 11 v1 (R.map RegM.vals):=⟨by rw [List.length_map]; exact p.r.of_block (fun q hq=>k q (p.r.lt q hq) (p.rn q hq).2),fun q hq=>by have:=(p.rn q hq).1; omega,B,fun x hx=>by obtain⟨y,_,rfl⟩:=List.mem_map.1 hx; rfl⟩
 obtain⟨a,c,e,hs,_⟩:=hr.sl (by decide)
 rw [List.length_map] at e
 exact⟨a,c,e,hs⟩
theorem regs_el {w:yW}{S:StratM}{R:List RegM}{v1 v2:Value}{h1 h2:Nat}{W w3:yW}(p:CpR w S R v1 v2 h1 h2 W) (k:∀ b,b < W§→b < h1→v1.ownBlock≠some b→w3.heap[b]? = W.heap[b]?):∀ x ∈ R,RegL w3 x :=
 fun x hx=>kndReg.bk _ _ _ x (fun b hb hp=>k b hb hp.2.1 hp.2.2) (p.re x hx).1 (p.re x hx).2
theorem slots_of {w:yW}{S:StratM}{R:List RegM}{v1 v2:Value}{h1 h2:Nat}{W w3:yW}(p:CpR w S R v1 v2 h1 h2 W) (B:yD w w3) (k:∀ b,b < W§→h1≤b→b < h2→w3.heap[b]? = W.heap[b]?) :
  (∃ a c,v2=.slice a S.ss.length c∧SlAt w3 2 a c (S.ss.map SlotM.vals)):=by
 have ha:=p.a
 have hr:RA w w3 65 2 v2 (S.ss.map SlotM.vals):=⟨by rw [List.length_map]; exact p.s.of_block (fun q hq=>k q (p.s.lt q hq) (p.sn q hq).1 (p.sn q hq).2),fun q hq=>by have:=(p.sn q hq).1; omega,B,fun x hx=>by obtain⟨y,_,rfl⟩:=List.mem_map.1 hx; rfl⟩
 obtain⟨a,c,e,hs,_⟩:=hr.sl (by decide)
 rw [List.length_map] at e
 exact⟨a,c,e,hs⟩
theorem states_of {w:yW}{S:StratM}{R:List RegM}{T:List StateM}{v1 v2 v3:Value}{h1 h2:Nat}{W w3:yW}(f:CpF w S R T v1 v2 v3 h1 h2 W) (B:yD w w3) (k:∀ b,b < W§→h2≤b→w3.heap[b]? = W.heap[b]?) :
  (∃ a c,v3=.slice a T.length c∧SlAt w3 3 a c (T.map StateM.vals)):=by
 have ha:=f.p.a
 have hb:=f.p.b
 have hr:RA w w3 68 3 v3 (T.map StateM.vals):=⟨by rw [List.length_map]; exact f.t.of_block (fun q hq=>k q (f.t.lt q hq) (f.tn q hq)),fun q hq=>by have:=f.tn q hq; omega,B,fun x hx=>by obtain⟨y,_,rfl⟩:=List.mem_map.1 hx; rfl⟩
 obtain⟨a,c,e,hs,_⟩:=hr.sl (by decide)
 rw [List.length_map] at e
 exact⟨a,c,e,hs⟩
theorem states_el {w:yW}{S:StratM}{R:List RegM}{T:List StateM}{v1 v2 v3:Value}{h1 h2:Nat}{W w3:yW}(f:CpF w S R T v1 v2 v3 h1 h2 W) (k:∀ b,b < W§→h2≤b→v3.ownBlock≠some b→w3.heap[b]? = W.heap[b]?):∀ x ∈ T,StateL w3 x :=
 fun x hx=>kndState.bk _ _ _ x (fun b hb hp=>k b hb hp.1 hp.2) (f.te x hx).1 (f.te x hx).2
def TwL (w3:yW) (vs:Array Value):Prop:=∃ S2:StratM,vs=S2.vals∧StratL w3 S2∧StratZ S2∧Twc S2
theorem add_reg {w:yW}{S:StratM}{R:List RegM}{T:List StateM}{v1 v2 v3 v':Value}{h1 h2:Nat}{W w3:yW}{r:RegM}(f:CpF w S R T v1 v2 v3 h1 h2 W) (hS:StratL w S) (hz:StratZ S) (hc:chkE S=none) (hr:r ∈ S.rs)
  (hA:RA w w3 62 11 v' (R.map RegM.vals ++ [r.vals])) (k:∀ b,b < W§→v1.ownBlock≠some b→w3.heap[b]? = W.heap[b]?):TwL w3 #[.string S.x,v',v2,v3]:=by
 have hb:=f.p.b
 have n1:∀ b,h1≤b→v1.ownBlock≠some b:=fun b hb e=>by have:=(f.p.rn b e).2; omega
 obtain⟨a1,c1,e1,s1,_⟩:=hA.sl (by decide)
 obtain⟨a2,c2,e2,s2⟩:=slots_of f.p hA.B (fun b hb h _=>k b hb (n1 b h))
 obtain⟨a3,c3,e3,s3⟩:=states_of f hA.B (fun b hb h=>k b hb (n1 b (by omega)))
 have x1:=regs_el f.p (fun b hb _ hn=>k b hb hn)
 have x3:=states_el f (fun b hb h _=>k b hb (n1 b (by omega)))
 rw [← List.map_singleton (f:=RegM.vals),← List.map_append] at s1 e1
 rw [List.length_map] at e1
 refine⟨⟨S.x,a1,c1,R ++ [r],a2,c2,S.ss,a3,c3,T⟩,by rw [e1,e2,e3]; rfl,⟨s1,fun x hx=>?_,s2,hS.2.2.2.1,s3,x3,hS.2.2.2.2.2.2⟩,?_⟩
 ·rcases List.mem_append.1 hx with hx | hx
  ·exact x1 x hx
  ·obtain rfl:=List.mem_singleton.1 hx; exact (hS.2.1 _ hr).on hA.B
 ·have e:bStr ⟨S.x,a1,c1,R ++ [r],a2,c2,S.ss,a3,c3,T⟩=bStr (addR S r):=by
   simp only [bStr,addR,List.map_append,f.p.rb,f.tb]
  have h:=like_of e (tw_reg hc hr) hz
  exact⟨h.2,h.1⟩
theorem add_slot {w:yW}{S:StratM}{R:List RegM}{T:List StateM}{v1 v2 v3 v':Value}{h1 h2:Nat}{W w3:yW}{r:SlotM}(f:CpF w S R T v1 v2 v3 h1 h2 W) (hS:StratL w S) (hz:StratZ S) (hc:chkE S=none) (hr:r ∈ S.ss)
  (hA:RA w w3 65 2 v' (S.ss.map SlotM.vals ++ [r.vals])) (k:∀ b,b < W§→v2.ownBlock≠some b→w3.heap[b]? = W.heap[b]?):TwL w3 #[.string S.x,v1,v',v3]:=by
 have n1:∀ b,b < h1→v2.ownBlock≠some b:=fun b hb e=>by have:=(f.p.sn b e).1; omega
 have n2:∀ b,h2≤b→v2.ownBlock≠some b:=fun b hb e=>by have:=(f.p.sn b e).2; omega
 obtain⟨a2,c2,e2,s2,_⟩:=hA.sl (by decide)
 obtain⟨a1,c1,e1,s1⟩:=regs_of f.p hA.B (fun b hb h=>k b hb (n1 b h))
 obtain⟨a3,c3,e3,s3⟩:=states_of f hA.B (fun b hb h=>k b hb (n2 b h))
 have x1:=regs_el f.p (fun b hb h _=>k b hb (n1 b h))
 have x3:=states_el f (fun b hb h _=>k b hb (n2 b h))
 rw [← List.map_singleton (f:=SlotM.vals),← List.map_append] at s2 e2
 rw [List.length_map] at e2
 refine⟨⟨S.x,a1,c1,R,a2,c2,S.ss ++ [r],a3,c3,T⟩,by rw [e1,e2,e3]; rfl,⟨s1,x1,s2,fun x hx=>?_,s3,x3,hS.2.2.2.2.2.2⟩,?_⟩
 ·rcases List.mem_append.1 hx with hx | hx
  ·exact hS.2.2.2.1 x hx
  ·obtain rfl:=List.mem_singleton.1 hx; exact hS.2.2.2.1 _ hr
 ·have e:bStr ⟨S.x,a1,c1,R,a2,c2,S.ss ++ [r],a3,c3,T⟩=bStr (addS S r):=by
   simp only [bStr,addS,f.p.rb,f.tb]
  have h:=like_of e (tw_slot hc hr) hz
  exact⟨h.2,h.1⟩
theorem add_state {w:yW}{S:StratM}{R:List RegM}{T:List StateM}{v1 v2 v3 v':Value}{h1 h2:Nat}{W w3:yW}{r:StateM}(f:CpF w S R T v1 v2 v3 h1 h2 W) (hS:StratL w S) (hz:StratZ S) (hc:chkE S=none) (hr:r ∈ S.ts)
  (hA:RA w w3 68 3 v' (T.map StateM.vals ++ [r.vals])) (k:∀ b,b < W§→v3.ownBlock≠some b→w3.heap[b]? = W.heap[b]?):TwL w3 #[.string S.x,v1,v2,v']:=by
 have hb:=f.p.b
 have n2:∀ b,b < h2→v3.ownBlock≠some b:=fun b hb e=>by have:=f.tn b e; omega
 obtain⟨a3,c3,e3,s3,_⟩:=hA.sl (by decide)
 obtain⟨a1,c1,e1,s1⟩:=regs_of f.p hA.B (fun b hb h=>k b hb (n2 b (by omega)))
 obtain⟨a2,c2,e2,s2⟩:=slots_of f.p hA.B (fun b hb _ h=>k b hb (n2 b h))
 have x1:=regs_el f.p (fun b hb h _=>k b hb (n2 b (by omega)))
 have x3:=states_el f (fun b hb _ hn=>k b hb hn)
 rw [← List.map_singleton (f:=StateM.vals),← List.map_append] at s3 e3
 rw [List.length_map] at e3
 refine⟨⟨S.x,a1,c1,R,a2,c2,S.ss,a3,c3,T ++ [r]⟩,by rw [e1,e2,e3]; rfl,⟨s1,x1,s2,hS.2.2.2.1,s3,fun x hx=>?_,hS.2.2.2.2.2.2⟩,?_⟩
 ·rcases List.mem_append.1 hx with hx | hx
  ·exact x3 x hx
  ·obtain rfl:=List.mem_singleton.1 hx; exact (hS.2.2.2.2.2.1 _ hr).on hA.B
 ·have e:bStr ⟨S.x,a1,c1,R,a2,c2,S.ss,a3,c3,T ++ [r]⟩=bStr (addT S r):=by
   simp only [bStr,addT,List.map_append,f.p.rb,f.tb]
  have hz2:StratZ (addT S r):=fun s hs=>by
   rcases List.mem_append.1 hs with hs | hs
   ·exact hz s hs
   ·obtain rfl:=List.mem_singleton.1 hs; exact hz _ hr
  have h:=like_of e (tw_state hc hr) hz2
  exact⟨h.2,h.1⟩
theorem cpf_all {w:yW}{S:StratM}{R:List RegM}{T:List StateM}{v1 v2 v3:Value}{h1 h2:Nat}{W:yW}(f:CpF w S R T v1 v2 v3 h1 h2 W):(#[.string S.x,v1,v2,v3]:Array Value).all (·.oneCell')=true:=by
 obtain⟨a1,c1,e1,-⟩:=f.p.r.form
 obtain⟨a2,c2,e2,-⟩:=f.p.s.form
 obtain⟨a3,c3,e3,-⟩:=f.t.form
 rw [e1,e2,e3]
 simp [Value.oneCell']
structure Tb (w:yW) (S:StratM) (R:List RegM) (T:List StateM) (v1 v2 v3:Value) (h1 h2 N:Nat) (W W4 u:yW):Prop where
 b:yD w W
 l:StratL W S
 f:CpF W S R T v1 v2 v3 h1 h2 W4
 b4:yD W W4
 k:yD W4 u
 n:W4§≤N
 s:u.heap[w§]? = (zC S.vals 27)
 x:u.heap[N]? = (zC #[.string S.x,v1,v2,v3] 27)
 t:Tab w
 t2:FTab w
 t3:Ety w
 c:chkE S=none
 z:StratZ S
theorem Tb.drew {w:yW}{S:StratM}{R:List RegM}{T:List StateM}{v1 v2 v3:Value}{h1 h2 N:Nat}{W W4 u:yW}(h:Tb w S R T v1 v2 v3 h1 h2 N W W4 u):Tb w S R T v1 v2 v3 h1 h2 N W W4 u.drew :=
 ⟨h.b,h.l,h.f,h.b4,⟨h.k.os,h.k.tape,h.k.output,h.k.size,h.k.block⟩,h.n,h.s,h.x,h.t,h.t2,h.t3,h.c,h.z⟩
theorem Tb.on {w:yW}{S:StratM}{R:List RegM}{T:List StateM}{v1 v2 v3:Value}{h1 h2 N:Nat}{W W4 u u':yW}(h:Tb w S R T v1 v2 v3 h1 h2 N W W4 u) (k:yD u u'):Tb w S R T v1 v2 v3 h1 h2 N W W4 u' :=
 ⟨h.b,h.l,h.f,h.b4,below2 h.k k,h.n,(k.block _ (zJ h.s).1).trans h.s,(k.block _ (zJ h.x).1).trans h.x,h.t,h.t2,h.t3,h.c,h.z⟩
theorem Tb.ra1 {w:yW}{S:StratM}{R:List RegM}{T:List StateM}{v1 v2 v3:Value}{h1 h2 N:Nat}{W W4 u:yW}(h:Tb w S R T v1 v2 v3 h1 h2 N W W4 u):RA W u 62 11 v1 (R.map RegM.vals)∧∀ q,v1.ownBlock=some q→q < W4§ :=
 ⟨⟨by rw [List.length_map]; exact h.f.p.r.of_block (fun q hq=>h.k.block q (h.f.p.r.lt q hq)),fun q hq=>by have:=(h.f.p.rn q hq).1; omega,below2 h.b4 h.k,fun x hx=>by obtain⟨y,_,rfl⟩:=List.mem_map.1 hx; rfl⟩,fun q hq=>h.f.p.r.lt q hq⟩
theorem Tb.ra2 {w:yW}{S:StratM}{R:List RegM}{T:List StateM}{v1 v2 v3:Value}{h1 h2 N:Nat}{W W4 u:yW}(h:Tb w S R T v1 v2 v3 h1 h2 N W W4 u):RA W u 65 2 v2 (S.ss.map SlotM.vals)∧∀ q,v2.ownBlock=some q→q < W4§ :=
 ⟨⟨by rw [List.length_map]; exact h.f.p.s.of_block (fun q hq=>h.k.block q (h.f.p.s.lt q hq)),fun q hq=>by have:=(h.f.p.sn q hq).1; have:=h.f.p.a; omega,below2 h.b4 h.k,fun x hx=>by obtain⟨y,_,rfl⟩:=List.mem_map.1 hx; rfl⟩,fun q hq=>h.f.p.s.lt q hq⟩
theorem Tb.ra3 {w:yW}{S:StratM}{R:List RegM}{T:List StateM}{v1 v2 v3:Value}{h1 h2 N:Nat}{W W4 u:yW}(h:Tb w S R T v1 v2 v3 h1 h2 N W W4 u):RA W u 68 3 v3 (T.map StateM.vals)∧∀ q,v3.ownBlock=some q→q < W4§ :=
 ⟨⟨by rw [List.length_map]; exact h.f.t.of_block (fun q hq=>h.k.block q (h.f.t.lt q hq)),fun q hq=>by have:=h.f.tn q hq; have:=h.f.p.a; have:=h.f.p.b; omega,below2 h.b4 h.k,fun x hx=>by obtain⟨y,_,rfl⟩:=List.mem_map.1 hx; rfl⟩,fun q hq=>h.f.t.lt q hq⟩
theorem Tb.put {w:yW}{S:StratM}{R:List RegM}{T:List StateM}{v1 v2 v3:Value}{h1 h2 N:Nat}{W W4 u w5:yW}(h:Tb w S R T v1 v2 v3 h1 h2 N W W4 u) {e:TypeId}{n j:Nat}{v v':Value}{L:List (Array Value)}(hv:∀ q,v.ownBlock=some q→q < W4§)
  (hr:RA W w5 e n v' L) (hs:u§≤w5§) (hq:∀ b,b < u§→v.ownBlock≠some b→w5.heap[b]? = u.heap[b]?) (hz:v'.ownBlock=v.ownBlock∨∃ g,v'.ownBlock=some g∧u§ < g) (x:Value) :
  RA W (w5.setCell N¢j x) e n v' L∧(∀ b,b < W4§→v.ownBlock≠some b→(w5.setCell N¢j x).heap[b]? = W4.heap[b]?)∧w5.heap[N]? = (zC #[.string S.x,v1,v2,v3] 27):=by
 have hN:=h.n
 have h4:=h.b4.size
 have hu:=(zJ h.x).1
 have hne:∀ k,v'.ownBlock=some k→k≠N:=fun k hk=>by
  rcases hz with e1 | ⟨g,e1,hg⟩
  ·rw [e1] at hk; have:=hv k hk; omega
  ·rw [e1] at hk; cases hk; omega
 refine⟨⟨hr.row.of_block (fun k hk=>Below.heap_setCell _ _ _ _ (hne k hk)),hr.nb,hr.B.setCell (p:=N¢j) (by show W§≤N; omega) x,hr.sz⟩,fun b hb hn=>?_,(hq N hu (fun e1=>by have:=hv N e1; omega)).trans h.x⟩
 exact (Below.heap_setCell _ _ _ _ (by show b≠N; omega)).trans ((hq b (by have:=h.k.size; omega) hn).trans (h.k.block b hb))
theorem tmod_lt {x:Int}{n:Nat}(hx:¬ x < 0) (hn:0 < n):∃ i:Nat,x.tmod (n:Int)=(i:Int)∧i < n:=by
 refine⟨x.toNat % n,?_,Nat.mod_lt _ hn⟩
 obtain⟨k,rfl⟩:∃ k:Nat,x=(k:Int):=⟨x.toNat,by omega⟩
 rw [Int.toNat_natCast]
 rfl
end Go.Proofs.YtoogodlnnijikaaGreatDoor
