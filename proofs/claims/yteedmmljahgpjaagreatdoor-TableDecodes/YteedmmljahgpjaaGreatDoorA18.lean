import Derived.Test.YteedmmljahgpjaaGreatDoorA0
import Derived.Test.YteedmmljahgpjaaGreatDoorA17
import Derived.Test.YteedmmljahgpjaaGreatDoorA16
namespace Go.Proofs.YteedmmljahgpjaaGreatDoor
open Go.RowKit
set_option linter.unusedVariables false
set_option linter.unusedSimpArgs false
theorem infL24:(Tryz.prog.info? 24).map (fun i=>(i.zero,i.size,i.bytes))=some (some (.slice none 0 0),1,24):=by kernel_rfl
theorem oneAt (x:Value):∀ j,j < 1→[x][j]? = some ((fun _=>x) j):=by
 intro j hj
 obtain rfl:j=0:=by omega
 rfl
def slW (b:Nat):Value:=.slice (some ⟨b,0,none⟩) 1 1
def MkG (v:World) (x:Value) (m:Int):Prop:=∃ b,x=slW b∧v.heap[b]? = some (.cells (nwTG m) 68 (0,0))
theorem MkG.below {v v':World}{x:Value}{m:Int}(h:MkG v x m) (k:Below v§ v v'):MkG v' x m:=by
 obtain⟨b,e,hb⟩:=h
 exact⟨b,e,(k.block b (Array.getElem?_eq_some_iff.1 hb).1).trans hb⟩
theorem MkG.set {v:World}{x:Value}{m:Int}(h:MkG v x m) {b q:Nat}{cs:Array Value}{fr:Nat × Nat}(hb:v.heap[b]? = some (.cells cs 69 fr)) (u:Value):MkG (v.setCell ⟨b,q,none⟩ u) x m:=by
 obtain⟨b',e,hb'⟩:=h
 refine⟨b',e,?_⟩
 rw [Below.heap_setCell _ _ _ _ (fun e1=>?_)]
 ·exact hb'
 ·have e2:b'=b:=e1
  subst e2
  rw [hb] at hb'
  simp at hb'
theorem MkG.grown {v v':World}{x:Value}{m:Int}(h:MkG v x m) {r:Option Nat}(hg:v.grownBy v' r) (hr:∀ b,r=some b→∃ cs t fr,v.heap[b]? = some (.cells cs t fr)∧t≠68):MkG v' x m:=by
 obtain⟨b,e,hb⟩:=h
 refine⟨b,e,(hg.block b (Array.getElem?_eq_some_iff.1 hb).1 (fun e1=>?_)).trans hb⟩
 obtain⟨cs,t,fr,h1,h2⟩:=hr b e1.symm
 rw [hb] at h1
 simp at h1
 exact h2 h1.2.1.symm
section
variable {w v v' : World} {g N : Nat} {V : Nat → Value} {n : Nat → Nat} {C D M A : Nat → Nat → Value} {i k : Nat} {U : Nat → Value} {lv X : Value}
theorem P1.below {e:TypeId}{s:Nat}(ap:Aprt w g N V) (h:P1 e s w v g N V n C) (hb:Below v§ v v'):P1 e s w v' g N V n C:=by
 refine⟨fun j hj=>(h.row j hj).of_block (fun b hbb=>hb.block b ((h.row j hj).lt b hbb)),fun j hj=>?_,?_⟩
 ·rw [hb.cell (show (⟨g,j,none⟩:Addr).block < _ from Nat.lt_of_lt_of_le ap.gl h.mv.size)]; exact h.cell j hj
 ·exact h.mv.trans (F':=fun _=>False) ⟨hb.os,hb.tape,hb.output,hb.size,fun b hbb _=>hb.block b hbb⟩ (fun b e=>e.elim)
def Q1 (w v:World) (g N:Nat) (V:Nat→Value) (n:Nat→Nat) (i k:Nat):Prop:=∃ D,P1 69 1 w v g N V n D∧(∀ j q,j < N→q < n j→∃ ao m c,D j q=.slice ao m c)∧∀ j q,j < N→q < n j→(j < i∨(j=i∧q < k))→MkG v (D j q) (spI j q)
theorem Q1.hid (h:Q1 w v g N V n i k):Hid (Q1 w v g N V n i k):=h
theorem Q1.start (h:P1 69 1 w v g N V n C) (hC:∀ j q,j < N→q < n j→∃ ao m c,C j q=.slice ao m c):Q1 w v g N V n 0 0:=⟨C,h,hC,fun j q _ _ e=>by omega⟩
theorem Q1.next (h:Q1 w v g N V n i (n i)):Q1 w v g N V n (i+1) 0:=by
 obtain⟨D,h1,h2,h3⟩:=h
 refine⟨D,h1,h2,fun j q hj hq e=>h3 j q hj hq ?_⟩
 by_cases e1:j < i
 ·exact .inl e1
 ·have e2:j=i:=by omega
  subst e2
  exact .inr ⟨rfl,hq⟩
theorem Q1.drew (h:Q1 w v g N V n i k):Q1 w v.drew g N V n i k:=by
 obtain⟨D,h1,h2,h3⟩:=h
 exact⟨D,h1.drew,h2,h3⟩
theorem Q1.mark (ap:Aprt w g N V) {b c:Nat}(h:Q1 w v g N V n i k) (hi:i < N) (hk:k < n i) (hV:V i=.slice (some ⟨b,0,none⟩) (n i) c) :
  Q1 w ((v.alloc (.cells (nwTG (spI i k)) 68)).setCell ⟨b,k,none⟩ (slW v§)) g N V n i (k+1):=by
 obtain⟨D,h1,h2,h3⟩:=h
 have bn:=Bn v (.cells (nwTG (spI i k)) 68)
 have h1':=h1.below ap bn
 obtain⟨cs,fr,hkb⟩:=(h1'.row i hi).kind b (by rw [hV]; rfl)
 refine⟨_,h1'.put ap k hi hV (slW v§),fun j q hj hq=>?_,fun j q hj hq e=>?_⟩
 ·by_cases e1:j=i∧q=k
  ·simp only [e1,and_self,if_true]; exact⟨_,_,_,rfl⟩
  ·simp only [e1,if_false]; exact h2 j q hj hq
 ·by_cases e1:j=i∧q=k
  ·obtain⟨rfl,rfl⟩:=e1
   simp only [and_self,if_true]
   exact MkG.set ⟨v§,rfl,Hn v _⟩ hkb _
  ·simp only [e1,if_false]
   exact ((h3 j q hj hq (by omega)).below bn).set hkb _
def Q2 (w v:World) (g N:Nat) (V:Nat→Value) (n:Nat→Nat) (M:Nat→Nat→Value) (i:Nat) (U:Nat→Value) (lv:Value):Prop :=
 ∃ A,P2 69 24 1 8 w v g N V n M A i U lv∧(∀ j q,j < N→q < n j→A j q=M j q)∧(∀ j q,j < N→q < n j→MkG v (M j q) (spI j q))∧∀ j q,j < i→q < 8→MkG v (A j (n j+q)) (bhI j q)
def Q3 (w v:World) (g N:Nat) (V:Nat→Value) (n:Nat→Nat) (M:Nat→Nat→Value) (i:Nat) (U:Nat→Value) (lv:Value) (k:Nat) (X:Value):Prop :=
 ∃ A,P3 69 24 1 8 w v g N V n M A i U lv k X∧(∀ j q,j < N→q < n j→A j q=M j q)∧(∀ j q,j < N→q < n j→MkG v (M j q) (spI j q))∧∀ j q,(j < i∧q < 8)∨(j=i∧q < k)→MkG v (A j (n j+q)) (bhI j q)
theorem Q2.hid (h:Q2 w v g N V n M i U lv):Hid (Q2 w v g N V n M i U lv):=h
theorem Q3.hid (h:Q3 w v g N V n M i U lv k X):Hid (Q3 w v g N V n M i U lv k X):=h
theorem Q1.done (h:Q1 w v g N V n N 0):∃ M,Q2 w v g N V n M 0 (fun _=>.slice none 0 0) (.slice none 0 0):=by
 obtain⟨D,h1,h2,h3⟩:=h
 exact⟨D,D,h1.done,fun _ _ _ _=>rfl,fun j q hj hq=>h3 j q hj hq (.inl hj),fun j q hj=>by omega⟩
theorem Q2.begin (ap:Aprt w g N V) (h:Q2 w v g N V n M i U lv) (hi:i < N):Q3 w v g N V n M i U lv 0 (V i):=by
 obtain⟨A,h1,h2,h3,h4⟩:=h
 exact⟨A,h1.begin ap hi (fun q hq=>(h2 i q hi (by omega)).symm),h2,h3,fun j q e=>e.elim (fun e=>h4 j q e.1 e.2) (fun e=>by omega)⟩
theorem Q3.form (h:Q3 w v g N V n M i U lv k X):∃ ao c,X=.slice ao (n i+k) c:=by
 obtain⟨A,h1,_⟩:=h
 exact h1.form
theorem P3.congrA {e le:TypeId}{s K:Nat}{A B:Nat→Nat→Value}(h:P3 e le s K w v g N V n M A i U lv k X) (h1:∀ j,j < i→∀ q,q < (n j+K) * s→A j q=B j q) (h2:∀ q,q < (n i+k) * s→A i q=B i q):P3 e le s K w v g N V n M B i U lv k X :=
 ⟨h.rd,h.row,fun j hj=>(h.urow j hj).congr (h1 j hj),h.uown,h.udis,h.xrow.congr h2,h.xown,h.xdis,h.long,h.lnew,h.cell,h.mv⟩
theorem append_markW {ops:Array Oper}{rest:List Oper}{o:Oper}{a:Act}{Q:Exit→Act→World→Prop}(hgd:o.guard=none) (d x:Operand)
  (ho:o.op=.call { callee:=.builtin .append,args:=#[d,x],argTypes:=#[24,24] }) (ap:Aprt w g N V) (hi:i < N) (hk:k < 8) (h:Q3 w v g N V n M i U lv k X) (hs:a.eval d=X) (hx:a.eval x=.slice (some ⟨v§+1,0,none⟩) 1 1) (hlen:n i+k≤1000000000)
  (hK:∀ X' v',Q3 w v' g N V n M i U lv (k+1) X'→wpList Tryz.prog ops Q rest (a.put o.dst X') v') :
  wpList Tryz.prog ops Q (o :: rest) a ((v.alloc (.cells (nwTG (bhI i k)) 68)).alloc (.cells #[slW v§] 69)):=by
 obtain⟨A,h1,h2,h3,h4⟩:=h
 obtain⟨i0,h0,hz0,hz1,hz2⟩:=info_parts inf69
 have b1:=Bn v (.cells (nwTG (bhI i k)) 68)
 have hm:(v.alloc (.cells (nwTG (bhI i k)) 68)).heap[v§]? = some (.cells (nwTG (bhI i k)) 68 (0,0)):=Hn v _
 have hsz:(v.alloc (.cells (nwTG (bhI i k)) 68))§=v§+1:=Sa _ _
 obtain⟨v1,e1⟩:∃ v1,v1=v.alloc (.cells (nwTG (bhI i k)) 68):=⟨_,rfl⟩
 rw [← e1] at b1 hm hsz ⊢
 have b2:=Bn v1 (.cells #[slW v§] 69)
 obtain⟨v2,e2⟩:∃ v2,v2=v1.alloc (.cells #[slW v§] 69):=⟨_,rfl⟩
 have hn2:v2.heap[v1§]? = some (.cells #[slW v§] 69 (0,0)):=by rw [e2]; exact Hn v1 _
 rw [← e2] at b2 ⊢
 have b3:Below v§ v v2:=Qa b1 b2
 obtain⟨B,eB⟩:∃ B:Nat→Nat→Value,B=fun j q=>if j=i∧q=n i+k then slW v§ else A j q:=⟨_,rfl⟩
 have hB:∀ j q,¬ (j=i∧q=n i+k)→B j q=A j q:=fun j q e=>by rw [eB]; exact if_neg e
 have hB1:B i (n i+k)=slW v§:=by rw [eB]; exact if_pos ⟨rfl,rfl⟩
 have h':=(h1.congrA (B:=B) (fun j hj q hq=>(hB j q (by omega)).symm) (fun q hq=>(hB i q (by omega)).symm)).call ap b3
 obtain⟨X',v',r1,r2,r3⟩:=J2 (P:=Tryz.prog) v2 24 o.type 69 i0 _ 1 24 Tryz.underlying24 h0 hz0 hz1 hz2 rfl (by decide) X (n i+k) _ h'.xrow ⟨v1§,0,none⟩ [slW v§] rfl (World.news_of_block hn2) (by intro u hu; simp at hu; subst hu; rfl) (by unfold maxLen; omega) (by omega)
 rw [← hsz] at hx
 have hA:∀ q,q < n i * 1→B i q=M i q:=fun q hq=>(hB i q (fun e=>by omega)).trans (h2 i q hi (by omega))
 have gone:∀ {y:Value}{m:Int},MkG v2 y m→MkG v' y m:=by
  intro y m hy
  rcases r3 with ⟨q,e3,_,hg⟩ | ⟨_,hg⟩
  ·refine hy.grown hg (fun b hb=>?_)
   cases hb
   obtain⟨cs,fr,hq⟩:=h'.xrow.kind q e3
   exact⟨cs,69,fr,hq,by decide⟩
  ·exact hy.grown hg (fun b hb=>by cases hb)
 refine wpList_plain hgd fun K hK'=>?_
 unfold Oper.wp execOp
 simp only [ho,resolve,invoke,builtin,Sem.run_bind,Sem.run_pure,Result.andThen_ok,List.map_toArray,List.map_cons,List.map_nil,hs,hx,r1]
 refine hK' _ _ (hK X' v' ⟨B,h'.app (by decide) ap hi hA ?_ r3,fun j q hj hq=>?_,fun j q hj hq=>gone ((h3 j q hj hq).below b3),fun j q e=>gone ?_⟩)
 ·have hr:=Row.snoc (x:=fun _=>slW v§) r2 rfl (oneAt _)
  refine (show RowX v' 69 1 X' (n i+(k+1)) _ from .inl hr).congr fun j hj=>?_
  by_cases e:j < (n i+k) * 1
  ·simp only [e,if_true]
  ·simp only [e,if_false]
   rw [show j=n i+k by omega,hB1]
 ·rw [hB j q (fun e=>by obtain⟨rfl,e⟩:=e; omega)]
  exact h2 j q hj hq
 ·by_cases e5:j=i∧q=k
  ·obtain⟨rfl,rfl⟩:=e5
   rw [hB1]
   exact MkG.below (v:=v1) ⟨_,rfl,hm⟩ b2
  ·rw [hB j _ (fun e=>by obtain⟨rfl,e⟩:=e; omega)]
   exact (h4 j q (by omega)).below b3
theorem append_longW {ops:Array Oper}{rest:List Oper}{o:Oper}{a:Act}{Q:Exit→Act→World→Prop}(hgd:o.guard=none) (d x:Operand)
  (ho:o.op=.call { callee:=.builtin .append,args:=#[d,x],argTypes:=#[49,49] }) (ap:Aprt w g N V) (h:Q3 w v g N V n M i U lv 8 X) (hX1:X.oneCell'=true) (hs:a.eval d=lv) (hx:a.eval x=.slice (some ⟨v§,0,none⟩) 1 1) (hlen:i≤1000000)
  (hK:∀ lv' v',Q2 w v' g N V n M (i+1) (fun j=>if j=i then X else U j) lv'→wpList Tryz.prog ops Q rest (a.put o.dst lv') v') :
  wpList Tryz.prog ops Q (o :: rest) a (v.alloc (.cells #[X] 24)):=by
 obtain⟨A,h1,h2,h3,h4⟩:=h
 obtain⟨i0,h0,hz0,hz1,hz2⟩:=info_parts infL24
 have bn:=Bn v (.cells #[X] 24)
 have h':=h1.call ap bn
 refine wpList_append_own_at _ hgd d x 49 ho 0 24 i0 _ 1 24 Tryz.underlying49 h0 hz0 hz1 hz2 rfl (by decide) lv i _ hs h'.long ⟨v§,0,none⟩ 1 1 [X] hx rfl (World.news_of_block (Hn v _)) (by intro u hu; simp at hu; rw [hu]; exact hX1) (by unfold maxLen; omega) (by omega) (Nat.zero_le _) ?_
 intro lv' v' r1 r2 _ r4
 have gone:∀ {y:Value}{m:Int},MkG v y m→MkG v' y m:=by
  intro y m hy
  refine (hy.below bn).grown r2 (fun b hb=>?_)
  obtain⟨cs,fr,hq⟩:=h'.long.kind b hb
  exact⟨cs,24,fr,hq,by decide⟩
 refine hK lv' v' ⟨A,h'.fin (by decide) ap ?_ r2 r4,h2,fun j q hj hq=>gone (h3 j q hj hq),fun j q hj hq=>gone (h4 j q ?_)⟩
 ·have hr:=Row.snoc (x:=fun _=>X) r1 rfl (fun j hj=>by obtain rfl:j=0:=(by omega); rfl)
  refine hr.congr fun j hj=>?_
  by_cases e:j < i * 1
  ·rw [if_pos e,if_neg (show ¬ j=i by omega)]
  ·rw [if_neg e,if_pos (show j=i by omega)]
 ·omega
theorem Q2.look (h:Q2 w v g N V n M N U lv) (hi:i < N) :
  ∃ gl lc bu cu,lv=.slice (some ⟨gl,0,none⟩) N lc∧v.cell? ⟨gl,i,none⟩=some (.slice (some ⟨bu,0,none⟩) (n i+8) cu) ∧
   (∀ q,q < n i→∃ b,RdO v 1 (V i) (n i) (M i)∧M i q=slW b∧v.cell? ⟨bu,q,none⟩=some (slW b)∧v.cell? ⟨b,0,none⟩=some (zI (spI i q))) ∧
   (∀ q,q < 8→∃ b,v.cell? ⟨bu,n i+q,none⟩=some (slW b)∧v.cell? ⟨b,0,none⟩=some (zI (bhI i q))):=by
 obtain⟨A,h1,h2,h3,h4⟩:=h
 obtain⟨gl,lc,bu,cu,e1,e2,e3,e4⟩:=h1.look (by decide) (by decide) hi
 refine⟨gl,lc,bu,cu,e1,e3,fun q hq=>?_,fun q hq=>?_⟩
 ·obtain⟨b,e5,e6⟩:=h3 i q hi hq
  refine⟨b,h1.rd i hi,e5,?_,Co e6 0⟩
  rw [e4 q (by omega),h2 i q hi hq,e5]
 ·obtain⟨b,e5,e6⟩:=h4 i q hi hq
  refine⟨b,?_,Co e6 0⟩
  rw [e4 _ (by omega),e5]
end
set_option maxRecDepth 100000
set_option maxHeartbeats 8000000
def nwQ (m:Int):Obj:=.cells #[zI m,zI 0,.int .u16 0,.int .u16 0,.slice none 0 0] 68
theorem ownW_any (w:World) (g N c:Nat) (V:Nat→Value) (n:Nat→Nat) (C:Nat→Nat→Value) (hC:∀ j q,j < N→q < n j→∃ ao m c,C j q=.slice ao m c) (hN:N≤1000000) (hn:∀ j,j < N→n j≤100000000) (ap:Aprt w g N V) (h:P1 69 1 w w g N V n C) :
  Calls zG 59 #[.slice (some ⟨g,0,none⟩) N c] w fun e w'=>e=.returned (.bool true)∧Mv w w' (bks N V):=by
 have AP:=ap.hid
 have HFm:Hid (∀ j,j < N→∃ ao c,V j=.slice ao (n j) c∧(0 < n j→∃ b,ao=some ⟨b,0,none⟩)):=fun j hj=>by
  obtain⟨ao,c,e,h1,_⟩:=(h.row j hj).form
  exact⟨ao,c,e,h1⟩
 have H1:=(Q1.start h hC).hid
 have HN:=zH hn
 clear ap h hn hC
 go_enter Tryz.func59,Tryz.ntmps59
 go_wp2
 go_loopw [4] (fun x wr=>∃ i:Nat,i≤N∧x=zI i∧Q1 w wr g N V n i 0) (fun x _=>N - (intOf x).toNat)
 case atStart=>exact⟨0,by omega,rfl,H1.out⟩
 case round =>
  obtain⟨i,hiN,rfl,hp⟩:=hrel
  clear H1
  by_cases hi:i < N
  ·have hi':(i:Int) < (N:Int):=by omega
   have hni:=HN.out i hi
   obtain⟨ao,cc,eV,hV0⟩:=HFm.out i hi
   have HP:=hp.hid
   have HV:=zH eV
   have H0:=zH hV0
   obtain⟨m,em⟩:∃ m,n i=m:=⟨_,rfl⟩
   have hcell:wr.cell? ⟨g,i,none⟩=some (V i):=by obtain⟨D,h1,_⟩:=hp; exact h1.cell i hi
   rw [eV,em] at hcell
   rw [em] at hni H0
   have HM:Hid (n i=m):=em
   clear hp eV hV0 em
   go_wp2
   go_loopw [5] (fun x wr2=>∃ k:Nat,k≤m∧x=zI k∧Q1 w wr2 g N V n i k) (fun x _=>m - (intOf x).toNat)
   case atStart=>exact⟨0,by omega,rfl,HP.out⟩
   case round =>
    obtain⟨k,hkm,rfl,hq⟩:=hrel
    clear hcell
    have HQ:=hq.hid
    by_cases hk:k < m
    ·have hk':(k:Int) < (m:Int):=by omega
     obtain⟨b,rfl⟩:=H0.out (by omega)
     have cS:=JR i k (by omega) (by omega)
     obtain⟨sp,esp⟩:∃ sp,spI i k=sp:=⟨_,rfl⟩
     have HSP:Hid (spI i k=sp):=esp
     rw [esp] at cS
     obtain⟨D,h1,h2,_⟩:=hq
     have h1':=h1.below AP.out (Bn _ (nwQ sp))
     have hcell:=h1.cell i hi
     have hcellA:=h1'.cell i hi
     rw [HV.out,HM.out] at hcell hcellA
     have hr:=h1.row i hi
     have hrA:=h1'.row i hi
     rw [HV.out,HM.out] at hr hrA
     have z4:=hr.cell (j:=k) (by omega)
     have f4:=hr.frozen k
     have z4A:=hrA.cell (j:=k) (by omega)
     have f4A:=hrA.frozen k
     obtain⟨ao,mm,c',eD⟩:=h2 i k hi (by rw [HM.out]; exact hk)
     rw [eD] at z4 z4A
     unfold nwQ at hcellA z4A f4A
     clear hr hrA h1 h1' h2 esp eD
     go_wp2_with fail
     go_region_with (go_at_call 91; refine (cS _).mono ?_; rintro _ vv ⟨rfl,q⟩; obtain rfl:=q.symm)
     all_goals go_wp2
     all_goals exact⟨⟨k+1,by omega,by go_num,(by have:=(HQ.out.mark AP.out hi (by rw [HM.out]; exact hk) (by rw [HV.out])).drew; rwa [HSP.out] at this)⟩,by simp only [intOf]; omega⟩
    ·obtain rfl:k=m:=by omega
     have hcell:wr.cell? ⟨g,i,none⟩=some (V i):=by obtain⟨D,h1,_⟩:=hq; exact h1.cell i hi
     rw [HV.out,HM.out] at hcell
     clear hq
     go_wp2
     refine⟨⟨i+1,by omega,by go_num,Q1.next (by rw [HM.out]; exact HQ.out)⟩,by simp only [intOf]; omega⟩
  ·obtain rfl:N=i:=by omega
   obtain⟨M,hM⟩:=hp.done
   have H2:=hM.hid
   clear hp hiN hi hM
   go_wp2
   go_loopw [3,6] (fun lv x wr3=>∃ (i:Nat) (U:Nat→Value),i≤N∧x=zI i∧Q2 w wr3 g N V n M i U lv) (fun _ x _=>N - (intOf x).toNat)
   case atStart=>exact⟨0,_,by omega,rfl,H2.out⟩
   case round =>
    obtain⟨i,U,hiN,rfl,hp⟩:=hrel
    clear H2
    by_cases hi:i < N
    ·have hi':(i:Int) < (N:Int):=by omega
     have hni:=HN.out i hi
     obtain⟨ao,cc,eV,_⟩:=HFm.out i hi
     have hcell:wr.cell? ⟨g,i,none⟩=some (V i):=by obtain⟨A,h1,_⟩:=hp; exact h1.cell i hi
     rw [eV] at hcell
     have hb:=hp.begin AP.out hi
     rw [eV] at hb
     have HP:=hb.hid
     clear hp eV hb
     go_wp2
     go_loopw [7,8] (fun X x wr4=>∃ k:Nat,k≤8∧x=zI k∧Q3 w wr4 g N V n M i U u3 k X) (fun _ x _=>8 - (intOf x).toNat)
     case atStart=>exact⟨0,by omega,rfl,HP.out⟩
     case round =>
      obtain⟨k,hk8,rfl,hq⟩:=hrel
      have HQ:=hq.hid
      clear hq hcell HP
      by_cases hk:k < 8
      ·have hk':(k:Int) < 8:=by omega
       have cS:=Jp i k (by omega) (by omega)
       go_wp2_with (first | (go_at_call 92; refine (cS _).mono ?_; rintro _ vv ⟨rfl,q⟩; obtain rfl:=q.symm) | (at_builtin; refine append_markW rfl (.tmp 54) (.tmp 61) rfl AP.out hi hk HQ.out rfl (by first | rfl | simp [Act.eval]) (by omega) ?_; intro X' v' hr'; have HR:=hr'.hid; clear hr'))
       exact⟨⟨k+1,by omega,by go_num,HR.out⟩,by simp only [intOf]; omega⟩
      ·obtain rfl:k=8:=by omega
       obtain⟨ax,cx,eX⟩:=HQ.out.form
       subst eX
       go_wp2_with (at_builtin; refine append_longW rfl (.tmp 63) (.tmp 65) rfl AP.out HQ.out rfl rfl rfl (by omega) ?_; intro lv' v' hr'; have HR:=hr'.hid; clear hr')
       exact⟨⟨i+1,_,by omega,by go_num,HR.out⟩,by simp only [intOf]; omega⟩
    ·obtain rfl:N=i:=by omega
     have H3:=hp.hid
     obtain⟨W,eW⟩:∃ W,W=wr:=⟨_,rfl⟩
     rw [← eW] at H3
     have HMv:Hid (Mv w W (bks N V)):=by obtain⟨A,h1,_⟩:=H3.out; exact h1.mv
     have HCl:Hid (∀ i,i < N→W.cell? ⟨g,i,none⟩=some (V i)):=by obtain⟨A,h1,_⟩:=H3.out; exact h1.cell
     clear hp hiN hi
     go_wp2
     rw [← eW]
     clear eW
     go_loopw [9] (fun x wz=>∃ i q:Nat,i≤N∧x=zI i∧wz=W.drewN q) (fun x _=>N - (intOf x).toNat)
     case atStart=>exact⟨0,0,by omega,rfl,rfl⟩
     case round =>
      obtain⟨i,nq0,hiN,rfl,rfl⟩:=hrel
      by_cases hi:i < N
      ·have hi':(i:Int) < (N:Int):=by omega
       have hni:=HN.out i hi
       obtain⟨gl,lc,bu,cu,e1,hu,hf1,hf2⟩:=H3.out.look hi
       have HF1:=zH hf1
       have HF2:=zH hf2
       have hv:=HCl.out i hi
       obtain⟨ao,cc,eV,h0⟩:=HFm.out i hi
       have H0:=zH h0
       have HV:=zH eV
       rw [eV] at hv
       obtain⟨m,em⟩:∃ m,n i=m:=⟨_,rfl⟩
       rw [em] at hv hni hu
       have HM:Hid (n i=m):=em
       obtain⟨m8,em8⟩:∃ m8,m+8=m8:=⟨_,rfl⟩
       rw [em8] at hu
       have HM8:Hid (m+8=m8):=em8
       subst e1
       clear eV em hf1 hf2 h0 em8
       go_wp2
       go_loopw [11] (fun x wz=>∃ k q:Nat,k≤m∧x=zI k∧wz=W.drewN q) (fun x _=>m - (intOf x).toNat)
       case atStart=>exact⟨0,nq0,by omega,rfl,rfl⟩
       case round =>
        obtain⟨k,nq1,hkm,rfl,rfl⟩:=hrel
        by_cases hk:k < m
        ·have hk':(k:Int) < (m:Int):=by omega
         obtain⟨bm,hR,eM,hy,hz⟩:=HF1.out k (by rw [HM.out]; exact hk)
         obtain⟨b,c',e3,hx⟩:=hR k (by rw [HM.out]; omega)
         rw [HV.out] at e3
         simp at e3
         obtain⟨rfl,rfl⟩:=e3
         rw [eM] at hx
         have cS:=JR i k (by omega) (by omega)
         obtain⟨sp,esp⟩:∃ sp,spI i k=sp:=⟨_,rfl⟩
         rw [esp] at cS hz
         clear hR eM esp
         have k8':(k:Int) < (m8:Int):=by have:=HM8.out; omega
         obtain⟨Y,eY⟩:∃ Y,W.drewN nq1=Y:=⟨_,rfl⟩
         have hvY:Y.cell? ⟨g,i,none⟩=some (.slice (some ⟨b,0,none⟩) m cc):=by rw [← eY]; exact hv
         have huY:Y.cell? ⟨gl,i,none⟩=some (.slice (some ⟨bu,0,none⟩) m8 cu):=by rw [← eY]; exact hu
         have hxY:Y.cell? ⟨b,k,none⟩=some (.slice (some ⟨bm,0,none⟩) 1 1):=by rw [← eY]; exact hx
         have hyY:Y.cell? ⟨bu,k,none⟩=some (.slice (some ⟨bm,0,none⟩) 1 1):=by rw [← eY]; exact hy
         have hzY:Y.cell? ⟨bm,0,none⟩=some (zI sp):=by rw [← eY]; exact hz
         have EY:Hid (W.drewN nq1=Y):=eY
         clear hv hu hx hy hz
         go_wp2_with fail
         clear eY
         go_quiet ((go_at_call 91; refine Calls.quiet_of_same (cS _)))
         go_wp2_with fail
         exact⟨⟨k+1,nq1+nq,by omega,by go_num,by rw [← EY.out]; exact Jc W nq1 nq⟩,by simp only [intOf]; omega⟩
        ·obtain rfl:m=k:=by omega
         clear hk hkm
         go_wp2
         go_loopw [12] (fun x wz=>∃ k q:Nat,k≤8∧x=zI k∧wz=W.drewN q) (fun x _=>8 - (intOf x).toNat)
         case atStart=>exact⟨0,nq1,by omega,rfl,rfl⟩
         case round =>
          obtain⟨k,nq2,hk8,rfl,rfl⟩:=hrel
          by_cases hk:k < 8
          ·have hk':(k:Int) < 8:=by omega
           obtain⟨bm,hy,hz⟩:=HF2.out k hk
           rw [HM.out] at hy
           have cS:=Jp i k (by omega) (by omega)
           obtain⟨sp,esp⟩:∃ sp,bhI i k=sp:=⟨_,rfl⟩
           rw [esp] at cS hz
           obtain⟨q,eq⟩:∃ q,m+k=q:=⟨_,rfl⟩
           rw [eq] at hy
           have eq':(m:Int)+(k:Int)=(q:Int):=by omega
           have hq':(q:Int) < (m8:Int):=by have:=HM8.out; omega
           have hqb:(q:Int)≤9223372036854775807:=by have:=HM8.out; omega
           obtain⟨Y,eY⟩:∃ Y,W.drewN nq2=Y:=⟨_,rfl⟩
           have huY:Y.cell? ⟨gl,i,none⟩=some (.slice (some ⟨bu,0,none⟩) m8 cu):=by rw [← eY]; exact hu
           have hyY:Y.cell? ⟨bu,q,none⟩=some (.slice (some ⟨bm,0,none⟩) 1 1):=by rw [← eY]; exact hy
           have hzY:Y.cell? ⟨bm,0,none⟩=some (zI sp):=by rw [← eY]; exact hz
           have EY:Hid (W.drewN nq2=Y):=eY
           clear esp eq hu hy hv hz
           go_wp2_with fail
           clear eY
           go_quiet ((go_at_call 92; refine Calls.quiet_of_same (cS _)))
           go_wp2_with fail
           exact⟨⟨k+1,nq2+nq,by omega,by go_num,by rw [← EY.out]; exact Jc W nq2 nq⟩,by simp only [intOf]; omega⟩
          ·obtain rfl:k=8:=by omega
           go_wp2
           exact⟨⟨i+1,_,by omega,by go_num,rfl⟩,by simp only [intOf]; omega⟩
      ·go_wp2
       go_ret
       exact⟨rfl,JH HMv.out _⟩
structure Lk (e le:TypeId) (s:Nat) (w:World) (lv:Value) (N:Nat) (V:Nat→Value) (n:Nat→Nat) (C:Nat→Nat→Value):Prop where
 row:∀ j,j < N→RowX w e s (V j) (n j) (C j)
 long:Row w le 1 lv N V
 dis:∀ j j',j < N→j' < N→j≠j'→∀ b,(V j).ownBlock=some b→(V j').ownBlock≠some b
section
variable {e le : TypeId} {s : Nat} {w v : World} {lv : Value} {N : Nat} {V : Nat → Value} {n : Nat → Nat} {C : Nat → Nat → Value} {F : Nat → Prop}
theorem Lk.hid (h:Lk e le s w lv N V n C):Hid (Lk e le s w lv N V n C):=h
theorem Lk.mv (h:Lk e le s w lv N V n C) (m:Mv w v F) (hF:∀ b,F b→∃ cs t fz,w.heap[b]? = some (.cells cs t fz)∧t≠e∧t≠le):Lk e le s v lv N V n C:=by
 have keep:∀ {e1:TypeId}{s1 m1:Nat}{x:Value}{f:Nat→Value},Row w e1 s1 x m1 f→(e1=e∨e1=le)→Row v e1 s1 x m1 f:=by
  intro e1 s1 m1 x f hr he
  refine m.row hr (fun b hb hf=>?_)
  obtain⟨cs,t,fz,h1,h2,h3⟩:=hF b hf
  obtain⟨c',f',h4⟩:=hr.kind b hb
  rw [h1] at h4
  simp at h4
  rcases he with he | he
  ·exact h2 (h4.2.1.trans he)
  ·exact h3 (h4.2.1.trans he)
 have keepX:∀ {e1:TypeId}{s1 m1:Nat}{x:Value}{f:Nat→Value},RowX w e1 s1 x m1 f→(e1=e∨e1=le)→RowX v e1 s1 x m1 f:=by
  intro e1 s1 m1 x f hr he
  refine m.rowX hr (fun b hb hf=>?_)
  obtain⟨cs,t,fz,h1,h2,h3⟩:=hF b hf
  obtain⟨c',f',h4⟩:=hr.kind b hb
  rw [h1] at h4
  simp at h4
  rcases he with he | he
  ·exact h2 (h4.2.1.trans he)
  ·exact h3 (h4.2.1.trans he)
 exact⟨fun j hj=>keepX (h.row j hj) (.inl rfl),keep h.long (.inr rfl),h.dis⟩
theorem Lk.kd (h:Lk e le s w lv N V n C) {b:Nat}(hb:bks N V b):∃ cs fz,w.heap[b]? = some (.cells cs e fz):=by
 obtain⟨j,hj,e1⟩:=hb
 exact (h.row j hj).kind b e1
theorem Lk.own {g c:Nat}(hel:e≠le) (h:Lk e le s w (.slice (some ⟨g,0,none⟩) N c) N V n C):Aprt w g N V∧P1 e s w w g N V n C:=by
 refine⟨⟨h.dis,fun j hj hb=>(h.row j hj).apart h.long hel g hb rfl,fun j hj b hb=>(h.row j hj).lt b hb,h.long.lt g rfl⟩,⟨h.row,fun j hj=>h.long.cell (by omega),Mv.refl _ _⟩⟩
theorem Lk.way (h:Lk e le s w lv N V n C):lv=.slice none 0 0∨∃ g c,lv=.slice (some ⟨g,0,none⟩) N c:=by
 rcases h.long.2 with ⟨h1,_⟩ | ⟨g,cap,cur,h1,_⟩
 ·exact .inl h1
 ·exact .inr ⟨g,cap,h1⟩
end
theorem lookI (w:World) (lv:Value) (N:Nat) (V:Nat→Value) (n:Nat→Nat) (C:Nat→Nat→Value) (hC:∀ j k,j < N→k < n j→∃ p,C j (k * 2+1)=zI p) (hN:N≤1000000) (hn:∀ j,j < N→n j≤100000000) (h:Lk 61 23 2 w lv N V n C) :
  Calls zG 56 #[lv] w fun e w'=>e=.returned (.bool true)∧Mv w w' (bks N V):=by
 rcases h.way with rfl | ⟨g,c,rfl⟩
 ·refine (nil56 w).mono ?_
  rintro e w' ⟨h1,rfl⟩
  exact⟨h1,Mv.refl _ _⟩
 ·obtain⟨ap,h1⟩:=h.own (by decide)
  exact ownTI_any w g N c V n C hC hN hn ap h1
theorem lookR (w:World) (lv:Value) (N:Nat) (V:Nat→Value) (n:Nat→Nat) (C:Nat→Nat→Value) (hC:∀ j k,j < N→k < n j→∃ p,C j (k * 11+2)=zI p) (hN:N≤1000000) (hn:∀ j,j < N→n j≤100000000) (h:Lk 85 66 11 w lv N V n C) :
  Calls zG 57 #[lv] w fun e w'=>e=.returned (.bool true)∧Mv w w' (bks N V):=by
 rcases h.way with rfl | ⟨g,c,rfl⟩
 ·refine (nil57 w).mono ?_
  rintro e w' ⟨h1,rfl⟩
  exact⟨h1,Mv.refl _ _⟩
 ·obtain⟨ap,h1⟩:=h.own (by decide)
  exact ownTR_any w g N c V n C hC hN hn ap h1
theorem lookG (w:World) (lv:Value) (N:Nat) (V:Nat→Value) (n:Nat→Nat) (C:Nat→Nat→Value) (hC:∀ j k,j < N→k < n j→∃ p,C j (k * 5)=zI p) (hN:N≤1000000) (hn:∀ j,j < N→n j≤100000000) (h:Lk 68 69 5 w lv N V n C) :
  Calls zG 58 #[lv] w fun e w'=>e=.returned (.bool true)∧Mv w w' (bks N V):=by
 rcases h.way with rfl | ⟨g,c,rfl⟩
 ·refine (nil58 w).mono ?_
  rintro e w' ⟨h1,rfl⟩
  exact⟨h1,Mv.refl _ _⟩
 ·obtain⟨ap,h1⟩:=h.own (by decide)
  exact ownTG_any w g N c V n C hC hN hn ap h1
theorem lookL (w:World) (lv:Value) (N:Nat) (V:Nat→Value) (n:Nat→Nat) (C:Nat→Nat→Value) (hC:∀ j k,j < N→k < n j→∃ p,C j k=zI p) (hN:N≤1000000) (hn:∀ j,j < N→n j≤100000000) (h:Lk 2 22 1 w lv N V n C) :
  Calls zG 60 #[lv] w fun e w'=>e=.returned (.bool true)∧Mv w w' (bks N V):=by
 rcases h.way with rfl | ⟨g,c,rfl⟩
 ·refine (nil60 w).mono ?_
  rintro e w' ⟨h1,rfl⟩
  exact⟨h1,Mv.refl _ _⟩
 ·obtain⟨ap,h1⟩:=h.own (by decide)
  exact ownTL_any w g N c V n C hC hN hn ap h1
theorem lookW (w:World) (lv:Value) (N:Nat) (V:Nat→Value) (n:Nat→Nat) (C:Nat→Nat→Value) (hC:∀ j q,j < N→q < n j→∃ ao m c,C j q=.slice ao m c) (hN:N≤1000000) (hn:∀ j,j < N→n j≤100000000) (h:Lk 69 24 1 w lv N V n C) :
  Calls zG 59 #[lv] w fun e w'=>e=.returned (.bool true)∧Mv w w' (bks N V):=by
 rcases h.way with rfl | ⟨g,c,rfl⟩
 ·refine (nil59 w).mono ?_
  rintro e w' ⟨h1,rfl⟩
  exact⟨h1,Mv.refl _ _⟩
 ·obtain⟨ap,h1⟩:=h.own (by decide)
  exact ownW_any w g N c V n C hC hN hn ap h1
def trZ (lI lG lR lW lL:Value):Array Value:=#[.slice none 0 0,.slice none 0 0,.slice none 0 0,.slice none 0 0,.slice none 0 0,.slice none 0 0,.slice none 0 0,lI,lG,lR,lW,lL]
structure BkZ (w:World) (bk:Nat) (lI lR lG lW lL:Value) (NI NR NG NW NL:Nat) (VI VR VG VW VL:Nat→Value) (nI nR nG nW nL:Nat→Nat) (CI CR CG CW CL:Nat→Nat→Value):Prop where
 B:w.heap[bk]? = some (.cells (trZ lI lG lR lW lL) 52 (0,0))
 I:Lk 61 23 2 w lI NI VI nI CI
 R:Lk 85 66 11 w lR NR VR nR CR
 G:Lk 68 69 5 w lG NG VG nG CG
 W:Lk 69 24 1 w lW NW VW nW CW
 L:Lk 2 22 1 w lL NL VL nL CL
 cI:∀ j k,j < NI→k < nI j→∃ p,CI j (k * 2+1)=zI p
 cR:∀ j k,j < NR→k < nR j→∃ p,CR j (k * 11+2)=zI p
 cG:∀ j k,j < NG→k < nG j→∃ p,CG j (k * 5)=zI p
 cW:∀ j q,j < NW→q < nW j→∃ ao m c,CW j q=.slice ao m c
 cL:∀ j k,j < NL→k < nL j→∃ p,CL j k=zI p
 m:NI≤1000000∧NR≤1000000∧NG≤1000000∧NW≤1000000∧NL≤1000000
 mI:∀ j,j < NI→nI j≤100000000
 mR:∀ j,j < NR→nR j≤100000000
 mG:∀ j,j < NG→nG j≤100000000
 mW:∀ j,j < NW→nW j≤100000000
 mL:∀ j,j < NL→nL j≤100000000
theorem blk_keep {w v:World}{F:Nat→Prop}(m:Mv w v F) {bk:Nat}{cs:Array Value}{t:TypeId}{fr:Nat × Nat}(h:w.heap[bk]? = some (.cells cs t fr)) (hF:∀ b,F b→∃ cs' t' fz,w.heap[b]? = some (.cells cs' t' fz)∧t'≠t):v.heap[bk]? = some (.cells cs t fr):=by
 refine (m.block bk (Array.getElem?_eq_some_iff.1 h).1 (fun e=>?_)).trans h
 obtain⟨cs',t',fz,h1,h2⟩:=hF bk e
 rw [h] at h1
 simp at h1
 exact h2 h1.2.1.symm
theorem treesOwn_any (w:World) (bk:Nat) (lI lR lG lW lL:Value) (NI NR NG NW NL:Nat) (VI VR VG VW VL:Nat→Value) (nI nR nG nW nL:Nat→Nat) (CI CR CG CW CL:Nat→Nat→Value) (h:BkZ w bk lI lR lG lW lL NI NR NG NW NL VI VR VG VW VL nI nR nG nW nL CI CR CG CW CL) :
  Calls zG 21 #[zP bk] w fun e w'=>e=.returned (.bool true)∧Mv w w' (fun b=>bks NI VI b∨bks NR VR b∨bks NG VG b∨bks NW VW b∨bks NL VL b):=by
 obtain⟨aI,pI,eI⟩:∃ a p,lI=.slice a NI p:=by
  obtain⟨ao,c,e,_,_⟩:=h.I.long.form
  exact⟨ao,c,e⟩
 obtain⟨aR,pR,eR⟩:∃ a p,lR=.slice a NR p:=by
  obtain⟨ao,c,e,_,_⟩:=h.R.long.form
  exact⟨ao,c,e⟩
 obtain⟨aG,pG,eG⟩:∃ a p,lG=.slice a NG p:=by
  obtain⟨ao,c,e,_,_⟩:=h.G.long.form
  exact⟨ao,c,e⟩
 obtain⟨aW,pW,eW⟩:∃ a p,lW=.slice a NW p:=by
  obtain⟨ao,c,e,_,_⟩:=h.W.long.form
  exact⟨ao,c,e⟩
 obtain⟨aL,pL,eL⟩:∃ a p,lL=.slice a NL p:=by
  obtain⟨ao,c,e,_,_⟩:=h.L.long.form
  exact⟨ao,c,e⟩
 subst eI; subst eR; subst eG; subst eW; subst eL
 have H:Hid (_):=h
 have hB:=h.B
 have p0:w.cell? ⟨bk,0,none⟩=some (.slice none 0 0):=Co hB 0
 have p1:w.cell? ⟨bk,1,none⟩=some (.slice none 0 0):=Co hB 1
 have p2:w.cell? ⟨bk,2,none⟩=some (.slice none 0 0):=Co hB 2
 have p3:w.cell? ⟨bk,3,none⟩=some (.slice none 0 0):=Co hB 3
 have p4:w.cell? ⟨bk,4,none⟩=some (.slice none 0 0):=Co hB 4
 have p5:w.cell? ⟨bk,5,none⟩=some (.slice none 0 0):=Co hB 5
 have p6:w.cell? ⟨bk,6,none⟩=some (.slice none 0 0):=Co hB 6
 have p7:w.cell? ⟨bk,7,none⟩=some (.slice aI NI pI):=Co hB 7
 have p8:w.cell? ⟨bk,8,none⟩=some (.slice aG NG pG):=Co hB 8
 have p9:w.cell? ⟨bk,9,none⟩=some (.slice aR NR pR):=Co hB 9
 have p10:w.cell? ⟨bk,10,none⟩=some (.slice aW NW pW):=Co hB 10
 have p11:w.cell? ⟨bk,11,none⟩=some (.slice aL NL pL):=Co hB 11
 clear h hB
 go_enter Tryz.func21,Tryz.ntmps21
 go_wp2_with fail
 refine (nil49 _).mono ?_
 rintro _ v' ⟨rfl,e⟩
 obtain rfl:=e.symm
 go_wp2_with fail
 refine (nil50 _).mono ?_
 rintro _ v' ⟨rfl,e⟩
 obtain rfl:=e.symm
 go_wp2_with fail
 refine (nil51 _).mono ?_
 rintro _ v' ⟨rfl,e⟩
 obtain rfl:=e.symm
 go_wp2_with fail
 refine (nil52 _).mono ?_
 rintro _ v' ⟨rfl,e⟩
 obtain rfl:=e.symm
 go_wp2_with fail
 refine (nil53 _).mono ?_
 rintro _ v' ⟨rfl,e⟩
 obtain rfl:=e.symm
 go_wp2_with fail
 refine (nil54 _).mono ?_
 rintro _ v' ⟨rfl,e⟩
 obtain rfl:=e.symm
 go_wp2_with fail
 refine (nil55 _).mono ?_
 rintro _ v' ⟨rfl,e⟩
 obtain rfl:=e.symm
 go_wp2_with fail
 refine (lookI _ _ NI VI nI CI H.out.cI H.out.m.1 H.out.mI H.out.I).mono ?_
 rintro _ v1 ⟨rfl,m1⟩
 have M1:Hid (Mv w v1 (fun b=>bks NI VI b∨bks NR VR b∨bks NG VG b∨bks NW VW b∨bks NL VL b)):=Mv.trans (Mv.refl w _) m1 (fun b e=>.inl (.inl e))
 have KR1:Hid (Lk 85 66 11 v1 _ NR VR nR CR):=(H.out.R).mv m1 (fun b e=>by obtain⟨cs,fz,e1⟩:=(H.out.I).kd e; exact⟨cs,_,fz,e1,by decide,by decide⟩)
 have KG1:Hid (Lk 68 69 5 v1 _ NG VG nG CG):=(H.out.G).mv m1 (fun b e=>by obtain⟨cs,fz,e1⟩:=(H.out.I).kd e; exact⟨cs,_,fz,e1,by decide,by decide⟩)
 have KW1:Hid (Lk 69 24 1 v1 _ NW VW nW CW):=(H.out.W).mv m1 (fun b e=>by obtain⟨cs,fz,e1⟩:=(H.out.I).kd e; exact⟨cs,_,fz,e1,by decide,by decide⟩)
 have KL1:Hid (Lk 2 22 1 v1 _ NL VL nL CL):=(H.out.L).mv m1 (fun b e=>by obtain⟨cs,fz,e1⟩:=(H.out.I).kd e; exact⟨cs,_,fz,e1,by decide,by decide⟩)
 have HB1:Hid (v1.heap[bk]? = some (.cells (trZ (.slice aI NI pI) (.slice aG NG pG) (.slice aR NR pR) (.slice aW NW pW) (.slice aL NL pL)) 52 (0,0))):=blk_keep m1 H.out.B (fun b e=>by obtain⟨cs,fz,e1⟩:=(H.out.I).kd e; exact⟨cs,_,fz,e1,by decide⟩)
 clear p0 p1 p2 p3 p4 p5 p6 p7 p8 p9 p10 p11
 have p0:v1.cell? ⟨bk,0,none⟩=some (.slice none 0 0):=Co HB1.out 0
 have p1:v1.cell? ⟨bk,1,none⟩=some (.slice none 0 0):=Co HB1.out 1
 have p2:v1.cell? ⟨bk,2,none⟩=some (.slice none 0 0):=Co HB1.out 2
 have p3:v1.cell? ⟨bk,3,none⟩=some (.slice none 0 0):=Co HB1.out 3
 have p4:v1.cell? ⟨bk,4,none⟩=some (.slice none 0 0):=Co HB1.out 4
 have p5:v1.cell? ⟨bk,5,none⟩=some (.slice none 0 0):=Co HB1.out 5
 have p6:v1.cell? ⟨bk,6,none⟩=some (.slice none 0 0):=Co HB1.out 6
 have p7:v1.cell? ⟨bk,7,none⟩=some (.slice aI NI pI):=Co HB1.out 7
 have p8:v1.cell? ⟨bk,8,none⟩=some (.slice aG NG pG):=Co HB1.out 8
 have p9:v1.cell? ⟨bk,9,none⟩=some (.slice aR NR pR):=Co HB1.out 9
 have p10:v1.cell? ⟨bk,10,none⟩=some (.slice aW NW pW):=Co HB1.out 10
 have p11:v1.cell? ⟨bk,11,none⟩=some (.slice aL NL pL):=Co HB1.out 11
 clear m1
 go_wp2_with fail
 refine (lookR _ _ NR VR nR CR H.out.cR H.out.m.2.1 H.out.mR KR1.out).mono ?_
 rintro _ v2 ⟨rfl,m2⟩
 have M2:=zH (M1.out.trans m2 (fun b e=>.inl (.inr (.inl e))))
 have KG2:Hid (Lk 68 69 5 v2 _ NG VG nG CG):=(KG1.out).mv m2 (fun b e=>by obtain⟨cs,fz,e1⟩:=(KR1.out).kd e; exact⟨cs,_,fz,e1,by decide,by decide⟩)
 have KW2:Hid (Lk 69 24 1 v2 _ NW VW nW CW):=(KW1.out).mv m2 (fun b e=>by obtain⟨cs,fz,e1⟩:=(KR1.out).kd e; exact⟨cs,_,fz,e1,by decide,by decide⟩)
 have KL2:Hid (Lk 2 22 1 v2 _ NL VL nL CL):=(KL1.out).mv m2 (fun b e=>by obtain⟨cs,fz,e1⟩:=(KR1.out).kd e; exact⟨cs,_,fz,e1,by decide,by decide⟩)
 have HB2:Hid (v2.heap[bk]? = some (.cells (trZ (.slice aI NI pI) (.slice aG NG pG) (.slice aR NR pR) (.slice aW NW pW) (.slice aL NL pL)) 52 (0,0))):=blk_keep m2 HB1.out (fun b e=>by obtain⟨cs,fz,e1⟩:=(KR1.out).kd e; exact⟨cs,_,fz,e1,by decide⟩)
 clear p0 p1 p2 p3 p4 p5 p6 p7 p8 p9 p10 p11
 have p0:v2.cell? ⟨bk,0,none⟩=some (.slice none 0 0):=Co HB2.out 0
 have p1:v2.cell? ⟨bk,1,none⟩=some (.slice none 0 0):=Co HB2.out 1
 have p2:v2.cell? ⟨bk,2,none⟩=some (.slice none 0 0):=Co HB2.out 2
 have p3:v2.cell? ⟨bk,3,none⟩=some (.slice none 0 0):=Co HB2.out 3
 have p4:v2.cell? ⟨bk,4,none⟩=some (.slice none 0 0):=Co HB2.out 4
 have p5:v2.cell? ⟨bk,5,none⟩=some (.slice none 0 0):=Co HB2.out 5
 have p6:v2.cell? ⟨bk,6,none⟩=some (.slice none 0 0):=Co HB2.out 6
 have p7:v2.cell? ⟨bk,7,none⟩=some (.slice aI NI pI):=Co HB2.out 7
 have p8:v2.cell? ⟨bk,8,none⟩=some (.slice aG NG pG):=Co HB2.out 8
 have p9:v2.cell? ⟨bk,9,none⟩=some (.slice aR NR pR):=Co HB2.out 9
 have p10:v2.cell? ⟨bk,10,none⟩=some (.slice aW NW pW):=Co HB2.out 10
 have p11:v2.cell? ⟨bk,11,none⟩=some (.slice aL NL pL):=Co HB2.out 11
 clear m2
 go_wp2_with fail
 refine (lookG _ _ NG VG nG CG H.out.cG H.out.m.2.2.1 H.out.mG KG2.out).mono ?_
 rintro _ v3 ⟨rfl,m3⟩
 have M3:=zH (M2.out.trans m3 (fun b e=>.inl (.inr (.inr (.inl e)))))
 have KW3:Hid (Lk 69 24 1 v3 _ NW VW nW CW):=(KW2.out).mv m3 (fun b e=>by obtain⟨cs,fz,e1⟩:=(KG2.out).kd e; exact⟨cs,_,fz,e1,by decide,by decide⟩)
 have KL3:Hid (Lk 2 22 1 v3 _ NL VL nL CL):=(KL2.out).mv m3 (fun b e=>by obtain⟨cs,fz,e1⟩:=(KG2.out).kd e; exact⟨cs,_,fz,e1,by decide,by decide⟩)
 have HB3:Hid (v3.heap[bk]? = some (.cells (trZ (.slice aI NI pI) (.slice aG NG pG) (.slice aR NR pR) (.slice aW NW pW) (.slice aL NL pL)) 52 (0,0))):=blk_keep m3 HB2.out (fun b e=>by obtain⟨cs,fz,e1⟩:=(KG2.out).kd e; exact⟨cs,_,fz,e1,by decide⟩)
 clear p0 p1 p2 p3 p4 p5 p6 p7 p8 p9 p10 p11
 have p0:v3.cell? ⟨bk,0,none⟩=some (.slice none 0 0):=Co HB3.out 0
 have p1:v3.cell? ⟨bk,1,none⟩=some (.slice none 0 0):=Co HB3.out 1
 have p2:v3.cell? ⟨bk,2,none⟩=some (.slice none 0 0):=Co HB3.out 2
 have p3:v3.cell? ⟨bk,3,none⟩=some (.slice none 0 0):=Co HB3.out 3
 have p4:v3.cell? ⟨bk,4,none⟩=some (.slice none 0 0):=Co HB3.out 4
 have p5:v3.cell? ⟨bk,5,none⟩=some (.slice none 0 0):=Co HB3.out 5
 have p6:v3.cell? ⟨bk,6,none⟩=some (.slice none 0 0):=Co HB3.out 6
 have p7:v3.cell? ⟨bk,7,none⟩=some (.slice aI NI pI):=Co HB3.out 7
 have p8:v3.cell? ⟨bk,8,none⟩=some (.slice aG NG pG):=Co HB3.out 8
 have p9:v3.cell? ⟨bk,9,none⟩=some (.slice aR NR pR):=Co HB3.out 9
 have p10:v3.cell? ⟨bk,10,none⟩=some (.slice aW NW pW):=Co HB3.out 10
 have p11:v3.cell? ⟨bk,11,none⟩=some (.slice aL NL pL):=Co HB3.out 11
 clear m3
 go_wp2_with fail
 refine (lookW _ _ NW VW nW CW H.out.cW H.out.m.2.2.2.1 H.out.mW KW3.out).mono ?_
 rintro _ v4 ⟨rfl,m4⟩
 have M4:=zH (M3.out.trans m4 (fun b e=>.inl (.inr (.inr (.inr (.inl e))))))
 have KL4:Hid (Lk 2 22 1 v4 _ NL VL nL CL):=(KL3.out).mv m4 (fun b e=>by obtain⟨cs,fz,e1⟩:=(KW3.out).kd e; exact⟨cs,_,fz,e1,by decide,by decide⟩)
 have HB4:Hid (v4.heap[bk]? = some (.cells (trZ (.slice aI NI pI) (.slice aG NG pG) (.slice aR NR pR) (.slice aW NW pW) (.slice aL NL pL)) 52 (0,0))):=blk_keep m4 HB3.out (fun b e=>by obtain⟨cs,fz,e1⟩:=(KW3.out).kd e; exact⟨cs,_,fz,e1,by decide⟩)
 clear p0 p1 p2 p3 p4 p5 p6 p7 p8 p9 p10 p11
 have p0:v4.cell? ⟨bk,0,none⟩=some (.slice none 0 0):=Co HB4.out 0
 have p1:v4.cell? ⟨bk,1,none⟩=some (.slice none 0 0):=Co HB4.out 1
 have p2:v4.cell? ⟨bk,2,none⟩=some (.slice none 0 0):=Co HB4.out 2
 have p3:v4.cell? ⟨bk,3,none⟩=some (.slice none 0 0):=Co HB4.out 3
 have p4:v4.cell? ⟨bk,4,none⟩=some (.slice none 0 0):=Co HB4.out 4
 have p5:v4.cell? ⟨bk,5,none⟩=some (.slice none 0 0):=Co HB4.out 5
 have p6:v4.cell? ⟨bk,6,none⟩=some (.slice none 0 0):=Co HB4.out 6
 have p7:v4.cell? ⟨bk,7,none⟩=some (.slice aI NI pI):=Co HB4.out 7
 have p8:v4.cell? ⟨bk,8,none⟩=some (.slice aG NG pG):=Co HB4.out 8
 have p9:v4.cell? ⟨bk,9,none⟩=some (.slice aR NR pR):=Co HB4.out 9
 have p10:v4.cell? ⟨bk,10,none⟩=some (.slice aW NW pW):=Co HB4.out 10
 have p11:v4.cell? ⟨bk,11,none⟩=some (.slice aL NL pL):=Co HB4.out 11
 clear m4
 go_wp2_with fail
 refine (lookL _ _ NL VL nL CL H.out.cL H.out.m.2.2.2.2 H.out.mL KL4.out).mono ?_
 rintro _ v5 ⟨rfl,m5⟩
 have M5:=zH (M4.out.trans m5 (fun b e=>.inl (.inr (.inr (.inr (.inr e))))))
 clear m5
 go_wp2
 go_ret
 exact⟨rfl,M5.out⟩
end Go.Proofs.YteedmmljahgpjaaGreatDoor
