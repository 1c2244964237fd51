import Derived.Test.YteedmmljahgpjaaGreatDoorA0
import Derived.Test.YteedmmljahgpjaaGreatDoorA18
import Derived.Test.YteedmmljahgpjaaGreatDoorA7
namespace Go.Proofs.YteedmmljahgpjaaGreatDoor
open Go.RowKit
set_option linter.unusedVariables false
set_option linter.unusedSimpArgs false
def LE (e le:TypeId) (s:Nat) (ok:(Nat→Value)→Nat→Prop) (A:Nat→Prop) (w:World) (lv:Value) (N:Nat):Prop :=
 ∃ V n C,Lk e le s w lv N V n C∧(∀ j,j < N→ok (C j) (n j)∧n j≤100000000)∧∀ b,bks N V b→A b
section
variable {e le : TypeId} {s : Nat} {ok : (Nat → Value) → Nat → Prop} {A A' F : Nat → Prop} {w v v' : World} {lv : Value} {N : Nat}
theorem LE.keep (h:LE e le s ok A v lv N) (m:Mv v v' F) (hF:∀ b,F b→¬ A b∧lv.ownBlock≠some b) (hA:∀ b,A b→A' b):LE e le s ok A' v' lv N:=by
 obtain⟨V,n,C,h1,h2,h3⟩:=h
 exact⟨V,n,C,⟨fun j hj=>m.rowX (h1.row j hj) (fun b hb hf=>(hF b hf).1 (h3 b ⟨j,hj,hb⟩)),m.row h1.long (fun b hb hf=>(hF b hf).2 hb),h1.dis⟩,h2,fun b hb=>hA b (h3 b hb)⟩
theorem LE.more {V:Nat→Value}{n:Nat→Nat}{C:Nat→Nat→Value}{X lv':Value}{mx:Nat}{f:Nat→Value}(h1:Lk e le s v lv N V n C) (h2:∀ j,j < N→ok (C j) (n j)∧n j≤100000000) (h3:∀ b,bks N V b→A b) (m:Mv v v' F) (hF:∀ b,F b→¬ A b)
  (hX:RowX v' e s X mx f) (hok:ok f mx) (hmx:mx≤100000000) (hXA:∀ b,X.ownBlock=some b→¬ A b) (hl:Row v' le 1 lv' (N+1) (fun j=>if j=N then X else V j)):LE e le s ok (fun b=>A b∨X.ownBlock=some b) v' lv' (N+1):=by
 refine⟨fun j=>if j=N then X else V j,fun j=>if j=N then mx else n j,fun j=>if j=N then f else C j,⟨fun j hj=>?_,hl,fun j j' hj hj' hne b=>?_⟩,fun j hj=>?_,fun b hb=>?_⟩
 ·by_cases e1:j=N
  ·simp only [e1,if_true]; exact hX
  ·simp only [e1,if_false]
   exact m.rowX (h1.row j (by omega)) (fun b hb hf=>hF b hf (h3 b ⟨j,by omega,hb⟩))
 ·by_cases e1:j=N
  ·have e2:¬ j'=N:=by omega
   simp only [e1,e2,if_true,if_false]
   exact fun hb hb'=>hXA b hb (h3 b ⟨j',by omega,hb'⟩)
  ·by_cases e2:j'=N
   ·simp only [e1,e2,if_true,if_false]
    exact fun hb hb'=>hXA b hb' (h3 b ⟨j,by omega,hb⟩)
   ·simp only [e1,e2,if_false]
    exact h1.dis j j' (by omega) (by omega) hne b
 ·by_cases e1:j=N
  ·simp only [e1,if_true]; exact⟨hok,hmx⟩
  ·simp only [e1,if_false]; exact h2 j (by omega)
 ·obtain⟨j,hj,hb⟩:=hb
  by_cases e1:j=N
  ·simp only [e1,if_true] at hb; exact .inr hb
  ·simp only [e1,if_false] at hb; exact .inl (h3 b ⟨j,by omega,hb⟩)
theorem LE.lt (h:LE e le s ok A v lv N):∀ b,lv.ownBlock=some b→∃ c fz,v.heap[b]? = some (.cells c le fz):=by
 obtain⟨V,n,C,h1,_⟩:=h
 exact h1.long.kind
theorem LE.form (h:LE e le s ok A v lv N):∃ ao c,lv=.slice ao N c:=by
 obtain⟨V,n,C,h1,_⟩:=h
 obtain⟨ao,c,e1,_⟩:=h1.long.form
 exact⟨ao,c,e1⟩
theorem Jk {V:Nat→Value}{X:Value}{o:Oper}{ops:Array Oper}{a:Act}{K:Act→World→Prop}{Q:Exit→Act→World→Prop}{E:Prop}(hL:Row v le 1 lv N V) (hX1:X.oneCell'=true) (ll:TypeId) (ht:Tryz.prog.underlying ll=some (.slice le))
  (hi:(Tryz.prog.info? le).map (fun i=>(i.zero,i.size,i.bytes))=some (some (.slice none 0 0),1,24)) (hN:N≤1000000) (hgd:o.guard=none) (d x:Operand)
  (ho:o.op=.call { callee:=.builtin .append,args:=#[d,x],argTypes:=#[ll,ll] }) (hs:a.eval d=lv) (hx:a.eval x=.slice (some ⟨v§,0,none⟩) 1 1)
  (h:∀ g cap w',Row w' le 1 (.slice (some ⟨g,0,none⟩) (N+1) cap) (N+1) (fun j=>if j=N then X else V j)→(v.alloc (.cells #[X] le)).grownBy w' lv.ownBlock→(lv.ownBlock=some g∨g=v§+1)→K (a.put o.dst (.slice (some ⟨g,0,none⟩) (N+1) cap)) w') :
  if Region.wanted o (yielded ops a.tmps)=true then Oper.wp Tryz.prog o a (v.alloc (.cells #[X] le)) K Q else E:=by
 obtain⟨i0,hi0,hz0,hz1,hz2⟩:=info_parts hi
 have hA:=hL.alloc (.cells #[X] le)
 refine step_append_lies _ hgd d x ll ho 0 le i0 _ 1 24 ht hi0 hz0 hz1 hz2 rfl (by decide) lv N _ hs hA ⟨v§,0,none⟩ 1 1 [X] hx rfl (World.news_of_block (Hn v _)) (fun u hu=>by simp at hu; rw [hu]; exact hX1) (by decide) (by unfold maxLen; omega) (by omega) (Nat.zero_le _) _ rfl ?_
 intro g cap w' h2 h3 h4 _
 refine h g cap w' ?_ h3 (h4.imp id (fun e=>by rw [e,Sa]))
 have hr:=Row.snoc (x:=fun _=>X) h2 rfl (oneAt X)
 refine hr.congr fun j hj=>?_
 by_cases e:j < N * 1
 ·rw [if_pos e,if_neg (show ¬ j=N by omega)]
 ·rw [if_neg e,if_pos (show j=N by omega)]
end
def oqI (f:Nat→Value) (m:Nat):Prop:=∀ k,k < m→∃ p,f (k * 2+1)=zI p
def oqR (f:Nat→Value) (m:Nat):Prop:=∀ k,k < m→∃ p,f (k * 11+2)=zI p
def oqG (f:Nat→Value) (m:Nat):Prop:=∀ k,k < m→∃ p,f (k * 5)=zI p
def oqW (f:Nat→Value) (m:Nat):Prop:=∀ k,k < m→∃ ao m' c,f k=.slice ao m' c
def oqL (f:Nat→Value) (m:Nat):Prop:=∀ k,k < m→∃ p,f k=zI p
structure TBs (w0 w1:World) (bk:Nat) (U A:Nat→Prop) (NI NR NG NW NL:Nat) (v:World) (lI lR lG lW lL:Value):Prop where
 B:v.heap[bk]? = some (.cells (trZ lI lG lR lW lL) 52 (0,0))
 I:LE 61 23 2 oqI A v lI NI
 R:LE 85 66 11 oqR A v lR NR
 G:LE 68 69 5 oqG A v lG NG
 W:LE 69 24 1 oqW A v lW NW
 L:LE 2 22 1 oqL A v lL NL
 sub:∀ b,A b→U b
 out:∀ b,U b→b≠bk∧lI.ownBlock≠some b∧lR.ownBlock≠some b∧lG.ownBlock≠some b∧lW.ownBlock≠some b∧lL.ownBlock≠some b
 old:∀ b,U b→b < w1§
 same:∀ b,U b→v.heap[b]? = w1.heap[b]?
 sz:w1§≤v§
 new:w0§≤bk∧(∀ b,lI.ownBlock=some b→w0§≤b)∧(∀ b,lR.ownBlock=some b→w0§≤b)∧(∀ b,lG.ownBlock=some b→w0§≤b)∧(∀ b,lW.ownBlock=some b→w0§≤b)∧(∀ b,lL.ownBlock=some b→w0§≤b)
 B0:Below w0§ w0 v
section
variable {w0 w1 v : World} {bk : Nat} {U A : Nat → Prop} {NI NR NG NW NL : Nat} {lI lR lG lW lL : Value}
theorem TBs.hid (h:TBs w0 w1 bk U A NI NR NG NW NL v lI lR lG lW lL):Hid (TBs w0 w1 bk U A NI NR NG NW NL v lI lR lG lW lL):=h
theorem TBs.addI (h:TBs w0 w1 bk U A NI NR NG NW NL v lI lR lG lW lL) {V:Nat→Value}{n:Nat→Nat}{C:Nat→Nat→Value}(h1:Lk 61 23 2 v lI NI V n C) (h2:∀ j,j < NI→oqI (C j) (n j)∧n j≤100000000) (h3:∀ b,bks NI V b→A b) {X:Value}{mx:Nat}{f:Nat→Value}(hX:RowX w1 61 2 X mx f) (hok:oqI f mx) (hmx:mx≤100000000) (hXU:∀ b,X.ownBlock=some b→U b∧¬ A b)
  {g cap:Nat}{w':World}(hr:Row w' 23 1 (.slice (some ⟨g,0,none⟩) (NI+1) cap) (NI+1) (fun j=>if j=NI then X else V j)) (hg:(v.alloc (.cells #[X] 23)).grownBy w' lI.ownBlock) (hq:lI.ownBlock=some g∨g=v§+1) {lv':Value}(hlv:lv'=.slice (some ⟨g,0,none⟩) (NI+1) cap) :
  w'.heap[bk]? = some (.cells (trZ lI lG lR lW lL) 52 (0,0))∧(∀ b,U b→w'.heap[b]? = w1.heap[b]?)∧TBs w0 w1 bk U (fun b=>A b∨X.ownBlock=some b) (NI+1) NR NG NW NL (w'.setCell ⟨bk,7,none⟩ lv') lv' lR lG lW lL:=by
 have hbk:=(Array.getElem?_eq_some_iff.1 h.B).1
 have kd:∀ b,lI.ownBlock=some b→b≠bk:=fun b hb e1=>by
  obtain⟨c,fz,hk⟩:=h1.long.kind b hb
  rw [e1,h.B] at hk
  simp at hk
 have m0:Mv v w' (fun b=>lI.ownBlock=some b):=((Mv.refl v _).alloc _).grown hg (fun b e1=>.inl e1)
 have hB:w'.heap[bk]? = some (.cells (trZ lI lG lR lW lL) 52 (0,0)):=(m0.block bk hbk (fun e1=>kd bk e1 rfl)).trans h.B
 have hsm:∀ b,U b→w'.heap[b]? = w1.heap[b]?:=fun b hb=>(m0.block b (Nat.lt_of_lt_of_le (h.old b hb) h.sz) (h.out b hb).2.1).trans (h.same b hb)
 have m1:Mv v (w'.setCell ⟨bk,7,none⟩ lv') (fun b=>b=bk∨lI.ownBlock=some b):=(m0.mono (fun b hb=>.inr hb)).setCell (.inl (.inl rfl)) _
 have hF:∀ b,(b=bk∨lI.ownBlock=some b)→¬ A b:=fun b hb ha=>hb.elim (h.out b (h.sub b ha)).1 (h.out b (h.sub b ha)).2.1
 have sset:∀ b,b≠bk→(w'.setCell ⟨bk,7,none⟩ lv').heap[b]? = w'.heap[b]?:=fun b hb=>Below.heap_setCell _ _ _ _ hb
 have hsU:∀ b,U b→(w'.setCell ⟨bk,7,none⟩ lv').heap[b]? = w1.heap[b]?:=fun b hb=>(sset b (h.out b hb).1).trans (hsm b hb)
 have hkB:∀ {e1:TypeId}{s1 m1:Nat}{x:Value}{f1:Nat→Value},Row w' e1 s1 x m1 f1→e1≠52→x.ownBlock≠some bk:=fun hx he e2=>by
  obtain⟨c,fz,hk⟩:=hx.kind bk e2
  rw [hB] at hk
  simp at hk
  exact he hk.2.1.symm
 have hlo:∀ b,lv'.ownBlock=some b→lI.ownBlock=some b∨b=v§+1:=fun b hb=>by
  rw [hlv] at hb
  have eg:g=b:=by simpa [Value.ownBlock] using hb
  rw [← eg]; exact hq
 have hzz:=m1.size
 refine⟨hB,hsm,⟨?_,?_,?_,?_,?_,?_,fun b hb=>hb.elim (h.sub b) (fun e1=>(hXU b e1).1),fun b hb=>?_,h.old,hsU,Nat.le_trans h.sz hzz,?_,?_⟩⟩
 ·rw [hlv]; exact Hs0 _ hB
 ·have hlr:Row (w'.setCell ⟨bk,7,none⟩ lv') 23 1 lv' (NI+1) (fun j=>if j=NI then X else V j):=by
   have hr':Row w' 23 1 lv' (NI+1) (fun j=>if j=NI then X else V j):=by rw [hlv]; exact hr
   exact hr'.of_block (fun b hb=>sset b (fun e1=>hkB hr' (by decide) (by rw [hb,e1])))
  exact LE.more h1 h2 h3 m1 hF (hX.of_block (fun b hb=>hsU b (hXU b hb).1)) hok hmx (fun b hb=>(hXU b hb).2) hlr
 ·refine h.R.keep m1 (fun b hb=>⟨hF b hb,fun e1=>?_⟩) (fun b hb=>.inl hb)
  obtain⟨c,fz,hk⟩:=h.R.lt b e1
  rcases hb with hb | hb
  ·rw [hb,h.B] at hk; simp at hk
  ·obtain⟨c2,fz2,hk2⟩:=h1.long.kind b hb
   rw [hk] at hk2
   simp at hk2
 ·refine h.G.keep m1 (fun b hb=>⟨hF b hb,fun e1=>?_⟩) (fun b hb=>.inl hb)
  obtain⟨c,fz,hk⟩:=h.G.lt b e1
  rcases hb with hb | hb
  ·rw [hb,h.B] at hk; simp at hk
  ·obtain⟨c2,fz2,hk2⟩:=h1.long.kind b hb
   rw [hk] at hk2
   simp at hk2
 ·refine h.W.keep m1 (fun b hb=>⟨hF b hb,fun e1=>?_⟩) (fun b hb=>.inl hb)
  obtain⟨c,fz,hk⟩:=h.W.lt b e1
  rcases hb with hb | hb
  ·rw [hb,h.B] at hk; simp at hk
  ·obtain⟨c2,fz2,hk2⟩:=h1.long.kind b hb
   rw [hk] at hk2
   simp at hk2
 ·refine h.L.keep m1 (fun b hb=>⟨hF b hb,fun e1=>?_⟩) (fun b hb=>.inl hb)
  obtain⟨c,fz,hk⟩:=h.L.lt b e1
  rcases hb with hb | hb
  ·rw [hb,h.B] at hk; simp at hk
  ·obtain⟨c2,fz2,hk2⟩:=h1.long.kind b hb
   rw [hk] at hk2
   simp at hk2
 ·obtain⟨o0,o1,o2,o3,o4,o5⟩:=h.out b hb
  refine⟨o0,?_,o2,o3,o4,o5⟩
  intro e1
  have hbl:=Nat.lt_of_lt_of_le (h.old b hb) h.sz
  rcases hlo b e1 with e2 | e2
  ·exact o1 e2
  ·omega
 ·obtain⟨n0,n1,n2,n3,n4,n5⟩:=h.new
  refine⟨n0,?_,n2,n3,n4,n5⟩
  intro b e1
  have hbl:=h.B0.size
  rcases hlo b e1 with e2 | e2
  ·exact n1 b e2
  ·omega
 ·exact h.B0.trans (m1.below h.B0.size (fun b hb=>hb.elim (fun e1=>by rw [e1]; exact h.new.1) (h.new.2.1 b)))
theorem TBs.addR (h:TBs w0 w1 bk U A NI NR NG NW NL v lI lR lG lW lL) {V:Nat→Value}{n:Nat→Nat}{C:Nat→Nat→Value}(h1:Lk 85 66 11 v lR NR V n C) (h2:∀ j,j < NR→oqR (C j) (n j)∧n j≤100000000) (h3:∀ b,bks NR V b→A b) {X:Value}{mx:Nat}{f:Nat→Value}(hX:RowX w1 85 11 X mx f) (hok:oqR f mx) (hmx:mx≤100000000) (hXU:∀ b,X.ownBlock=some b→U b∧¬ A b)
  {g cap:Nat}{w':World}(hr:Row w' 66 1 (.slice (some ⟨g,0,none⟩) (NR+1) cap) (NR+1) (fun j=>if j=NR then X else V j)) (hg:(v.alloc (.cells #[X] 66)).grownBy w' lR.ownBlock) (hq:lR.ownBlock=some g∨g=v§+1) {lv':Value}(hlv:lv'=.slice (some ⟨g,0,none⟩) (NR+1) cap) :
  w'.heap[bk]? = some (.cells (trZ lI lG lR lW lL) 52 (0,0))∧(∀ b,U b→w'.heap[b]? = w1.heap[b]?)∧TBs w0 w1 bk U (fun b=>A b∨X.ownBlock=some b) NI (NR+1) NG NW NL (w'.setCell ⟨bk,9,none⟩ lv') lI lv' lG lW lL:=by
 have hbk:=(Array.getElem?_eq_some_iff.1 h.B).1
 have kd:∀ b,lR.ownBlock=some b→b≠bk:=fun b hb e1=>by
  obtain⟨c,fz,hk⟩:=h1.long.kind b hb
  rw [e1,h.B] at hk
  simp at hk
 have m0:Mv v w' (fun b=>lR.ownBlock=some b):=((Mv.refl v _).alloc _).grown hg (fun b e1=>.inl e1)
 have hB:w'.heap[bk]? = some (.cells (trZ lI lG lR lW lL) 52 (0,0)):=(m0.block bk hbk (fun e1=>kd bk e1 rfl)).trans h.B
 have hsm:∀ b,U b→w'.heap[b]? = w1.heap[b]?:=fun b hb=>(m0.block b (Nat.lt_of_lt_of_le (h.old b hb) h.sz) (h.out b hb).2.2.1).trans (h.same b hb)
 have m1:Mv v (w'.setCell ⟨bk,9,none⟩ lv') (fun b=>b=bk∨lR.ownBlock=some b):=(m0.mono (fun b hb=>.inr hb)).setCell (.inl (.inl rfl)) _
 have hF:∀ b,(b=bk∨lR.ownBlock=some b)→¬ A b:=fun b hb ha=>hb.elim (h.out b (h.sub b ha)).1 (h.out b (h.sub b ha)).2.2.1
 have sset:∀ b,b≠bk→(w'.setCell ⟨bk,9,none⟩ lv').heap[b]? = w'.heap[b]?:=fun b hb=>Below.heap_setCell _ _ _ _ hb
 have hsU:∀ b,U b→(w'.setCell ⟨bk,9,none⟩ lv').heap[b]? = w1.heap[b]?:=fun b hb=>(sset b (h.out b hb).1).trans (hsm b hb)
 have hkB:∀ {e1:TypeId}{s1 m1:Nat}{x:Value}{f1:Nat→Value},Row w' e1 s1 x m1 f1→e1≠52→x.ownBlock≠some bk:=fun hx he e2=>by
  obtain⟨c,fz,hk⟩:=hx.kind bk e2
  rw [hB] at hk
  simp at hk
  exact he hk.2.1.symm
 have hlo:∀ b,lv'.ownBlock=some b→lR.ownBlock=some b∨b=v§+1:=fun b hb=>by
  rw [hlv] at hb
  have eg:g=b:=by simpa [Value.ownBlock] using hb
  rw [← eg]; exact hq
 have hzz:=m1.size
 refine⟨hB,hsm,⟨?_,?_,?_,?_,?_,?_,fun b hb=>hb.elim (h.sub b) (fun e1=>(hXU b e1).1),fun b hb=>?_,h.old,hsU,Nat.le_trans h.sz hzz,?_,?_⟩⟩
 ·rw [hlv]; exact Hs0 _ hB
 ·refine h.I.keep m1 (fun b hb=>⟨hF b hb,fun e1=>?_⟩) (fun b hb=>.inl hb)
  obtain⟨c,fz,hk⟩:=h.I.lt b e1
  rcases hb with hb | hb
  ·rw [hb,h.B] at hk; simp at hk
  ·obtain⟨c2,fz2,hk2⟩:=h1.long.kind b hb
   rw [hk] at hk2
   simp at hk2
 ·have hlr:Row (w'.setCell ⟨bk,9,none⟩ lv') 66 1 lv' (NR+1) (fun j=>if j=NR then X else V j):=by
   have hr':Row w' 66 1 lv' (NR+1) (fun j=>if j=NR then X else V j):=by rw [hlv]; exact hr
   exact hr'.of_block (fun b hb=>sset b (fun e1=>hkB hr' (by decide) (by rw [hb,e1])))
  exact LE.more h1 h2 h3 m1 hF (hX.of_block (fun b hb=>hsU b (hXU b hb).1)) hok hmx (fun b hb=>(hXU b hb).2) hlr
 ·refine h.G.keep m1 (fun b hb=>⟨hF b hb,fun e1=>?_⟩) (fun b hb=>.inl hb)
  obtain⟨c,fz,hk⟩:=h.G.lt b e1
  rcases hb with hb | hb
  ·rw [hb,h.B] at hk; simp at hk
  ·obtain⟨c2,fz2,hk2⟩:=h1.long.kind b hb
   rw [hk] at hk2
   simp at hk2
 ·refine h.W.keep m1 (fun b hb=>⟨hF b hb,fun e1=>?_⟩) (fun b hb=>.inl hb)
  obtain⟨c,fz,hk⟩:=h.W.lt b e1
  rcases hb with hb | hb
  ·rw [hb,h.B] at hk; simp at hk
  ·obtain⟨c2,fz2,hk2⟩:=h1.long.kind b hb
   rw [hk] at hk2
   simp at hk2
 ·refine h.L.keep m1 (fun b hb=>⟨hF b hb,fun e1=>?_⟩) (fun b hb=>.inl hb)
  obtain⟨c,fz,hk⟩:=h.L.lt b e1
  rcases hb with hb | hb
  ·rw [hb,h.B] at hk; simp at hk
  ·obtain⟨c2,fz2,hk2⟩:=h1.long.kind b hb
   rw [hk] at hk2
   simp at hk2
 ·obtain⟨o0,o1,o2,o3,o4,o5⟩:=h.out b hb
  refine⟨o0,o1,?_,o3,o4,o5⟩
  intro e1
  have hbl:=Nat.lt_of_lt_of_le (h.old b hb) h.sz
  rcases hlo b e1 with e2 | e2
  ·exact o2 e2
  ·omega
 ·obtain⟨n0,n1,n2,n3,n4,n5⟩:=h.new
  refine⟨n0,n1,?_,n3,n4,n5⟩
  intro b e1
  have hbl:=h.B0.size
  rcases hlo b e1 with e2 | e2
  ·exact n2 b e2
  ·omega
 ·exact h.B0.trans (m1.below h.B0.size (fun b hb=>hb.elim (fun e1=>by rw [e1]; exact h.new.1) (h.new.2.2.1 b)))
theorem TBs.addG (h:TBs w0 w1 bk U A NI NR NG NW NL v lI lR lG lW lL) {V:Nat→Value}{n:Nat→Nat}{C:Nat→Nat→Value}(h1:Lk 68 69 5 v lG NG V n C) (h2:∀ j,j < NG→oqG (C j) (n j)∧n j≤100000000) (h3:∀ b,bks NG V b→A b) {X:Value}{mx:Nat}{f:Nat→Value}(hX:RowX w1 68 5 X mx f) (hok:oqG f mx) (hmx:mx≤100000000) (hXU:∀ b,X.ownBlock=some b→U b∧¬ A b)
  {g cap:Nat}{w':World}(hr:Row w' 69 1 (.slice (some ⟨g,0,none⟩) (NG+1) cap) (NG+1) (fun j=>if j=NG then X else V j)) (hg:(v.alloc (.cells #[X] 69)).grownBy w' lG.ownBlock) (hq:lG.ownBlock=some g∨g=v§+1) {lv':Value}(hlv:lv'=.slice (some ⟨g,0,none⟩) (NG+1) cap) :
  w'.heap[bk]? = some (.cells (trZ lI lG lR lW lL) 52 (0,0))∧(∀ b,U b→w'.heap[b]? = w1.heap[b]?)∧TBs w0 w1 bk U (fun b=>A b∨X.ownBlock=some b) NI NR (NG+1) NW NL (w'.setCell ⟨bk,8,none⟩ lv') lI lR lv' lW lL:=by
 have hbk:=(Array.getElem?_eq_some_iff.1 h.B).1
 have kd:∀ b,lG.ownBlock=some b→b≠bk:=fun b hb e1=>by
  obtain⟨c,fz,hk⟩:=h1.long.kind b hb
  rw [e1,h.B] at hk
  simp at hk
 have m0:Mv v w' (fun b=>lG.ownBlock=some b):=((Mv.refl v _).alloc _).grown hg (fun b e1=>.inl e1)
 have hB:w'.heap[bk]? = some (.cells (trZ lI lG lR lW lL) 52 (0,0)):=(m0.block bk hbk (fun e1=>kd bk e1 rfl)).trans h.B
 have hsm:∀ b,U b→w'.heap[b]? = w1.heap[b]?:=fun b hb=>(m0.block b (Nat.lt_of_lt_of_le (h.old b hb) h.sz) (h.out b hb).2.2.2.1).trans (h.same b hb)
 have m1:Mv v (w'.setCell ⟨bk,8,none⟩ lv') (fun b=>b=bk∨lG.ownBlock=some b):=(m0.mono (fun b hb=>.inr hb)).setCell (.inl (.inl rfl)) _
 have hF:∀ b,(b=bk∨lG.ownBlock=some b)→¬ A b:=fun b hb ha=>hb.elim (h.out b (h.sub b ha)).1 (h.out b (h.sub b ha)).2.2.2.1
 have sset:∀ b,b≠bk→(w'.setCell ⟨bk,8,none⟩ lv').heap[b]? = w'.heap[b]?:=fun b hb=>Below.heap_setCell _ _ _ _ hb
 have hsU:∀ b,U b→(w'.setCell ⟨bk,8,none⟩ lv').heap[b]? = w1.heap[b]?:=fun b hb=>(sset b (h.out b hb).1).trans (hsm b hb)
 have hkB:∀ {e1:TypeId}{s1 m1:Nat}{x:Value}{f1:Nat→Value},Row w' e1 s1 x m1 f1→e1≠52→x.ownBlock≠some bk:=fun hx he e2=>by
  obtain⟨c,fz,hk⟩:=hx.kind bk e2
  rw [hB] at hk
  simp at hk
  exact he hk.2.1.symm
 have hlo:∀ b,lv'.ownBlock=some b→lG.ownBlock=some b∨b=v§+1:=fun b hb=>by
  rw [hlv] at hb
  have eg:g=b:=by simpa [Value.ownBlock] using hb
  rw [← eg]; exact hq
 have hzz:=m1.size
 refine⟨hB,hsm,⟨?_,?_,?_,?_,?_,?_,fun b hb=>hb.elim (h.sub b) (fun e1=>(hXU b e1).1),fun b hb=>?_,h.old,hsU,Nat.le_trans h.sz hzz,?_,?_⟩⟩
 ·rw [hlv]; exact Hs0 _ hB
 ·refine h.I.keep m1 (fun b hb=>⟨hF b hb,fun e1=>?_⟩) (fun b hb=>.inl hb)
  obtain⟨c,fz,hk⟩:=h.I.lt b e1
  rcases hb with hb | hb
  ·rw [hb,h.B] at hk; simp at hk
  ·obtain⟨c2,fz2,hk2⟩:=h1.long.kind b hb
   rw [hk] at hk2
   simp at hk2
 ·refine h.R.keep m1 (fun b hb=>⟨hF b hb,fun e1=>?_⟩) (fun b hb=>.inl hb)
  obtain⟨c,fz,hk⟩:=h.R.lt b e1
  rcases hb with hb | hb
  ·rw [hb,h.B] at hk; simp at hk
  ·obtain⟨c2,fz2,hk2⟩:=h1.long.kind b hb
   rw [hk] at hk2
   simp at hk2
 ·have hlr:Row (w'.setCell ⟨bk,8,none⟩ lv') 69 1 lv' (NG+1) (fun j=>if j=NG then X else V j):=by
   have hr':Row w' 69 1 lv' (NG+1) (fun j=>if j=NG then X else V j):=by rw [hlv]; exact hr
   exact hr'.of_block (fun b hb=>sset b (fun e1=>hkB hr' (by decide) (by rw [hb,e1])))
  exact LE.more h1 h2 h3 m1 hF (hX.of_block (fun b hb=>hsU b (hXU b hb).1)) hok hmx (fun b hb=>(hXU b hb).2) hlr
 ·refine h.W.keep m1 (fun b hb=>⟨hF b hb,fun e1=>?_⟩) (fun b hb=>.inl hb)
  obtain⟨c,fz,hk⟩:=h.W.lt b e1
  rcases hb with hb | hb
  ·rw [hb,h.B] at hk; simp at hk
  ·obtain⟨c2,fz2,hk2⟩:=h1.long.kind b hb
   rw [hk] at hk2
   simp at hk2
 ·refine h.L.keep m1 (fun b hb=>⟨hF b hb,fun e1=>?_⟩) (fun b hb=>.inl hb)
  obtain⟨c,fz,hk⟩:=h.L.lt b e1
  rcases hb with hb | hb
  ·rw [hb,h.B] at hk; simp at hk
  ·obtain⟨c2,fz2,hk2⟩:=h1.long.kind b hb
   rw [hk] at hk2
   simp at hk2
 ·obtain⟨o0,o1,o2,o3,o4,o5⟩:=h.out b hb
  refine⟨o0,o1,o2,?_,o4,o5⟩
  intro e1
  have hbl:=Nat.lt_of_lt_of_le (h.old b hb) h.sz
  rcases hlo b e1 with e2 | e2
  ·exact o3 e2
  ·omega
 ·obtain⟨n0,n1,n2,n3,n4,n5⟩:=h.new
  refine⟨n0,n1,n2,?_,n4,n5⟩
  intro b e1
  have hbl:=h.B0.size
  rcases hlo b e1 with e2 | e2
  ·exact n3 b e2
  ·omega
 ·exact h.B0.trans (m1.below h.B0.size (fun b hb=>hb.elim (fun e1=>by rw [e1]; exact h.new.1) (h.new.2.2.2.1 b)))
theorem TBs.addW (h:TBs w0 w1 bk U A NI NR NG NW NL v lI lR lG lW lL) {V:Nat→Value}{n:Nat→Nat}{C:Nat→Nat→Value}(h1:Lk 69 24 1 v lW NW V n C) (h2:∀ j,j < NW→oqW (C j) (n j)∧n j≤100000000) (h3:∀ b,bks NW V b→A b) {X:Value}{mx:Nat}{f:Nat→Value}(hX:RowX w1 69 1 X mx f) (hok:oqW f mx) (hmx:mx≤100000000) (hXU:∀ b,X.ownBlock=some b→U b∧¬ A b)
  {g cap:Nat}{w':World}(hr:Row w' 24 1 (.slice (some ⟨g,0,none⟩) (NW+1) cap) (NW+1) (fun j=>if j=NW then X else V j)) (hg:(v.alloc (.cells #[X] 24)).grownBy w' lW.ownBlock) (hq:lW.ownBlock=some g∨g=v§+1) {lv':Value}(hlv:lv'=.slice (some ⟨g,0,none⟩) (NW+1) cap) :
  w'.heap[bk]? = some (.cells (trZ lI lG lR lW lL) 52 (0,0))∧(∀ b,U b→w'.heap[b]? = w1.heap[b]?)∧TBs w0 w1 bk U (fun b=>A b∨X.ownBlock=some b) NI NR NG (NW+1) NL (w'.setCell ⟨bk,10,none⟩ lv') lI lR lG lv' lL:=by
 have hbk:=(Array.getElem?_eq_some_iff.1 h.B).1
 have kd:∀ b,lW.ownBlock=some b→b≠bk:=fun b hb e1=>by
  obtain⟨c,fz,hk⟩:=h1.long.kind b hb
  rw [e1,h.B] at hk
  simp at hk
 have m0:Mv v w' (fun b=>lW.ownBlock=some b):=((Mv.refl v _).alloc _).grown hg (fun b e1=>.inl e1)
 have hB:w'.heap[bk]? = some (.cells (trZ lI lG lR lW lL) 52 (0,0)):=(m0.block bk hbk (fun e1=>kd bk e1 rfl)).trans h.B
 have hsm:∀ b,U b→w'.heap[b]? = w1.heap[b]?:=fun b hb=>(m0.block b (Nat.lt_of_lt_of_le (h.old b hb) h.sz) (h.out b hb).2.2.2.2.1).trans (h.same b hb)
 have m1:Mv v (w'.setCell ⟨bk,10,none⟩ lv') (fun b=>b=bk∨lW.ownBlock=some b):=(m0.mono (fun b hb=>.inr hb)).setCell (.inl (.inl rfl)) _
 have hF:∀ b,(b=bk∨lW.ownBlock=some b)→¬ A b:=fun b hb ha=>hb.elim (h.out b (h.sub b ha)).1 (h.out b (h.sub b ha)).2.2.2.2.1
 have sset:∀ b,b≠bk→(w'.setCell ⟨bk,10,none⟩ lv').heap[b]? = w'.heap[b]?:=fun b hb=>Below.heap_setCell _ _ _ _ hb
 have hsU:∀ b,U b→(w'.setCell ⟨bk,10,none⟩ lv').heap[b]? = w1.heap[b]?:=fun b hb=>(sset b (h.out b hb).1).trans (hsm b hb)
 have hkB:∀ {e1:TypeId}{s1 m1:Nat}{x:Value}{f1:Nat→Value},Row w' e1 s1 x m1 f1→e1≠52→x.ownBlock≠some bk:=fun hx he e2=>by
  obtain⟨c,fz,hk⟩:=hx.kind bk e2
  rw [hB] at hk
  simp at hk
  exact he hk.2.1.symm
 have hlo:∀ b,lv'.ownBlock=some b→lW.ownBlock=some b∨b=v§+1:=fun b hb=>by
  rw [hlv] at hb
  have eg:g=b:=by simpa [Value.ownBlock] using hb
  rw [← eg]; exact hq
 have hzz:=m1.size
 refine⟨hB,hsm,⟨?_,?_,?_,?_,?_,?_,fun b hb=>hb.elim (h.sub b) (fun e1=>(hXU b e1).1),fun b hb=>?_,h.old,hsU,Nat.le_trans h.sz hzz,?_,?_⟩⟩
 ·rw [hlv]; exact Hs0 _ hB
 ·refine h.I.keep m1 (fun b hb=>⟨hF b hb,fun e1=>?_⟩) (fun b hb=>.inl hb)
  obtain⟨c,fz,hk⟩:=h.I.lt b e1
  rcases hb with hb | hb
  ·rw [hb,h.B] at hk; simp at hk
  ·obtain⟨c2,fz2,hk2⟩:=h1.long.kind b hb
   rw [hk] at hk2
   simp at hk2
 ·refine h.R.keep m1 (fun b hb=>⟨hF b hb,fun e1=>?_⟩) (fun b hb=>.inl hb)
  obtain⟨c,fz,hk⟩:=h.R.lt b e1
  rcases hb with hb | hb
  ·rw [hb,h.B] at hk; simp at hk
  ·obtain⟨c2,fz2,hk2⟩:=h1.long.kind b hb
   rw [hk] at hk2
   simp at hk2
 ·refine h.G.keep m1 (fun b hb=>⟨hF b hb,fun e1=>?_⟩) (fun b hb=>.inl hb)
  obtain⟨c,fz,hk⟩:=h.G.lt b e1
  rcases hb with hb | hb
  ·rw [hb,h.B] at hk; simp at hk
  ·obtain⟨c2,fz2,hk2⟩:=h1.long.kind b hb
   rw [hk] at hk2
   simp at hk2
 ·have hlr:Row (w'.setCell ⟨bk,10,none⟩ lv') 24 1 lv' (NW+1) (fun j=>if j=NW then X else V j):=by
   have hr':Row w' 24 1 lv' (NW+1) (fun j=>if j=NW then X else V j):=by rw [hlv]; exact hr
   exact hr'.of_block (fun b hb=>sset b (fun e1=>hkB hr' (by decide) (by rw [hb,e1])))
  exact LE.more h1 h2 h3 m1 hF (hX.of_block (fun b hb=>hsU b (hXU b hb).1)) hok hmx (fun b hb=>(hXU b hb).2) hlr
 ·refine h.L.keep m1 (fun b hb=>⟨hF b hb,fun e1=>?_⟩) (fun b hb=>.inl hb)
  obtain⟨c,fz,hk⟩:=h.L.lt b e1
  rcases hb with hb | hb
  ·rw [hb,h.B] at hk; simp at hk
  ·obtain⟨c2,fz2,hk2⟩:=h1.long.kind b hb
   rw [hk] at hk2
   simp at hk2
 ·obtain⟨o0,o1,o2,o3,o4,o5⟩:=h.out b hb
  refine⟨o0,o1,o2,o3,?_,o5⟩
  intro e1
  have hbl:=Nat.lt_of_lt_of_le (h.old b hb) h.sz
  rcases hlo b e1 with e2 | e2
  ·exact o4 e2
  ·omega
 ·obtain⟨n0,n1,n2,n3,n4,n5⟩:=h.new
  refine⟨n0,n1,n2,n3,?_,n5⟩
  intro b e1
  have hbl:=h.B0.size
  rcases hlo b e1 with e2 | e2
  ·exact n4 b e2
  ·omega
 ·exact h.B0.trans (m1.below h.B0.size (fun b hb=>hb.elim (fun e1=>by rw [e1]; exact h.new.1) (h.new.2.2.2.2.1 b)))
theorem TBs.addL (h:TBs w0 w1 bk U A NI NR NG NW NL v lI lR lG lW lL) {V:Nat→Value}{n:Nat→Nat}{C:Nat→Nat→Value}(h1:Lk 2 22 1 v lL NL V n C) (h2:∀ j,j < NL→oqL (C j) (n j)∧n j≤100000000) (h3:∀ b,bks NL V b→A b) {X:Value}{mx:Nat}{f:Nat→Value}(hX:RowX w1 2 1 X mx f) (hok:oqL f mx) (hmx:mx≤100000000) (hXU:∀ b,X.ownBlock=some b→U b∧¬ A b)
  {g cap:Nat}{w':World}(hr:Row w' 22 1 (.slice (some ⟨g,0,none⟩) (NL+1) cap) (NL+1) (fun j=>if j=NL then X else V j)) (hg:(v.alloc (.cells #[X] 22)).grownBy w' lL.ownBlock) (hq:lL.ownBlock=some g∨g=v§+1) {lv':Value}(hlv:lv'=.slice (some ⟨g,0,none⟩) (NL+1) cap) :
  w'.heap[bk]? = some (.cells (trZ lI lG lR lW lL) 52 (0,0))∧(∀ b,U b→w'.heap[b]? = w1.heap[b]?)∧TBs w0 w1 bk U (fun b=>A b∨X.ownBlock=some b) NI NR NG NW (NL+1) (w'.setCell ⟨bk,11,none⟩ lv') lI lR lG lW lv':=by
 have hbk:=(Array.getElem?_eq_some_iff.1 h.B).1
 have kd:∀ b,lL.ownBlock=some b→b≠bk:=fun b hb e1=>by
  obtain⟨c,fz,hk⟩:=h1.long.kind b hb
  rw [e1,h.B] at hk
  simp at hk
 have m0:Mv v w' (fun b=>lL.ownBlock=some b):=((Mv.refl v _).alloc _).grown hg (fun b e1=>.inl e1)
 have hB:w'.heap[bk]? = some (.cells (trZ lI lG lR lW lL) 52 (0,0)):=(m0.block bk hbk (fun e1=>kd bk e1 rfl)).trans h.B
 have hsm:∀ b,U b→w'.heap[b]? = w1.heap[b]?:=fun b hb=>(m0.block b (Nat.lt_of_lt_of_le (h.old b hb) h.sz) (h.out b hb).2.2.2.2.2).trans (h.same b hb)
 have m1:Mv v (w'.setCell ⟨bk,11,none⟩ lv') (fun b=>b=bk∨lL.ownBlock=some b):=(m0.mono (fun b hb=>.inr hb)).setCell (.inl (.inl rfl)) _
 have hF:∀ b,(b=bk∨lL.ownBlock=some b)→¬ A b:=fun b hb ha=>hb.elim (h.out b (h.sub b ha)).1 (h.out b (h.sub b ha)).2.2.2.2.2
 have sset:∀ b,b≠bk→(w'.setCell ⟨bk,11,none⟩ lv').heap[b]? = w'.heap[b]?:=fun b hb=>Below.heap_setCell _ _ _ _ hb
 have hsU:∀ b,U b→(w'.setCell ⟨bk,11,none⟩ lv').heap[b]? = w1.heap[b]?:=fun b hb=>(sset b (h.out b hb).1).trans (hsm b hb)
 have hkB:∀ {e1:TypeId}{s1 m1:Nat}{x:Value}{f1:Nat→Value},Row w' e1 s1 x m1 f1→e1≠52→x.ownBlock≠some bk:=fun hx he e2=>by
  obtain⟨c,fz,hk⟩:=hx.kind bk e2
  rw [hB] at hk
  simp at hk
  exact he hk.2.1.symm
 have hlo:∀ b,lv'.ownBlock=some b→lL.ownBlock=some b∨b=v§+1:=fun b hb=>by
  rw [hlv] at hb
  have eg:g=b:=by simpa [Value.ownBlock] using hb
  rw [← eg]; exact hq
 have hzz:=m1.size
 refine⟨hB,hsm,⟨?_,?_,?_,?_,?_,?_,fun b hb=>hb.elim (h.sub b) (fun e1=>(hXU b e1).1),fun b hb=>?_,h.old,hsU,Nat.le_trans h.sz hzz,?_,?_⟩⟩
 ·rw [hlv]; exact Hs0 _ hB
 ·refine h.I.keep m1 (fun b hb=>⟨hF b hb,fun e1=>?_⟩) (fun b hb=>.inl hb)
  obtain⟨c,fz,hk⟩:=h.I.lt b e1
  rcases hb with hb | hb
  ·rw [hb,h.B] at hk; simp at hk
  ·obtain⟨c2,fz2,hk2⟩:=h1.long.kind b hb
   rw [hk] at hk2
   simp at hk2
 ·refine h.R.keep m1 (fun b hb=>⟨hF b hb,fun e1=>?_⟩) (fun b hb=>.inl hb)
  obtain⟨c,fz,hk⟩:=h.R.lt b e1
  rcases hb with hb | hb
  ·rw [hb,h.B] at hk; simp at hk
  ·obtain⟨c2,fz2,hk2⟩:=h1.long.kind b hb
   rw [hk] at hk2
   simp at hk2
 ·refine h.G.keep m1 (fun b hb=>⟨hF b hb,fun e1=>?_⟩) (fun b hb=>.inl hb)
  obtain⟨c,fz,hk⟩:=h.G.lt b e1
  rcases hb with hb | hb
  ·rw [hb,h.B] at hk; simp at hk
  ·obtain⟨c2,fz2,hk2⟩:=h1.long.kind b hb
   rw [hk] at hk2
   simp at hk2
 ·refine h.W.keep m1 (fun b hb=>⟨hF b hb,fun e1=>?_⟩) (fun b hb=>.inl hb)
  obtain⟨c,fz,hk⟩:=h.W.lt b e1
  rcases hb with hb | hb
  ·rw [hb,h.B] at hk; simp at hk
  ·obtain⟨c2,fz2,hk2⟩:=h1.long.kind b hb
   rw [hk] at hk2
   simp at hk2
 ·have hlr:Row (w'.setCell ⟨bk,11,none⟩ lv') 22 1 lv' (NL+1) (fun j=>if j=NL then X else V j):=by
   have hr':Row w' 22 1 lv' (NL+1) (fun j=>if j=NL then X else V j):=by rw [hlv]; exact hr
   exact hr'.of_block (fun b hb=>sset b (fun e1=>hkB hr' (by decide) (by rw [hb,e1])))
  exact LE.more h1 h2 h3 m1 hF (hX.of_block (fun b hb=>hsU b (hXU b hb).1)) hok hmx (fun b hb=>(hXU b hb).2) hlr
 ·obtain⟨o0,o1,o2,o3,o4,o5⟩:=h.out b hb
  refine⟨o0,o1,o2,o3,o4,?_⟩
  intro e1
  have hbl:=Nat.lt_of_lt_of_le (h.old b hb) h.sz
  rcases hlo b e1 with e2 | e2
  ·exact o5 e2
  ·omega
 ·obtain⟨n0,n1,n2,n3,n4,n5⟩:=h.new
  refine⟨n0,n1,n2,n3,n4,?_⟩
  intro b e1
  have hbl:=h.B0.size
  rcases hlo b e1 with e2 | e2
  ·exact n5 b e2
  ·omega
 ·exact h.B0.trans (m1.below h.B0.size (fun b hb=>hb.elim (fun e1=>by rw [e1]; exact h.new.1) (h.new.2.2.2.2.2 b)))
theorem TBs.own (h:TBs w0 w1 bk U A NI NR NG NW NL v lI lR lG lW lL) (hm:NI≤1000000∧NR≤1000000∧NG≤1000000∧NW≤1000000∧NL≤1000000):Calls zG 21 #[zP bk] v fun e w'=>e=.returned (.bool true)∧Mv v w' A:=by
 obtain⟨VI,nI,CI,i1,i2,i3⟩:=h.I
 obtain⟨VR,nR,CR,r1,r2,r3⟩:=h.R
 obtain⟨VG,nG,CG,g1,g2,g3⟩:=h.G
 obtain⟨VW,nW,CW,w1,w2,w3⟩:=h.W
 obtain⟨VL,nL,CL,l1,l2,l3⟩:=h.L
 refine (treesOwn_any v bk lI lR lG lW lL NI NR NG NW NL VI VR VG VW VL nI nR nG nW nL CI CR CG CW CL ⟨h.B,i1,r1,g1,w1,l1,fun j k hj hk=>(i2 j hj).1 k hk,fun j k hj hk=>(r2 j hj).1 k hk,fun j k hj hk=>(g2 j hj).1 k hk,fun j k hj hk=>(w2 j hj).1 k hk,fun j k hj hk=>(l2 j hj).1 k hk,hm,fun j hj=>(i2 j hj).2,fun j hj=>(r2 j hj).2,fun j hj=>(g2 j hj).2,fun j hj=>(w2 j hj).2,fun j hj=>(l2 j hj).2⟩).mono ?_
 rintro e w' ⟨h1,h2⟩
 exact⟨h1,h2.mono (fun b hb=>hb.elim (i3 b) (fun hb=>hb.elim (r3 b) (fun hb=>hb.elim (g3 b) (fun hb=>hb.elim (w3 b) (l3 b)))))⟩
end
theorem cutZ97 {P:Program}{c:Code}{Q:Exit→Act→World→Prop}{a:Act}{w:World}(A:Value→Value→Value→Value→Value→Value→Value→Value→Value→Value→Value→Value→Value→Value→Value→Value→Value→Value→Value→Value→Value→Value→Value→Value→Value→Value→Value→Value→Value→Value→Value→Value→Value→Value→Value→Value→Value→Value→Value→Value→Value→Value→Value→Value→Value→Value→Value→Value→Value→Value→Value→Value→Value→Value→Value→Value→Value→Value→Value→Value→Value→Value→Value→Value→Value→Value→Value→Value→Value→Value→Value→Value→Value→Value→Value→Value→Value→Value→Value→Value→Value→Value→Value→Value→Value→Value→Value→Value→Value→Value→Value→Value→Value→Value→Value→Value→Value→Act) (I:World→Prop) (f:Hid (∀ (y0 y1 y2 y3 y4 y5 y6 y7 y8 y9 y10 y11 y12 y13 y14 y15 y16 y17 y18 y19 y20 y21 y22 y23 y24 y25 y26 y27 y28 y29 y30 y31 y32 y33 y34 y35 y36 y37 y38 y39 y40 y41 y42 y43 y44 y45 y46 y47 y48 y49 y50 y51 y52 y53 y54 y55 y56 y57 y58 y59 y60 y61 y62 y63 y64 y65 y66 y67 y68 y69 y70 y71 y72 y73 y74 y75 y76 y77 y78 y79 y80 y81 y82 y83 y84 y85 y86 y87 y88 y89 y90 y91 y92 y93 y94 y95 y96:Value) (w':World),I w'→Q .normal (A y0 y1 y2 y3 y4 y5 y6 y7 y8 y9 y10 y11 y12 y13 y14 y15 y16 y17 y18 y19 y20 y21 y22 y23 y24 y25 y26 y27 y28 y29 y30 y31 y32 y33 y34 y35 y36 y37 y38 y39 y40 y41 y42 y43 y44 y45 y46 y47 y48 y49 y50 y51 y52 y53 y54 y55 y56 y57 y58 y59 y60 y61 y62 y63 y64 y65 y66 y67 y68 y69 y70 y71 y72 y73 y74 y75 y76 y77 y78 y79 y80 y81 y82 y83 y84 y85 y86 y87 y88 y89 y90 y91 y92 y93 y94 y95 y96) w')→c.wp P Q a w) (h:∀ (y0 y1 y2 y3 y4 y5 y6 y7 y8 y9 y10 y11 y12 y13 y14 y15 y16 y17 y18 y19 y20 y21 y22 y23 y24 y25 y26 y27 y28 y29 y30 y31 y32 y33 y34 y35 y36 y37 y38 y39 y40 y41 y42 y43 y44 y45 y46 y47 y48 y49 y50 y51 y52 y53 y54 y55 y56 y57 y58 y59 y60 y61 y62 y63 y64 y65 y66 y67 y68 y69 y70 y71 y72 y73 y74 y75 y76 y77 y78 y79 y80 y81 y82 y83 y84 y85 y86 y87 y88 y89 y90 y91 y92 y93 y94 y95 y96:Value) (w':World),I w'→Q .normal (A y0 y1 y2 y3 y4 y5 y6 y7 y8 y9 y10 y11 y12 y13 y14 y15 y16 y17 y18 y19 y20 y21 y22 y23 y24 y25 y26 y27 y28 y29 y30 y31 y32 y33 y34 y35 y36 y37 y38 y39 y40 y41 y42 y43 y44 y45 y46 y47 y48 y49 y50 y51 y52 y53 y54 y55 y56 y57 y58 y59 y60 y61 y62 y63 y64 y65 y66 y67 y68 y69 y70 y71 y72 y73 y74 y75 y76 y77 y78 y79 y80 y81 y82 y83 y84 y85 y86 y87 y88 y89 y90 y91 y92 y93 y94 y95 y96) w'):c.wp P Q a w:=f h
section
variable {w0 w1 v v' : World} {bk : Nat} {U A A' : Nat → Prop} {NI NR NG NW NL : Nat} {lI lR lG lW lL : Value}
theorem TBs.below (h:TBs w0 w1 bk U A NI NR NG NW NL v lI lR lG lW lL) (k:Below v§ v v'):TBs w0 w1 bk U A NI NR NG NW NL v' lI lR lG lW lL:=by
 have m:Mv v v' (fun _=>False):=Mv.ofBelow k
 exact⟨(k.block bk (Array.getElem?_eq_some_iff.1 h.B).1).trans h.B,h.I.keep m (fun _ e=>e.elim) (fun _ e=>e),h.R.keep m (fun _ e=>e.elim) (fun _ e=>e),h.G.keep m (fun _ e=>e.elim) (fun _ e=>e),h.W.keep m (fun _ e=>e.elim) (fun _ e=>e),h.L.keep m (fun _ e=>e.elim) (fun _ e=>e),h.sub,h.out,h.old,fun b hb=>(k.block b (Nat.lt_of_lt_of_le (h.old b hb) h.sz)).trans (h.same b hb),Nat.le_trans h.sz k.size,h.new,h.B0.trans (k.mono h.B0.size)⟩
theorem LE.mono {e le:TypeId}{s:Nat}{ok:(Nat→Value)→Nat→Prop}{lv:Value}{N:Nat}(h:LE e le s ok A v lv N) (hA:∀ b,A b→A' b):LE e le s ok A' v lv N:=by
 obtain⟨V,n,C,h1,h2,h3⟩:=h
 exact⟨V,n,C,h1,h2,fun b hb=>hA b (h3 b hb)⟩
theorem TBs.mono (h:TBs w0 w1 bk U A NI NR NG NW NL v lI lR lG lW lL) (h1:∀ b,A b→A' b) (h2:∀ b,A' b→U b):TBs w0 w1 bk U A' NI NR NG NW NL v lI lR lG lW lL :=
 ⟨h.B,h.I.mono h1,h.R.mono h1,h.G.mono h1,h.W.mono h1,h.L.mono h1,h2,h.out,h.old,h.same,h.sz,h.new,h.B0⟩
end
structure TO (w1:World) (U A:Nat→Prop) (vR vC vD vT:Value) (nT:Nat) (stV:Nat→Value) (nG:Nat→Nat) (rwV:Nat→Nat→Value):Prop where
 R:∃ m f,RowX w1 2 1 vR m f∧oqL f m∧m≤100000000
 C:∃ m f,RowX w1 2 1 vC m f∧oqL f m∧m≤100000000
 D:∃ m f,RowX w1 61 2 vD m f∧oqI f m∧m≤100000000
 T:∃ f,RowX w1 69 1 vT nT f∧(∀ i,i < nT→f i=stV i)∧nT≤100000
 S:∀ i,i < nT→∃ f,RowX w1 68 5 (stV i) (nG i) f∧oqG f (nG i)∧nG i≤1000000∧∀ k,k < nG i→f (k * 5+4)=rwV i k
 X:∀ i,i < nT→∀ k,k < nG i→∃ m f,RowX w1 85 11 (rwV i k) m f∧oqR f m∧m≤100000000
 uR:∀ b,vR.ownBlock=some b→U b∧¬ A b
 uC:∀ b,vC.ownBlock=some b→U b∧¬ A b∧vR.ownBlock≠some b
 uD:∀ b,vD.ownBlock=some b→U b∧¬ A b
 uT:∀ b,vT.ownBlock=some b→U b∧¬ A b
 uS:∀ i,i < nT→∀ b,(stV i).ownBlock=some b→U b∧¬ A b∧∀ j,j < i→(stV j).ownBlock≠some b
 uX:∀ i,i < nT→∀ k,k < nG i→∀ b,(rwV i k).ownBlock=some b→U b∧¬ A b∧∀ j k',(j < i∨(j=i∧k' < k))→k' < nG j→(rwV j k').ownBlock≠some b
def AA (A:Nat→Prop) (vR vC vD vT:Value) (nT:Nat) (stV:Nat→Value) (nG:Nat→Nat) (rwV:Nat→Nat→Value) (i' i k b:Nat):Prop :=
 (A b∨vR.ownBlock=some b∨vC.ownBlock=some b∨vD.ownBlock=some b∨vT.ownBlock=some b)∨(∃ j,j < i'∧j < nT∧(stV j).ownBlock=some b)∨∃ j k',(j < i∨(j=i∧k' < k))∧j < nT∧k' < nG j∧(rwV j k').ownBlock=some b
section
variable {w0 w1 v : World} {bk : Nat} {U A : Nat → Prop} {NI NR NG NW NL : Nat} {lI lR lG lW lL vR vC vD vT : Value} {nT : Nat} {stV : Nat → Value} {nG : Nat → Nat} {rwV : Nat → Nat → Value}
theorem TO.sub (h:TO w1 U A vR vC vD vT nT stV nG rwV) (hA:∀ b,A b→U b) (i' i k b:Nat) (hb:AA A vR vC vD vT nT stV nG rwV i' i k b):U b:=by
 rcases hb with (hb | hb | hb | hb | hb) | ⟨j,_,hj,hb⟩ | ⟨j,k',_,hj,hk,hb⟩
 ·exact hA b hb
 ·exact (h.uR b hb).1
 ·exact (h.uC b hb).1
 ·exact (h.uD b hb).1
 ·exact (h.uT b hb).1
 ·exact (h.uS j hj b hb).1
 ·exact (h.uX j hj k' hk b hb).1
theorem TO.g_new (h:TO w1 U A vR vC vD vT nT stV nG rwV) {i:Nat}(hi:i < nT) (b:Nat) (hb:(stV i).ownBlock=some b):¬ AA A vR vC vD vT nT stV nG rwV i i 0 b:=by
 obtain⟨f,hr,_⟩:=h.S i hi
 rintro ((e | e | e | e | e) | ⟨j,h1,h2,e⟩ | ⟨j,k',_,hj,hk,e⟩)
 ·exact (h.uS i hi b hb).2.1 e
 ·obtain⟨m,f',hx,_⟩:=h.R; exact hr.apartX hx (by decide) b hb e
 ·obtain⟨m,f',hx,_⟩:=h.C; exact hr.apartX hx (by decide) b hb e
 ·obtain⟨m,f',hx,_⟩:=h.D; exact hr.apartX hx (by decide) b hb e
 ·obtain⟨f',hx,_⟩:=h.T; exact hr.apartX hx (by decide) b hb e
 ·exact (h.uS i hi b hb).2.2 j h1 e
 ·obtain⟨m,f',hx,_⟩:=h.X j hj k' hk; exact hr.apartX hx (by decide) b hb e
theorem TO.r_new (h:TO w1 U A vR vC vD vT nT stV nG rwV) {i k:Nat}(hi:i < nT) (hk:k < nG i) (b:Nat) (hb:(rwV i k).ownBlock=some b):¬ AA A vR vC vD vT nT stV nG rwV (i+1) i k b:=by
 obtain⟨m0,f,hr,_⟩:=h.X i hi k hk
 rintro ((e | e | e | e | e) | ⟨j,h1,h2,e⟩ | ⟨j,k',h1,hj,hk',e⟩)
 ·exact (h.uX i hi k hk b hb).2.1 e
 ·obtain⟨m,f',hx,_⟩:=h.R; exact hr.apartX hx (by decide) b hb e
 ·obtain⟨m,f',hx,_⟩:=h.C; exact hr.apartX hx (by decide) b hb e
 ·obtain⟨m,f',hx,_⟩:=h.D; exact hr.apartX hx (by decide) b hb e
 ·obtain⟨f',hx,_⟩:=h.T; exact hr.apartX hx (by decide) b hb e
 ·obtain⟨f',hx,_⟩:=h.S j h2; exact hr.apartX hx (by decide) b hb e
 ·exact (h.uX i hi k hk b hb).2.2 j k' h1 hk' e
theorem AA.g_put {i b:Nat}(hi:i < nT) (h:AA A vR vC vD vT nT stV nG rwV i i 0 b∨(stV i).ownBlock=some b):AA A vR vC vD vT nT stV nG rwV (i+1) i 0 b:=by
 rcases h with (h | ⟨j,h1,h2,e⟩ | h) | h
 ·exact .inl h
 ·exact .inr (.inl ⟨j,by omega,h2,e⟩)
 ·exact .inr (.inr h)
 ·exact .inr (.inl ⟨i,by omega,hi,h⟩)
theorem AA.r_put {i k b:Nat}(hi:i < nT) (hk:k < nG i) (h:AA A vR vC vD vT nT stV nG rwV (i+1) i k b∨(rwV i k).ownBlock=some b):AA A vR vC vD vT nT stV nG rwV (i+1) i (k+1) b:=by
 rcases h with (h | h | ⟨j,k',h1,h2,h3,e⟩) | h
 ·exact .inl h
 ·exact .inr (.inl h)
 ·exact .inr (.inr ⟨j,k',by omega,h2,h3,e⟩)
 ·exact .inr (.inr ⟨i,k,by omega,hi,hk,h⟩)
theorem AA.turn {i b:Nat}(h:AA A vR vC vD vT nT stV nG rwV (i+1) i (nG i) b):AA A vR vC vD vT nT stV nG rwV (i+1) (i+1) 0 b:=by
 rcases h with h | h | ⟨j,k',h1,h2,h3,e⟩
 ·exact .inl h
 ·exact .inr (.inl h)
 ·exact .inr (.inr ⟨j,k',by omega,h2,h3,e⟩)
theorem AA.start {b:Nat}(h:((((A b∨vR.ownBlock=some b)∨vC.ownBlock=some b)∨vD.ownBlock=some b)∨vT.ownBlock=some b)):AA A vR vC vD vT nT stV nG rwV 0 0 0 b:=by
 refine .inl ?_
 rcases h with (((h | h) | h) | h) | h
 ·exact .inl h
 ·exact .inr (.inl h)
 ·exact .inr (.inr (.inl h))
 ·exact .inr (.inr (.inr (.inl h)))
 ·exact .inr (.inr (.inr (.inr h)))
end
end Go.Proofs.YteedmmljahgpjaaGreatDoor
