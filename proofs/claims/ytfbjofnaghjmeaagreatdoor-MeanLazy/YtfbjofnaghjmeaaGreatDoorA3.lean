import Derived.Test.YtfbjofnaghjmeaaGreatDoorA2
import Derived.Lib.Bytealg
import Derived.LaidLaws
import Derived.WalkMore
import Derived.Deep.RegionHeld3
import Derived.RangeFuncNested
import Derived.RangeFuncBound
import Derived.RangeFuncCalls
import Derived.RangeFuncLeaves
import Derived.Shelf.Abstract
import Derived.Shelf.RegionOpen
import Derived.OwnWalkIn
import Derived.TacticsInMore
import Derived.LoopNIn
import Derived.LoopIn
import Derived.Laws.EntriesVeiled
namespace Go.Proofs.YtfbjofnaghjmeaaGreatDoor
open Go.Proofs.Tryz
open Go.RowKit
def oneQ (s:yB) (f:Nat):Nat:=oneP s f+(oneT s f).x.size
def begO (s:yB) (f:Nat):List Tk × Int × Int :=
 if oneE s f≠0 then ([],oneE s f,oneB s f)
 else if (oneT s f).k=0 then ([oneT s f],0,0)
 else if _h:f < oneQ s f∧oneQ s f≤s.size then (oneT s f :: (begO s (oneQ s f)).1,(begO s (oneQ s f)).2)
 else ([],0,0)
termination_by s.size - f
decreasing_by all_goals omega
theorem Un {s:yB}{f:Nat}(h:oneE s f≠0):begO s f=([],oneE s f,oneB s f):=by
 rw [begO,if_pos h]
theorem Um {s:yB}{f:Nat}(h:oneE s f=0) (hk:(oneT s f).k=0):begO s f=([oneT s f],0,0):=by
 rw [begO,if_neg (by simp [h]),if_pos hk]
theorem Xq {s:yB}{f:Nat}(hf:f≤s.size) (h:oneE s f=0) (hk:¬ (oneT s f).k=0):f < oneQ s f∧oneQ s f≤s.size∧(oneT s f).p+((oneT s f).x.size:Int)=(oneQ s f:Nat)∧begO s f=(oneT s f :: (begO s (oneQ s f)).1,(begO s (oneQ s f)).2):=by
 obtain⟨q0,q1,q2,q3⟩:=P6 s f hf h
 have q4:=q3 hk
 have e1:f < oneQ s f:=by unfold oneQ;omega
 have e2:oneQ s f≤s.size:=q2
 refine⟨e1,e2,by rw [q0];unfold oneQ;omega,?_⟩
 rw [begO,if_neg (by simp [h]),if_neg hk,dif_pos ⟨e1,e2⟩]
theorem U4 {P:Program}{fn:Func}{p u v:Tmp}(h:fn.results=#[.tmp p,.tmp u,.tmp v]) (tmps:Array Value) (w:yW):(results fn tmps).run P w=.ok (.tuple #[tmps.getD p undef,tmps.getD u undef,tmps.getD v undef]) w:=by
 simp [results,h]
def tksE (s:yB):Int:=if s.size > 4096 then 110 else (begO s 0).2.1
def tksB (s:yB):Int:=if tksE s=0 then 0 else if s.size > 4096 then 0 else (begO s 0).2.2
def tksL (s:yB):List Tk:=if tksE s=0 then (begO s 0).1 else []
theorem RL.none {W w:yW}(h:yD W w):RL W w (zO) []:=⟨Row.nil _ _ _ _,fun k h=>by simp [Value.ownBlock] at h,h⟩
theorem PD {s:yB}(h:s.size > 4096):tksE s=110∧tksB s=0∧tksL s = []:=by
 have K1:tksE s=110:=by unfold tksE;rw [if_pos h]
 exact⟨K1,by unfold tksB;rw [K1,if_neg (by decide),if_pos h],by unfold tksL;rw [K1,if_neg (by decide)]⟩
theorem Qha:∀ (l m:List UInt8) (r:Bool),ov l r < l.length→ov (l ++ m) r=ov l r
 | [],m,r,h=>absurd h (by simp [ov])
 | c :: l,m,r,h=>by
  rw [List.cons_append,ov,ov]
  rw [ov] at h
  split
  ·rfl
  ·rename_i hc
   rw [if_neg hc] at h
   rw [Qha l m _ (by simp only [List.length_cons] at h;omega)]
theorem Qd1:∀ (l m:List UInt8) (r:Bool),ov l r=l.length→ov (l ++ m) r=l.length+ov m (l.foldl remB r)
 | [],m,r,h=>by simp
 | c :: l,m,r,h=>by
  rw [ov] at h
  by_cases hc:remB r c=false∧Jj c=false
  ·rw [if_pos hc] at h;simp at h
  ·rw [if_neg hc] at h
   rw [List.cons_append,XL hc,Qd1 l m _ (by simp only [List.length_cons] at h;omega)]
   simp only [List.length_cons,List.foldl_cons];omega
theorem Qbj:∀ (l:List UInt8) (r:Bool),ov l r < l.length→ov (l.drop (ov l r)) false=0
 | [],r,h=>absurd h (by simp [ov])
 | c :: l,r,h=>by
  by_cases hc:remB r c=false∧Jj c=false
  ·rw [X6 hc.1 hc.2,List.drop_zero]
   refine X6 ?_ hc.2
   have:=hc.1
   unfold remB at this ⊢
   split at this
   ·exact absurd this (by simp)
   ·rename_i h35
    rw [if_neg h35]
    split <;> rfl
  ·rw [XL hc] at h ⊢
   rw [List.drop_succ_cons]
   exact Qbj l _ (by simp only [List.length_cons] at h;omega)
theorem Qd8 {s:yB}{f:Nat}(h:oneP s f=s.size):oneE s f=0∧oneT s f=⟨0,⟨#[]⟩,0,0,s.size⟩:=by
 unfold oneE oneT
 rw [if_pos h,if_pos h,h]
 exact⟨rfl,rfl⟩
theorem Qes {l:List UInt8}{d:Nat}(h:lxE l=0):∃ k n ty v,lx l=some (k,n,ty,v)∧tkOf l d=⟨k,⟨(l.take n).toArray⟩,ty,v,d⟩:=by
 unfold lxE at h
 unfold tkOf
 cases hl:lx l with
 | none =>
  rw [hl,if_neg (by decide)] at h
  split at h
  ·exact absurd h (by decide)
  ·split at h <;> exact absurd h (by decide)
 | some q =>
  obtain⟨k,n,ty,v⟩:=q
  exact⟨k,n,ty,v,rfl,rfl⟩
def arr (l:List UInt8):yB:=⟨l.toArray⟩
theorem Qfk (l:List UInt8):(arr l).size=l.length:=by unfold arr;simp [ByteArray.size]
structure Good (t:Tk):Prop where
 kk:t.k≠0
 ne:0 < t.x.size
 bl:ov t.x.data.toList false=0
 lk:lx t.x.data.toList=some (t.k,t.x.size,t.ty,t.n)
theorem Qd5 {s:yB}{f:Nat}(hf:f≤s.size) (hE:oneE s f=0) (h:oneP s f≠s.size) :
  Good (oneT s f)∧(oneT s f).p=(oneP s f:Nat)∧f≤oneP s f∧oneP s f+(oneT s f).x.size≤s.size∧s.extract (oneP s f) (oneP s f+(oneT s f).x.size)=(oneT s f).x∧lx (rest s (oneP s f))=some ((oneT s f).k,(oneT s f).x.size,(oneT s f).ty,(oneT s f).n):=by
 obtain⟨e1,e2⟩:=Qd4 s f hf h
 have hP:=XC s f hf
 rw [hE] at e2
 obtain⟨k,n,ty,v,h1,h2⟩:=Qes (d:=oneP s f) e2.symm
 obtain⟨l1,l2,l3⟩:=Qet h1
 have h3:oneT s f=⟨k,arr ((rest s (oneP s f)).take n),ty,v,(oneP s f:Nat)⟩:=e1.trans h2
 have h4:(arr ((rest s (oneP s f)).take n)).size=n:=by rw [Qfk,List.length_take];omega
 have h5:(rest s (oneP s f)).length=s.size - oneP s f:=Jl _ _
 have h6:ov (rest s (oneP s f)) false=0:=by
  have:=Qbj (rest s f) false (by rw [Jl];unfold oneP at hP h;omega)
  rw [UB] at this
  exact this
 rw [h3]
 refine⟨⟨l3,?_,?_,?_⟩,rfl,by unfold oneP;omega,?_,?_,?_⟩
 ·show 0 < (arr _).size
  rw [h4];exact l1
 ·show ov ((rest s (oneP s f)).take n) false=0
  have ht:=Qha ((rest s (oneP s f)).take n) ((rest s (oneP s f)).drop n) false
  rw [List.take_append_drop,h6] at ht
  by_cases hc:ov ((rest s (oneP s f)).take n) false < ((rest s (oneP s f)).take n).length
  ·exact (ht hc).symm
  ·exfalso
   have hq:=Qd1 ((rest s (oneP s f)).take n) ((rest s (oneP s f)).drop n) false (by have:=Qd0 ((rest s (oneP s f)).take n) false;omega)
   rw [List.take_append_drop,h6,List.length_take] at hq
   omega
 ·show lx ((rest s (oneP s f)).take n)=some (k,(arr _).size,ty,v)
  rw [h4];exact Qgf h1
 ·show _+(arr _).size≤_
  rw [h4];omega
 ·show s.extract _ (_+(arr _).size)=arr _
  rw [h4,Pn];rfl
 ·show _=some (k,(arr _).size,ty,v)
  rw [h4];exact h1
def allF (s:yB) (f:Nat):List Tk:=if (begO s f).2.1=0 then (begO s f).1.dropLast else (begO s f).1
def allL (s:yB):List Tk:=if s.size > 4096 then [] else allF s 0
inductive Tr where
 | mk (h:Hd) (ks:List Tr)
inductive Ft where
 | tok (no:Int) (at':Int)
 | lex
def eqX (x:yB) (l:List UInt8):Bool:=x.toList == l
def valT (t:Tk):Int × Int :=
 if eqX t.x [116,114,117,101]=true then (5,1) else if eqX t.x [102,97,108,115,101]=true then (5,0) else if eqX t.x [98,117,121]=true then (6,1) else if eqX t.x [115,101,108,108]=true then (6,2) else (t.ty,t.n)
def gE:yB:=⟨#[]⟩
structure TkC (w:yW) (b o:Nat) (t:Tk):Prop where
 c0:zQ w b¢o (zU t.k)
 c1:zQ w ⟨b,o+1,none⟩ (.string t.x)
 c2:zQ w ⟨b,o+2,none⟩ (zU t.ty)
 c3:zQ w ⟨b,o+3,none⟩ (zI t.n)
 c4:zQ w ⟨b,o+4,none⟩ (zI t.p)
theorem TkC.lt {w:yW}{b o:Nat}{t:Tk}(h:TkC w b o t):b < w§:=World.block_lt_of_cell? w _ h.c0
theorem TkC.blk {w w':yW}{b o:Nat}{t:Tk}(h:TkC w b o t) (k:w'.heap[b]? = w.heap[b]?):TkC w' b o t :=
 ⟨(World.cell?_of_block k).trans h.c0,(World.cell?_of_block k).trans h.c1,(World.cell?_of_block k).trans h.c2,(World.cell?_of_block k).trans h.c3,(World.cell?_of_block k).trans h.c4⟩
theorem QbM {a b:yB}(h:a.data.toList=b.data.toList):a=b:=by
 cases a;cases b;congr 1;exact Array.toList_inj.1 h
theorem Qhw {a b:yB}(h:¬ a=b):(a.toList == b.toList)=false:=by
 rw [ByteArray.toList_eq,ByteArray.toList_eq]
 exact beq_false_of_ne (fun h'=>h (QbM h'))
theorem Q6 (t:Tk) (v:yW):(Instr.field 233 (.agg (tkA t)) 4).run zG v=.ok (zI t.p) v:=by kernel_rfl
theorem Mv.ofBelow {w w':yW}{F:Nat→Prop}(h:yD w w'):Mv w w' F:=⟨h.os,h.tape,h.output,h.size,fun k hk _=>h.block k hk⟩
theorem put5 {w:yW}{b:Nat}{a0 a1 a2 a3 a4:Value}(h:w.heap[b]? = (zC #[a0,a1,a2,a3,a4] 233)) (v0 v1 v2 v3 v4:Value):(((((w.setCell b¢0 v0).setCell b¢1 v1).setCell b¢2 v2).setCell b¢3 v3).setCell b¢4 v4).heap[b]? = (zC #[v0,v1,v2,v3,v4] 233):=by
 have h1:(w.setCell b¢0 v0).heap[b]? = (zC #[v0,a1,a2,a3,a4] 233):=Qp v0 h
 have h2:((w.setCell b¢0 v0).setCell b¢1 v1).heap[b]? = (zC #[v0,v1,a2,a3,a4] 233):=Qp v1 h1
 have h3:(((w.setCell b¢0 v0).setCell b¢1 v1).setCell b¢2 v2).heap[b]? = (zC #[v0,v1,v2,a3,a4] 233):=Qp v2 h2
 have h4:((((w.setCell b¢0 v0).setCell b¢1 v1).setCell b¢2 v2).setCell b¢3 v3).heap[b]? = (zC #[v0,v1,v2,v3,a4] 233):=Qp v3 h3
 exact Qp v4 h4
theorem mv5 {w0 w:yW}{F:Nat→Prop}{b:Nat}(m:Mv w0 w F) (h:w0§≤b) (v0 v1 v2 v3 v4:Value):Mv w0 (((((w.setCell b¢0 v0).setCell b¢1 v1).setCell b¢2 v2).setCell b¢3 v3).setCell b¢4 v4) F :=
 ((((m.setCell (a:=b¢0) (.inr h) v0).setCell (a:=b¢1) (.inr h) v1).setCell (a:=b¢2) (.inr h) v2).setCell (a:=b¢3) (.inr h) v3).setCell (a:=b¢4) (.inr h) v4
theorem Qd {w w1 w2:yW}(h1:yD w w1) (h2:yD w1 w2):yD w w2:=h1.trans (h2.mono h1.size)
open Go.Shelf
set_option linter.unusedVariables false
attribute [local go_sem] Oper.semAt_some
theorem RL.own {w W W':yW}{v:Value}{M:List Tk}{row:Option Nat}(h:RL w W v M) (hg:W.grownBy W' row) (hr:∀ r,row=some r→w§≤r∧∃ o:Obj,W.heap[r]? = some o∧o.isCells=false):RL w W' v M:=by
 refine⟨h.row.kept hg ?_,h.nb,h.B.grown hg h.B.size (fun k hk=>(hr k hk).1)⟩
 cases hv:v.ownBlock with
 | none=>exact .inl rfl
 | some k =>
  right
  intro e
  obtain⟨_,o,ho,hc⟩:=hr k e.symm
  obtain⟨c,fz,hk⟩:=h.row.kind k hv
  rw [hk] at ho
  cases ho
  cases hc
mutual
/-- The expression that a node is, wherever it lies. -/
def Qs:Nd→Tr
 | .mk h _ _ ks=>.mk h (UP ks)
def UP:List Nd→List Tr
 | []=>[]
 | k :: ks=>Qs k :: UP ks
end
theorem put8 {w:yW}{b:Nat}{a0 a1 a2 a3 a4 a5 a6 a7:Value}(h:w.heap[b]? = (zC #[a0,a1,a2,a3,a4,a5,a6,a7] 38)) (v0 v1 v2 v3 v4 v5 v6 v7:Value) :
  ((((((((w.setCell b¢0 v0).setCell b¢1 v1).setCell b¢2 v2).setCell b¢3 v3).setCell b¢4 v4).setCell b¢5 v5).setCell b¢6 v6).setCell b¢7 v7).heap[b]? = (zC #[v0,v1,v2,v3,v4,v5,v6,v7] 38):=by
 have h1:(w.setCell b¢0 v0).heap[b]? = (zC #[v0,a1,a2,a3,a4,a5,a6,a7] 38):=Qp v0 h
 have h2:((w.setCell b¢0 v0).setCell b¢1 v1).heap[b]? = (zC #[v0,v1,a2,a3,a4,a5,a6,a7] 38):=Qp v1 h1
 have h3:(((w.setCell b¢0 v0).setCell b¢1 v1).setCell b¢2 v2).heap[b]? = (zC #[v0,v1,v2,a3,a4,a5,a6,a7] 38):=Qp v2 h2
 have h4:((((w.setCell b¢0 v0).setCell b¢1 v1).setCell b¢2 v2).setCell b¢3 v3).heap[b]? = (zC #[v0,v1,v2,v3,a4,a5,a6,a7] 38):=Qp v3 h3
 have h5:(((((w.setCell b¢0 v0).setCell b¢1 v1).setCell b¢2 v2).setCell b¢3 v3).setCell b¢4 v4).heap[b]? = (zC #[v0,v1,v2,v3,v4,a5,a6,a7] 38):=Qp v4 h4
 have h6:((((((w.setCell b¢0 v0).setCell b¢1 v1).setCell b¢2 v2).setCell b¢3 v3).setCell b¢4 v4).setCell b¢5 v5).heap[b]? = (zC #[v0,v1,v2,v3,v4,v5,a6,a7] 38):=Qp v5 h5
 have h7:(((((((w.setCell b¢0 v0).setCell b¢1 v1).setCell b¢2 v2).setCell b¢3 v3).setCell b¢4 v4).setCell b¢5 v5).setCell b¢6 v6).heap[b]? = (zC #[v0,v1,v2,v3,v4,v5,v6,a7] 38):=Qp v6 h6
 have h8:((((((((w.setCell b¢0 v0).setCell b¢1 v1).setCell b¢2 v2).setCell b¢3 v3).setCell b¢4 v4).setCell b¢5 v5).setCell b¢6 v6).setCell b¢7 v7).heap[b]? = (zC #[v0,v1,v2,v3,v4,v5,v6,v7] 38):=Qp v7 h7
 exact h8
theorem oth8 (w:yW) {b c:Nat}(h:c≠b) (v0 v1 v2 v3 v4 v5 v6 v7:Value):((((((((w.setCell b¢0 v0).setCell b¢1 v1).setCell b¢2 v2).setCell b¢3 v3).setCell b¢4 v4).setCell b¢5 v5).setCell b¢6 v6).setCell b¢7 v7).heap[c]? = w.heap[c]?:=by
 iterate 8 (refine (Below.heap_setCell _ _ _ _ (show c≠b from h)).trans ?_)
 rfl
theorem fin8 {U:yW}{b:Nat}{a0 a1 a2 a3 a4 a5 a6 a7:Value}(h:U.heap[b]? = (zC #[a0,a1,a2,a3,a4,a5,a6,a7] 38)) (v0 v1 v2 v3 v4 v5 v6 v7:Value) :
  ∃ Y,((((((((U.setCell b¢0 v0).setCell b¢1 v1).setCell b¢2 v2).setCell b¢3 v3).setCell b¢4 v4).setCell b¢5 v5).setCell b¢6 v6).setCell b¢7 v7)=Y∧Y.heap[b]? = (zC #[v0,v1,v2,v3,v4,v5,v6,v7] 38)∧Y§=U§∧(∀ k,k≠b→Y.heap[k]? = U.heap[k]?)∧(∀ (w:yW) (F:Nat→Prop),Mv w U F→w§≤b→Mv w Y F):=by
 refine⟨_,rfl,put8 h _ _ _ _ _ _ _ _,?_,fun k hk=>oth8 _ hk _ _ _ _ _ _ _ _,fun w F m hb=>?_⟩
 ·simp [World.setCell]
 ·exact (((((((m.setCell (a:=b¢0) (.inr hb) v0).setCell (a:=b¢1) (.inr hb) v1).setCell (a:=b¢2) (.inr hb) v2).setCell (a:=b¢3) (.inr hb) v3).setCell (a:=b¢4) (.inr hb) v4).setCell (a:=b¢5) (.inr hb) v5).setCell (a:=b¢6) (.inr hb) v6).setCell (a:=b¢7) (.inr hb) v7
set_option maxRecDepth 100000
structure PK where
 a:Option Addr
 c:Nat
 T:List Tk
 be:Int
 ba:Int
 /-- The text is too long. -/
 lg:Bool
structure Pr (w:yW) (b:Nat) (K:PK) (i:Nat) (e p:Int) (t:Bool):Prop where
 h:w.heap[b]? = (zC #[.slice K.a K.T.length K.c,zI K.be,zI K.ba,zI i,zI e,zI p,.bool t] 168)
 l:i≤K.T.length
 m:K.T.length≤1000000
 z:K.lg=true→e=110∧p=0∧t=true
 r:∀ j (hj:j < K.T.length),∃ G o,K.a=some G¢o∧G≠b∧TkC w G (o+j * 5) K.T[j]
theorem Pr.hid {w:yW}{b:Nat}{K:PK}{i:Nat}{e p:Int}{t:Bool}(h:Pr w b K i e p t):Hid (Pr w b K i e p t):=h
theorem Pr.lt {w:yW}{b:Nat}{K:PK}{i:Nat}{e p:Int}{t:Bool}(h:Pr w b K i e p t):b < w§:=(zJ h.h).1
theorem Pr.new {w w':yW}{b:Nat}{K:PK}{i:Nat}{e p:Int}{t:Bool}(h:Pr w b K i e p t) (k:∀ c,c≠b→c < w§→w'.heap[c]? = w.heap[c]?) {i':Nat}{e' p':Int}{t':Bool}(hl:i'≤K.T.length) (hz:K.lg=true→e'=110∧p'=0∧t'=true) (hh:w'.heap[b]? = (zC #[.slice K.a K.T.length K.c,zI K.be,zI K.ba,zI i',zI e',zI p',.bool t'] 168)):Pr w' b K i' e' p' t' :=
 ⟨hh,hl,h.m,hz,fun j hj=>by
  obtain⟨G,o,e,hn,ht⟩:=h.r j hj
  exact⟨G,o,e,hn,ht.blk (k G hn ht.lt)⟩⟩
theorem Pr.on {w w':yW}{b:Nat}{K:PK}{i:Nat}{e p:Int}{t:Bool}(h:Pr w b K i e p t) (k:yD w w'):Pr w' b K i e p t :=
 h.new (fun c _ hc=>k.block c hc) h.l h.z ((k.block b h.lt).trans h.h)
theorem Pr.blk {w w':yW}{b:Nat}{K:PK}{i:Nat}{e p:Int}{t:Bool}(h:Pr w b K i e p t) (k:∀ c,c < w§→w'.heap[c]? = w.heap[c]?):Pr w' b K i e p t :=
 h.new (fun c _ hc=>k c hc) h.l h.z ((k b h.lt).trans h.h)
def Lv (w:yW) (b:Nat) (K:PK) (ts:List Tk):Prop:=∃ i p t,Pr w b K i 0 p t∧ts=K.T.drop i
def Dd (w:yW) (b:Nat) (K:PK):Ft→Prop
 | .tok no p=>∃ i,Pr w b K i no p false∧no≠0
 | .lex=>∃ e p t,Pr w b K K.T.length e p t∧(e=0∨(e=K.be∧p=K.ba∧t=true)∨K.lg=true)
theorem Lv.hid {w:yW}{b:Nat}{K:PK}{ts:List Tk}(h:Lv w b K ts):Hid (Lv w b K ts):=h
theorem Dd.hid {w:yW}{b:Nat}{K:PK}{f:Ft}(h:Dd w b K f):Hid (Dd w b K f):=h
theorem Lv.on {w w':yW}{b:Nat}{K:PK}{ts:List Tk}(h:Lv w b K ts) (k:yD w w'):Lv w' b K ts:=by
 obtain⟨i,p,t,h1,h2⟩:=h
 exact⟨i,p,t,h1.on k,h2⟩
theorem Dd.on {w w':yW}{b:Nat}{K:PK}{f:Ft}(h:Dd w b K f) (k:yD w w'):Dd w' b K f:=by
 cases f with
 | tok no p=>obtain⟨i,h1,h2⟩:=h;exact⟨i,h1.on k,h2⟩
 | lex=>obtain⟨e,p,t,h1,h2⟩:=h;exact⟨e,p,t,h1.on k,h2⟩
theorem Lv.blk {w w':yW}{b:Nat}{K:PK}{ts:List Tk}(h:Lv w b K ts) (k:∀ c,c < w§→w'.heap[c]? = w.heap[c]?):Lv w' b K ts:=by
 obtain⟨i,p,t,h1,h2⟩:=h
 exact⟨i,p,t,h1.blk k,h2⟩
theorem Dd.blk {w w':yW}{b:Nat}{K:PK}{f:Ft}(h:Dd w b K f) (k:∀ c,c < w§→w'.heap[c]? = w.heap[c]?):Dd w' b K f:=by
 cases f with
 | tok no p=>obtain⟨i,h1,h2⟩:=h;exact⟨i,h1.blk k,h2⟩
 | lex=>obtain⟨e,p,t,h1,h2⟩:=h;exact⟨e,p,t,h1.blk k,h2⟩
theorem Lv.lt {w:yW}{b:Nat}{K:PK}{ts:List Tk}(h:Lv w b K ts):b < w§:=by
 obtain⟨i,p,t,h1,h2⟩:=h
 exact h1.lt
theorem Dd.lt {w:yW}{b:Nat}{K:PK}{f:Ft}(h:Dd w b K f):b < w§:=by
 cases f with
 | tok no p=>obtain⟨i,h1,h2⟩:=h;exact h1.lt
 | lex=>obtain⟨e,p,t,h1,h2⟩:=h;exact h1.lt
theorem Lv.end {w:yW}{b:Nat}{K:PK}(h:Lv w b K []):Dd w b K .lex:=by
 obtain⟨i,p,t,h1,h2⟩:=h
 have hl:=h1.l
 have:i=K.T.length:=by
  have:=congrArg List.length h2
  simp at this
  omega
 subst this
 exact⟨0,p,t,h1,.inl rfl⟩
theorem XB {w:yW}{b:Nat}{K:PK}{i:Nat}{p:Int}{t:Bool}(h:Pr w b K i 0 p t) :
  Calls zG 87 #[zP b] w fun e w'=>e=.returned (.bool false)∧w'=w:=by
 have c4:zQ w b¢4 (zI 0):=Qa h.h 4
 clear h
 go_enter func87,ntmps87
 go_wp2
 go_ret
 exact⟨rfl,rfl⟩
theorem Qed {w:yW}{b:Nat}{K:PK}{i:Nat}{p:Int}{t:Bool}{tk:Tk}(h:Pr w b K i 0 p t) (hg:K.T[i]? = some tk) :
  Calls zG 173 #[zP b] w fun e w'=>e=.returned (.agg (tkA tk))∧yD w w':=by
 obtain⟨hi,etk⟩:=List.getElem?_eq_some_iff.1 hg
 clear hg
 obtain⟨G,o,ea,hn,ht⟩:=h.r i hi
 rw [etk] at ht
 have hGw:=ht.lt
 have hbw:=h.lt
 have HTK:=zH ht
 clear ht etk
 have HP:=(h.on (Qb w (.cells (tkA tk0) 233))).hid
 have HB:Hid (yD w (zA w (tkA tk0) 233)):=Qb _ _
 have HN:Hid ((zA w (tkA tk0) 233).heap[w§]? = (zC (tkA tk0) 233)):=Qc _ _
 clear h
 unfold tkA tk0 at HP HB HN
 go_enter func173,ntmps173
 go_upto_region 1 with fail
 obtain⟨W,eW⟩:∃ W,w.alloc (.cells zv 233)=W:=jV
 rw [eW] at HP HB HN ⊢
 clear eW
 have c0:zQ W b¢0 (.slice K.a K.T.length K.c):=Qa HP.out.h 0
 have c3:zQ W b¢3 (zI i):=Qa HP.out.h 3
 have hd:¬ (K.T.length:Int)≤(i:Int):=by omega
 have hd':decide ((K.T.length:Int)≤(i:Int))=false:=decide_eq_false hd
 go_quiet ((go_at_call 87;refine Calls.quiet_of_same (XB (HP.out.blk (fun _ _=>rfl)))))
 obtain⟨V,eV⟩:∃ V,W.drewN nq=V:=jV
 have hV0:V.heap[w§]? = (zC zv 233):=by rw [← eV];exact HN.out
 have HBV:Hid (yD w V):=by
  have h1:=HB.out
  rw [← eV]
  exact⟨h1.os,h1.tape,h1.output,h1.size,h1.block⟩
 rw [eV]
 clear c0 c3
 have HPV:=(HP.out.blk (w':=V) (fun _ _=>by rw [← eV];rfl)).hid
 clear eV HP
 obtain⟨y0,y1,y2,y3,y4⟩:=HTK.out.blk (HBV.out.block G hGw)
 have c0:zQ V b¢0 (.slice (some G¢o) K.T.length K.c):=by rw [← ea];exact Qa HPV.out.h 0
 have c3:zQ V b¢3 (zI i):=Qa HPV.out.h 3
 have hi':(i:Int) < (K.T.length:Int):=by omega
 clear ea
 go_upto_region 3 with fail
 have HKP:Hid (∀ v,Mv V v (fun k=>k=w§)→zQ v b¢0 (.slice (some G¢o) K.T.length K.c)∧zQ v b¢3 (zI i)∧zQ v ⟨G,o+i * 5,none⟩ (zU tk.k)∧zQ v ⟨G,o+i * 5+1,none⟩ (.string tk.x)∧zQ v ⟨G,o+i * 5+2,none⟩ (zU tk.ty)∧zQ v ⟨G,o+i * 5+3,none⟩ (zI tk.n)∧zQ v ⟨G,o+i * 5+4,none⟩ (zI tk.p)):=fun v hv=>by
  have h0:=hv.block b (World.block_lt_of_cell? V _ c0) zY
  have h1:=hv.block G (World.block_lt_of_cell? V _ y0) zY
  exact⟨(World.cell?_of_block h0).trans c0,(World.cell?_of_block h0).trans c3,(World.cell?_of_block h1).trans y0,(World.cell?_of_block h1).trans y1,(World.cell?_of_block h1).trans y2,(World.cell?_of_block h1).trans y3,(World.cell?_of_block h1).trans y4⟩
 clear c0 c3 y0 y1 y2 y3 y4
 have HW:=zH hV0
 clear hV0
 refine wp_region_held_drew (S:=fun v=>Mv V v (fun k=>k=w§)) zK ((Mv.refl _ _).drew) (fun hHeld=>?_)
 refine zTa 0
 rotate_left
 ·(intro v hv;obtain⟨c0,c3,y0,y1,y2,y3,y4⟩:=HKP.out v hv;go_simp;try (with_reducible rfl))
 try simp [Act.put]
 refine zTa 1
 rotate_left
 ·(intro v hv;obtain⟨c0,c3,y0,y1,y2,y3,y4⟩:=HKP.out v hv;go_simp;try (with_reducible rfl))
 try simp [Act.put]
 refine zTa 2
 rotate_left
 ·(intro v hv;obtain⟨c0,c3,y0,y1,y2,y3,y4⟩:=HKP.out v hv;go_simp;try (with_reducible rfl))
 try simp [Act.put]
 refine zTa 3
 rotate_left
 ·(intro v hv;obtain⟨c0,c3,y0,y1,y2,y3,y4⟩:=HKP.out v hv;go_simp;try (with_reducible rfl))
 try simp [Act.put]
 refine zTa 4
 rotate_left
 ·(intro v hv;obtain⟨c0,c3,y0,y1,y2,y3,y4⟩:=HKP.out v hv;go_simp;try (with_reducible rfl))
 try simp [Act.put]
 refine zTa 5
 rotate_left
 ·(intro v hv;obtain⟨c0,c3,y0,y1,y2,y3,y4⟩:=HKP.out v hv;go_simp;try (with_reducible rfl))
 try simp [Act.put]
 refine zTa 6
 rotate_left
 ·(intro v hv;obtain⟨c0,c3,y0,y1,y2,y3,y4⟩:=HKP.out v hv;go_simp;try (with_reducible rfl))
 try simp [Act.put]
 refine zTa 7
 rotate_left
 ·(intro v hv;obtain⟨c0,c3,y0,y1,y2,y3,y4⟩:=HKP.out v hv;go_simp;try (with_reducible rfl))
 try simp [Act.put]
 refine zTa 8
 rotate_left
 ·(intro v hv;obtain⟨c0,c3,y0,y1,y2,y3,y4⟩:=HKP.out v hv;go_simp;try (with_reducible rfl))
 try simp [Act.put]
 refine zTa 9
 rotate_left
 ·(intro v hv;obtain⟨c0,c3,y0,y1,y2,y3,y4⟩:=HKP.out v hv;go_simp;try (with_reducible rfl))
 try simp [Act.put]
 obtain⟨U,eU⟩:∃ U,V.drew=U:=jV
 have hU0:U.heap[w§]? = (zC zv 233):=by rw [← eU];exact HW.out
 have HMU:Hid (Mv V U (fun k=>k=w§)):=by rw [← eU];exact (Mv.refl _ _).drew
 have HBU:Hid (yD w U):=by rw [← eU];exact HBV.out.drew
 rw [eU] at hHeld ⊢
 clear eU
 obtain⟨z0,z1,z2,z3,z4⟩:=cl5 hU0
 obtain⟨q0,q1,q2,q3,q4⟩:=fz5 hU0
 have HU0:=zH hU0
 clear hU0
 refine wpAnyH_ready (rs:=[10]) zK (by simp) ?_
 refine AllReadyH.cons rfl (fun K hK=>?_) AllReadyH.nil
 go_simp
 refine hK.out _ _ (((((HMU.out.setCell (a:=w§¢0) (.inl rfl) _).setCell (a:=w§¢1) (.inl rfl) _).setCell (a:=w§¢2) (.inl rfl) _).setCell (a:=w§¢3) (.inl rfl) _).setCell (a:=w§¢4) (.inl rfl) _) (fun hHeld7=>?_)
 clear hK K
 refine wpAnyH_done zK ?_ _
 go_wp2_with fail
 exact bodyPost_ret (results_cell_row rfl _ _ w§ 233 (tkA tk) (0,0) _ rfl (put5 HU0.out _ _ _ _ _) underlying233 rfl zK) rfl ⟨rfl,(mv5 (F:=fun _=>False) (Mv.ofBelow HBU.out) (Nat.le_refl _) _ _ _ _ _).below (Nat.le_refl _) (fun _ e=>e.elim)⟩
theorem put3 {w:yW}{b:Nat}{a0 a1 a2 a3 a4 a5 a6:Value}(h:w.heap[b]? = (zC #[a0,a1,a2,a3,a4,a5,a6] 168)) (v4 v5 v6:Value):(((w.setCell b¢4 v4).setCell b¢5 v5).setCell b¢6 v6).heap[b]? = (zC #[a0,a1,a2,a3,v4,v5,v6] 168):=by
 have h1:(w.setCell b¢4 v4).heap[b]? = (zC #[a0,a1,a2,a3,v4,a5,a6] 168):=Qp v4 h
 have h2:((w.setCell b¢4 v4).setCell b¢5 v5).heap[b]? = (zC #[a0,a1,a2,a3,v4,v5,a6] 168):=Qp v5 h1
 exact Qp v6 h2
theorem oth3 (w:yW) {b c:Nat}(h:c≠b) (v4 v5 v6:Value):(((w.setCell b¢4 v4).setCell b¢5 v5).setCell b¢6 v6).heap[c]? = w.heap[c]?:=by
 iterate 3 (refine (Below.heap_setCell _ _ _ _ (show c≠b from h)).trans ?_)
 rfl
theorem mv3 {w0 w:yW}{b:Nat}(m:Mv w0 w (fun k=>k=b)) (v4 v5 v6:Value):Mv w0 (((w.setCell b¢4 v4).setCell b¢5 v5).setCell b¢6 v6) (fun k=>k=b) :=
 ((m.setCell (a:=b¢4) (.inl rfl) v4).setCell (a:=b¢5) (.inl rfl) v5).setCell (a:=b¢6) (.inl rfl) v6
theorem QbP {w:yW}{b:Nat}{K:PK}{i:Nat}{p:Int}{t:Bool}{tk:Tk}(h:Pr w b K i 0 p t) (hg:K.T[i]? = some tk) (no:Int) :
  Calls zG 142 #[.pointer (some ⟨b, 0, none⟩), zI no] w fun e w' => e = .returned (.tuple #[]) ∧ Pr w' b K i no tk.p false ∧ Mv w w' (fun k => k = b) := by
 have cO:=XB h
 obtain⟨hi,etk⟩:=List.getElem?_eq_some_iff.1 hg
 clear hg
 obtain⟨G,o,ea,hn,ht⟩:=h.r i hi
 rw [etk] at ht
 have HP:=h.hid
 have HTK:Hid (TkC w G (o+i * 5) tk):=ht
 have c0:zQ w b¢0 (.slice K.a K.T.length K.c):=Qa h.h 0
 have c3:zQ w b¢3 (zI i):=Qa h.h 3
 have hd:¬ (K.T.length:Int)≤(i:Int):=by omega
 have hd':decide ((K.T.length:Int)≤(i:Int))=false:=decide_eq_false hd
 clear h ht etk
 go_enter func142,ntmps142
 go_wp2_with fail
 refine cO.mono ?_
 rintro e w1 ⟨rfl,rfl⟩
 clear cO
 go_upto_region 1 with fail
 go_quiet (fail)
 obtain⟨V,eV⟩:∃ V,w1.drewN nq=V:=jV
 have HPV:=(HP.out.blk (w':=V) (fun _ _=>by rw [← eV];rfl)).hid
 have HMV:Hid (Mv w1 V (fun k=>k=b)):=by rw [← eV];exact⟨rfl,rfl,rfl,Nat.le_refl _,fun _ _ _=>rfl⟩
 have HTV:Hid (TkC V G (o+i * 5) tk):=HTK.out.blk (by rw [← eV];rfl)
 rw [eV]
 clear eV c0 c3 HP HTK
 have c0:zQ V b¢0 (.slice (some G¢o) K.T.length K.c):=by rw [← ea];exact Qa HPV.out.h 0
 have c3:zQ V b¢3 (zI i):=Qa HPV.out.h 3
 have y4:=HTV.out.c4
 have hi':(i:Int) < (K.T.length:Int):=by omega
 have HEA:Hid (K.a=some G¢o):=ea
 clear ea
 go_upto_region 3 with fail
 refine wp_region_held_drew (S:=fun v=>zQ v b¢0 (.slice (some G¢o) K.T.length K.c)∧zQ v b¢3 (zI i)∧zQ v ⟨G,o+i * 5+4,none⟩ (zI tk.p)) zK ⟨c0,c3,y4⟩ (fun hHeld=>?_)
 refine zTa 0
 rotate_left
 ·(intro v hv;obtain⟨t0,t3,t4⟩:=hv;go_simp;try (with_reducible rfl))
 try simp [Act.put]
 refine zTa 1
 rotate_left
 ·(intro v hv;obtain⟨t0,t3,t4⟩:=hv;go_simp;try (with_reducible rfl))
 try simp [Act.put]
 refine zTa 2
 rotate_left
 ·(intro v hv;obtain⟨t0,t3,t4⟩:=hv;go_simp;try (with_reducible rfl))
 try simp [Act.put]
 refine zTa 3
 rotate_left
 ·(intro v hv;obtain⟨t0,t3,t4⟩:=hv;go_simp;try (with_reducible rfl))
 try simp [Act.put]
 refine zTa 4
 rotate_left
 ·(intro v hv;obtain⟨t0,t3,t4⟩:=hv;go_simp;try (with_reducible rfl))
 try simp [Act.put]
 refine zTa 5
 rotate_left
 ·(intro v hv;obtain⟨t0,t3,t4⟩:=hv;go_simp;try (with_reducible rfl))
 try simp [Act.put]
 refine zTa 6
 rotate_left
 ·(intro v hv;obtain⟨t0,t3,t4⟩:=hv;go_simp;try (with_reducible rfl))
 try simp [Act.put]
 refine zTa 7
 rotate_left
 ·(intro v hv;obtain⟨t0,t3,t4⟩:=hv;go_simp;try (with_reducible rfl))
 try simp [Act.put]
 refine zTa 8
 rotate_left
 ·(intro v hv;obtain⟨t0,t3,t4⟩:=hv;go_simp;try (with_reducible rfl))
 try simp [Act.put]
 refine zTa 9
 rotate_left
 ·(intro v hv;obtain⟨t0,t3,t4⟩:=hv;go_simp;try (with_reducible rfl))
 try simp [Act.put]
 refine zTa 10
 rotate_left
 ·(intro v hv;obtain⟨t0,t3,t4⟩:=hv;go_simp;try (with_reducible rfl))
 try simp [Act.put]
 refine zTa 11
 rotate_left
 ·(intro v hv;obtain⟨t0,t3,t4⟩:=hv;go_simp;try (with_reducible rfl))
 try simp [Act.put]
 refine zTa 12
 rotate_left
 ·(intro v hv;obtain⟨t0,t3,t4⟩:=hv;go_simp;try (with_reducible rfl))
 try simp [Act.put]
 refine zTa 13
 rotate_left
 ·(intro v hv;obtain⟨t0,t3,t4⟩:=hv;go_simp;try (with_reducible rfl))
 try simp [Act.put]
 refine zTa 14
 rotate_left
 ·(intro v hv;obtain⟨t0,t3,t4⟩:=hv;go_simp;try (with_reducible rfl))
 try simp [Act.put]
 refine zTa 15
 rotate_left
 ·(intro v hv;obtain⟨t0,t3,t4⟩:=hv;go_simp;try (with_reducible rfl))
 try simp [Act.put]
 obtain⟨U,eU⟩:∃ U,V.drew=U:=jV
 have HPU:=(HPV.out.blk (w':=U) (fun _ _=>by rw [← eU];rfl)).hid
 have HMU:Hid (Mv w1 U (fun k=>k=b)):=by rw [← eU];exact HMV.out.drew
 have HTU:Hid (TkC U G (o+i * 5) tk):=HTV.out.blk (by rw [← eU];rfl)
 rw [eU] at hHeld ⊢
 clear eU c0 c3 y4
 have z4:zQ U b¢4 (zI 0):=Qa HPU.out.h 4
 have q4:=Qf HPU.out.h 4
 have z5:zQ U b¢5 (zI p):=Qa HPU.out.h 5
 have q5:=Qf HPU.out.h 5
 have z6:zQ U b¢6 (.bool t):=Qa HPU.out.h 6
 have q6:=Qf HPU.out.h 6
 refine wpAnyH_ready (rs:=[16]) zK (by simp) ?_
 refine AllReadyH.cons rfl (fun K' hK=>?_) AllReadyH.nil
 go_simp
 have hfin:=put3 HPU.out.h (zI no) (zI tk.p) (.bool false)
 have HF:Hid (Pr (((U.setCell b¢4 (zI no)).setCell b¢5 (zI tk.p)).setCell b¢6 (.bool false)) b K i no tk.p false):=HPU.out.new (fun c hc _=>oth3 _ hc _ _ _) HPU.out.l (fun hl=>absurd (HPU.out.z hl).1 (by decide)) hfin
 refine hK.out _ _ ⟨by rw [← HEA.out];exact Qa hfin 0,Qa hfin 3,(HTU.out.blk (oth3 _ hn _ _ _)).c4⟩ (fun hHeld7=>?_)
 clear hK K' hfin
 refine wpAnyH_done zK ?_ _
 go_wp2_with fail
 go_end0
 exact⟨rfl,HF.out,mv3 HMU.out _ _ _⟩
theorem FG {w:yW}{b:Nat}{K:PK}{t:Tk}{ts:List Tk}(h:Lv w b K (t :: ts)) (no:Int) (hn:no≠0) :
  Calls zG 142 #[zP b,zI no] w fun e w'=>e=.returned (.tuple #[])∧Dd w' b K (.tok no t.p)∧Mv w w' (fun k=>k=b):=by
 obtain⟨i,p,u,h1,h2⟩:=h
 have hg:K.T[i]? = some t:=by
  have:=congrArg (fun l=>l[0]?) h2
  simp at this
  exact this.symm
 refine (QbP h1 hg no).mono ?_
 rintro e w' ⟨rfl,hp,hm⟩
 exact⟨rfl,⟨i,hp,hn⟩,hm⟩
theorem QM {w:yW}{b:Nat}{K:PK}{t:Tk}{ts:List Tk}(h:Lv w b K (t :: ts)) :
  Calls zG 173 #[zP b] w fun e w'=>e=.returned (.agg (tkA t))∧yD w w':=by
 obtain⟨i,p,u,h1,h2⟩:=h
 have hg:K.T[i]? = some t:=by
  have:=congrArg (fun l=>l[0]?) h2
  simp at this
  exact this.symm
 exact Qed h1 hg
end Go.Proofs.YtfbjofnaghjmeaaGreatDoor
