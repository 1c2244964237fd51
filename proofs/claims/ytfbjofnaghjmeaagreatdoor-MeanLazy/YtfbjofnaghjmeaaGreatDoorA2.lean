import Derived.Test.YtfbjofnaghjmeaaGreatDoorA1
import Derived.Deep.AppendLies
import Derived.Deep.RegionLaw
import Derived.Deep.Slices
import Derived.OpenShut
import Derived.ChangeArms
import Derived.SizedLaws
namespace Go.Proofs.YtfbjofnaghjmeaaGreatDoor
open Go.Proofs.Tryz
def mB (l:List UInt8) (i:Nat):Bool:=decide ((mk i).size≤l.length) && (l.take (mk i).size == (mk i).data.toList)
def mO (l:List UInt8):Option Nat:=(List.range 23).find? (mB l)
def nE (l:List UInt8) (d:Nat):Nat:=if nbTy (l.drop d)=1 then d else d+1
def lx (l:List UInt8):Option (Int × Nat × Int × Int) :=
 if hdB letB l=true then (if lead goB l > 16 then none else some (if isW ⟨(l.take (lead goB l)).toArray⟩=true then 1 else 2,lead goB l,0,0))
 else if hdB digB l=true then
  (match nmS l 0 0 with
  | none=>none
  | some (n,d)=>if n > jX∨(d > 1∧hd0 l=true) then none
   else if badH (l.drop (nE l d))=true then none else some (3,nE l d,nbTy (l.drop d),n))
 else (match mO l with | none=>none | some i=>some (4,(mk i).size,0,0))
def lxE (l:List UInt8):Int:=if (lx l).isSome=true then 0 else if hdB letB l=true then 112 else if hdB digB l=true then 113 else 111
def tkOf (l:List UInt8) (d:Nat):Tk:=match lx l with | some (k,n,ty,v)=>⟨k,⟨(l.take n).toArray⟩,ty,v,d⟩ | none=>tk0
theorem Uf (s:yB) (a n:Nat):(s.extract a (a+n)).data.toList=(rest s a).take n:=by
 unfold rest
 rw [ByteArray.data_extract,Array.toList_extract]
 simp [List.extract_eq_take_drop]
theorem Pn (s:yB) (a n:Nat):s.extract a (a+n)=⟨((rest s a).take n).toArray⟩:=Xc (by rw [Uf])
theorem UB (s:yB) (a n:Nat):(rest s a).drop n=rest s (a+n):=by unfold rest;rw [List.drop_drop]
theorem Qio (s:yB) (a:Nat) (ha:a≤s.size) (i:Nat):mB (rest s a) i=mkB s a i:=by
 unfold mB mkB
 rw [Uf,Jl]
 congr 1
 by_cases h:(mk i).size≤s.size - a
 ·rw [decide_eq_true h,decide_eq_true zY]
 ·rw [decide_eq_false h,decide_eq_false zY]
theorem Qer (s:yB) (a:Nat) (ha:a≤s.size):mO (rest s a)=mkO s a:=by
 unfold mO mkO
 congr 1
 funext i
 exact Qio s a ha i
theorem H8 {l:List UInt8}{i:Nat}(h:mO l=some i):i < 23∧l.take (mk i).size=(mk i).data.toList∧(mk i).size≤l.length:=by
 unfold mO at h
 rw [List.find?_range_eq_some] at h
 obtain⟨h1,h2,_⟩:=h
 unfold mB at h1
 rw [Bool.and_eq_true] at h1
 exact⟨by simpa using h2,by simpa using h1.2,of_decide_eq_true h1.1⟩
theorem Qd4 (s:yB) (f:Nat) (hf:f≤s.size) (h:oneP s f≠s.size) :
  oneT s f=tkOf (rest s (oneP s f)) (oneP s f)∧oneE s f=lxE (rest s (oneP s f)):=by
 have hP:=XC s f hf
 unfold oneT oneE
 generalize oneP s f=d at *
 rw [if_neg h,if_neg h]
 unfold tkOf lxE lx
 by_cases hl:hdB letB (rest s d)=true
 ·rw [if_pos hl,if_pos hl,if_pos hl,if_pos hl]
  unfold nmT nmE
  by_cases hk:lead goB (rest s d) > 16
  ·rw [if_pos hk,if_pos hk,if_pos hk];exact⟨rfl,rfl⟩
  ·rw [if_neg hk,if_neg hk,if_neg hk,Pn];exact⟨rfl,rfl⟩
 rw [if_neg hl,if_neg hl,if_neg hl,if_neg hl]
 by_cases hg:hdB digB (rest s d)=true
 ·rw [if_pos hg,if_pos hg,if_pos hg,if_pos hg]
  unfold nbT nbE nbO
  cases hm:nmS (rest s d) 0 0 with
  | none=>exact⟨rfl,rfl⟩
  | some q =>
   obtain⟨n,k⟩:=q
   have e1:(if nbTy (rest s (d+k))=1 then d+k else d+k+1)=d+nE (rest s d) k:=by
    unfold nE
    rw [UB]
    split <;> rfl
   simp only [e1,UB]
   by_cases c1:n > jX∨(k > 1∧hd0 (rest s d)=true)
   ·simp [if_pos c1]
   ·simp only [if_neg c1]
    by_cases c2:badH (rest s (d+nE (rest s d) k))=true
    ·simp [if_pos c2]
    ·simp [if_neg c2,Pn]
 rw [if_neg hg,if_neg hg,if_neg hg,if_neg hg]
 unfold mkT mkE
 rw [Qer s d hP]
 cases hm:mkO s d with
 | none=>exact⟨rfl,rfl⟩
 | some i =>
  have:=(H8 (by rw [Qer s d hP];exact hm:mO (rest s d)=some i)).2.1
  refine⟨?_,rfl⟩
  show (⟨4,mk i,0,0,d⟩:Tk)=⟨4,⟨(List.take (mk i).size (rest s d)).toArray⟩,0,0,d⟩
  rw [this]
theorem Qef {l:List UInt8}{n d:Nat}(h:nmS l 0 0=some (n,d)):d≤l.length:=by have:=(X8 _ _ _ _ _ h).2.1;omega
theorem nE_le {l:List UInt8}{d:Nat}(h:d≤l.length):nE l d≤l.length:=by
 unfold nE
 by_cases e:nbTy (l.drop d)=1
 ·rw [if_pos e];exact h
 ·rw [if_neg e]
  have:d≠l.length:=by
   intro hd
   apply e
   rw [List.drop_eq_nil_of_le zY];rfl
  omega
theorem Qet {l:List UInt8}{k:Int}{n:Nat}{ty v:Int}(h:lx l=some (k,n,ty,v)):0 < n∧n≤l.length∧k≠0:=by
 unfold lx at h
 by_cases hl:hdB letB l=true
 ·rw [if_pos hl] at h
  by_cases hk:lead goB l > 16
  ·rw [if_pos hk] at h;exact absurd h (by simp)
  ·rw [if_neg hk] at h
   simp only [Option.some.injEq,Prod.mk.injEq] at h
   obtain⟨e1,rfl,_⟩:=h
   refine⟨Ub (QeJ hl),KV goB l,?_⟩
   rw [← e1];split <;> decide
 rw [if_neg hl] at h
 by_cases hg:hdB digB l=true
 ·rw [if_pos hg] at h
  cases hm:nmS l 0 0 with
  | none=>rw [hm] at h;exact absurd h (by simp)
  | some q =>
   obtain⟨n2,d⟩:=q
   have hd:=Qef hm
   have h3:=(X8 _ _ _ _ _ hm).2.2 hg
   rw [hm] at h
   simp only at h
   split at h
   ·exact absurd h (by simp)
   ·split at h
    ·exact absurd h (by simp)
    ·simp only [Option.some.injEq,Prod.mk.injEq] at h
     obtain⟨e1,rfl,_⟩:=h
     refine⟨?_,nE_le hd,by rw [← e1];decide⟩
     unfold nE;split <;> omega
 rw [if_neg hg] at h
 cases hm:mO l with
 | none=>rw [hm] at h;exact absurd h (by simp)
 | some i =>
  rw [hm] at h
  simp only [Option.some.injEq,Prod.mk.injEq] at h
  obtain⟨e1,rfl,_⟩:=h
  have:=H8 hm
  exact⟨Qem i this.1,this.2.2,by rw [← e1];decide⟩
theorem VX {p:UInt8→Bool}:∀ l:List UInt8,lead p (l.take (lead p l))=lead p l
 | []=>rfl
 | x :: l=>by
  have:=VX (p:=p) l
  by_cases h:p x=true
  ·simp [h,lead,this]
  ·simp [h,lead]
theorem Fo {p:UInt8→Bool}{n:Nat}(h:0 < n):∀ l:List UInt8,hdB p (l.take n)=hdB p l
 | []=>by simp
 | x :: l=>by obtain⟨m,rfl⟩:∃ m,n=m+1:=⟨n - 1,by omega⟩;rfl
theorem Fp {n:Nat}(h:0 < n):∀ l:List UInt8,hd0 (l.take n)=hd0 l
 | []=>by simp
 | x :: l=>by obtain⟨m,rfl⟩:∃ m,n=m+1:=⟨n - 1,by omega⟩;rfl
theorem P9:∀ (l:List UInt8) (n k n' k' e:Nat),nmS l n k=some (n',k')→k'≤k+e→nmS (l.take e) n k=some (n',k')
 | [],n,k,n',k',e,h,he=>by simpa using h
 | x :: l,n,k,n',k',e,h,he=>by
  have hle:=X8 _ _ _ _ _ h
  cases e with
  | zero =>
   have:k'=k:=by omega
   subst this
   have h3:¬ digB x=true:=fun h'=>by have:=hle.2.2 h';omega
   simp only [nmS,if_neg h3] at h
   simpa [nmS] using h
  | succ e =>
   simp only [List.take_succ_cons,nmS] at h ⊢
   by_cases hg:digB x=true
   ·rw [if_pos hg] at h ⊢
    by_cases hn:n > 922337203685477580
    ·rw [if_pos hn] at h;exact absurd h (by simp)
    ·rw [if_neg hn] at h ⊢
     exact P9 l _ _ _ _ e h zY
   ·rw [if_neg hg] at h ⊢;exact h
theorem Qci {n:Nat}(h:0 < n):∀ l:List UInt8,nbTy (l.take n)=nbTy l
 | []=>by simp
 | x :: l=>by obtain⟨m,rfl⟩:∃ m,n=m+1:=⟨n - 1,by omega⟩;rfl
theorem Qge {l:List UInt8}{n i:Nat}(h:mB (l.take n) i=true):mB l i=true:=by
 unfold mB at h ⊢
 rw [Bool.and_eq_true] at h ⊢
 have h1:=of_decide_eq_true h.1
 have h2:List.take (mk i).size (List.take n l)=(mk i).data.toList:=by simpa using h.2
 have h3:(mk i).size≤n:=by simp at h1;omega
 rw [List.take_take,Nat.min_eq_left h3] at h2
 refine⟨decide_eq_true (by simp at h1;omega),by rw [h2];simp⟩
theorem Qgf {l:List UInt8}{k:Int}{n:Nat}{ty v:Int}(h:lx l=some (k,n,ty,v)):lx (l.take n)=some (k,n,ty,v):=by
 obtain⟨hn,hnl,_⟩:=Qet h
 unfold lx at h ⊢
 rw [Fo hn,Fo hn]
 by_cases hl:hdB letB l=true
 ·rw [if_pos hl] at h ⊢
  by_cases hk:lead goB l > 16
  ·rw [if_pos hk] at h;exact absurd h (by simp)
  ·rw [if_neg hk] at h
   simp only [Option.some.injEq,Prod.mk.injEq] at h
   obtain⟨e1,rfl,e2,e3⟩:=h
   rw [VX,if_neg hk,List.take_take,Nat.min_self,e1,← e2,← e3]
 rw [if_neg hl] at h ⊢
 by_cases hg:hdB digB l=true
 ·rw [if_pos hg] at h ⊢
  cases hm:nmS l 0 0 with
  | none=>rw [hm] at h;exact absurd h (by simp)
  | some q =>
   obtain⟨n2,d⟩:=q
   have hd:=Qef hm
   rw [hm] at h
   simp only at h
   by_cases c1:n2 > jX∨(d > 1∧hd0 l=true)
   ·rw [if_pos c1] at h;exact absurd h (by simp)
   rw [if_neg c1] at h
   by_cases c2:badH (l.drop (nE l d))=true
   ·rw [if_pos c2] at h;exact absurd h (by simp)
   rw [if_neg c2] at h
   simp only [Option.some.injEq,Prod.mk.injEq] at h
   obtain⟨e1,e2,e3,e4⟩:=h
   have hdn:d≤n:=by rw [← e2];unfold nE;split <;> omega
   rw [P9 l 0 0 n2 d n hm zY]
   simp only
   have e5:nbTy ((l.take n).drop d)=nbTy (l.drop d):=by
    rw [List.drop_take]
    by_cases hz:n - d=0
    ·rw [hz,List.take_zero]
     have:nE l d=d:=by omega
     unfold nE at this
     by_cases ht:nbTy (l.drop d)=1
     ·rw [ht];rfl
     ·rw [if_neg ht] at this;omega
    ·exact Qci zY _
   have e6:nE (l.take n) d=n:=by unfold nE;rw [e5];exact e2
   rw [Fp hn,if_neg c1,e6,e5,List.drop_eq_nil_of_le (by rw [List.length_take];omega)]
   rw [if_neg (by decide),e1,e3,e4]
 rw [if_neg hg] at h ⊢
 cases hm:mO l with
 | none=>rw [hm] at h;exact absurd h (by simp)
 | some i =>
  have ht:=H8 hm
  rw [hm] at h
  simp only [Option.some.injEq,Prod.mk.injEq] at h
  obtain⟨e1,e2,e3,e4⟩:=h
  have:mO (l.take n)=some i:=by
   unfold mO at hm ⊢
   rw [List.find?_range_eq_some] at hm ⊢
   refine⟨?_,hm.2.1,fun j hj=>?_⟩
   ·unfold mB
    rw [Bool.and_eq_true]
    refine⟨decide_eq_true (by rw [List.length_take];omega),?_⟩
    rw [List.take_take,← e2,Nat.min_self,ht.2.1];simp
   ·have:=hm.2.2 j hj
    cases hb:mB (l.take n) j with
    | false=>rfl
    | true=>rw [Qge hb] at this;exact absurd this (by simp)
  rw [this]
  simp only
  rw [e1,e2,← e3,← e4]
open Go.RowKit
theorem Qgn:(Tryz.prog.info? 233).map (fun i=>(i.zero,i.size,i.bytes))=some (some (.agg zv),5,48):=by kernel_rfl
def tkF (A:Nat→Tk) (j:Nat):Value:=if j % 5=0 then zU (A (j / 5)).k else if j % 5=1 then .string (A (j / 5)).x else if j % 5=2 then zU (A (j / 5)).ty else if j % 5=3 then zI (A (j / 5)).n else zI (A (j / 5)).p
def lsF (L:List Tk):Nat→Tk:=fun i=>L.getD i tk0
theorem Qip {L:List Tk}{y:Tk}{i:Nat}(h:i < L.length):lsF (L ++ [y]) i=lsF L i:=by
 unfold lsF
 simp [List.getD,List.getElem?_append_left h]
theorem Qiq (L:List Tk) (y:Tk):lsF (L ++ [y]) L.length=y:=by
 unfold lsF
 simp [List.getD]
def RowL (w:yW) (v:Value) (L:List Tk):Prop:=Row w 233 5 v L.length (tkF (lsF L))
structure RL (W w:yW) (v:Value) (L:List Tk):Prop where
 row:RowL w v L
 nb:∀ k,v.ownBlock=some k→W§≤k
 B:yD W w
theorem RL.nil (W:yW):RL W W (zO) []:=⟨Row.nil _ _ _ _,fun k h=>by simp [Value.ownBlock] at h,Below.refl _ _⟩
theorem RL.call {W w w':yW}{v:Value}{L:List Tk}(h:RL W w v L) (k:yD w w'):RL W w' v L :=
 ⟨h.row.of_block (fun b hb=>k.block b (h.row.lt b hb)),h.nb,h.B.trans (k.mono h.B.size)⟩
theorem RL.alloc {W w:yW}{v:Value}{L:List Tk}(h:RL W w v L) (o:Obj):RL W (w.alloc o) v L:=h.call (Qb w o)
theorem RL.drew {W w:yW}{v:Value}{L:List Tk}(h:RL W w v L):RL W w.drew v L:=⟨h.row.of_block (fun _ _=>rfl),h.nb,h.B.drew⟩
theorem RL.drewN {W w:yW}{v:Value}{L:List Tk}(h:RL W w v L) (n:Nat):RL W (w.drewN n) v L:=⟨h.row.of_block (fun _ _=>rfl),h.nb,XV h.B n⟩
theorem RL.hid {W w:yW}{v:Value}{L:List Tk}(h:RL W w v L):Hid (RL W w v L):=h
theorem Qc7 (y:Tk):∀ j,j < 5→(tkA y).toList[j]? = some (tkF (fun _=>y) j):=by
 intro j hj
 match j,hj with
 | 0,_=>rfl
 | 1,_=>rfl
 | 2,_=>rfl
 | 3,_=>rfl
 | 4,_=>rfl
theorem Qfn {W w0 w':yW}{v:Value}{L:List Tk}{y:Tk}{g cap:Nat}(hR:RL W w0 v L)
  (h2:w'.ownsRow 0 233 5 (.slice (some g¢0) (L.length+1) cap) (L.length+1) ((List.range (L.length * 5)).map (tkF (lsF L)) ++ (tkA y).toList))
  (h3:(zA w0 (tkA y) 233).grownBy w' v.ownBlock) (h4:v.ownBlock=some g∨g=(zA w0 (tkA y) 233)§) :
  RL W w' (.slice (some g¢0) (L.length+1) cap) (L ++ [y])∧w0§≤w'§∧∀ b,b < w0§→v.ownBlock≠some b→w'.heap[b]? = w0.heap[b]?:=by
 have hsz:=Qe w0 (.cells (tkA y) 233)
 have hB0:=hR.B.alloc hR.B.size (.cells (tkA y) 233)
 refine⟨⟨?_,?_,hB0.grown h3 hB0.size (fun k hk=>hR.nb k hk)⟩,?_,?_⟩
 ·have hr:=Row.snoc (x:=tkF (fun _=>y)) h2 rfl (fun j hj=>Qc7 y j hj)
  unfold RowL
  rw [List.length_append,List.length_singleton]
  refine hr.congr fun j hj=>?_
  by_cases h:j < L.length * 5
  ·simp only [h,if_true]
   unfold tkF
   rw [Qip zY]
  ·have e:j / 5=L.length:=by omega
   simp only [h,if_false]
   unfold tkF
   rw [e,Qiq,show (j - L.length * 5) % 5=j % 5 by omega]
 ·intro k hk
  simp [Value.ownBlock] at hk
  subst hk
  rcases h4 with h4 | h4
  ·exact hR.nb _ h4
  ·have:=hR.B.size;omega
 ·have:=h3.size;omega
 ·intro b hb hne
  rw [h3.block b zY (fun e=>hne e.symm)]
  exact Below.heap_alloc _ _ _ hb
theorem Qch (w0:yW) (y:Tk):∀ j u,(tkA y).toList[j]? = some u→(zA w0 (tkA y) 233).cell? ((w0§¢0:Addr).add j)=some u:=World.news_of_block (Qc w0 _)
theorem Qd6 (y:Tk):∀ u ∈ (tkA y).toList,u.oneCell'=true:=by
 intro u hu
 simp [tkA] at hu
 rcases hu with rfl | rfl | rfl | rfl | rfl <;> rfl
theorem Up {W w0:yW}{ops:Array Oper}{rest:List Oper}{o:Oper}{a:Act}{Q:Exit→Act→yW→Prop}(hgd:o.guard=none) (d x:Operand)
  (ho:o.op=.call { callee:=.builtin .append,args:=#[d,x],argTypes:=#[166,166] }) (y:Tk) {v:Value}{L:List Tk}(hR:RL W w0 v L) (hs:a.eval d=v) (hx:a.eval x=.slice (some w0§¢0) 1 1) (hlen:L.length≤1000000000)
  (h:∀ v' w',RL W w' v' (L ++ [y])→w0§≤w'§→(∀ b,b < w0§→v.ownBlock≠some b→w'.heap[b]? = w0.heap[b]?)→wpList zG ops Q rest (a.put o.dst v') w') :
  wpList zG ops Q (o :: rest) a (zA w0 (tkA y) 233):=by
 obtain⟨i0,hi,hz0,hz1,hz2⟩:=info_parts Qgn
 refine wpList_append_lies _ hgd d x 166 ho 0 233 i0 _ 5 48 underlying166 hi hz0 hz1 hz2 rfl (by decide) v L.length _ hs (hR.row.alloc _) w0§¢0 1 1 (tkA y).toList hx rfl (Qch w0 y) (Qd6 y) (by decide) (by unfold maxLen;omega) zY (Nat.zero_le _) _ rfl ?_
 intro g cap w' h2 h3 h4 h5
 obtain⟨q1,q2,q3⟩:=Qfn hR h2 h3 h4
 exact h _ w' q1 q2 q3
structure Mv (w w':yW) (F:Nat→Prop):Prop where
 os:w'.os=w.os
 tape:w'.tape=w.tape
 output:w'.output=w.output
 size:w§≤w'§
 block:∀ k,k < w§→¬ F k→w'.heap[k]? = w.heap[k]?
theorem Mv.refl (w:yW) (F:Nat→Prop):Mv w w F:=⟨rfl,rfl,rfl,Nat.le_refl _,fun _ _ _=>rfl⟩
theorem Mv.drew {w w':yW}{F:Nat→Prop}(h:Mv w w' F):Mv w w'.drew F:=⟨h.os,h.tape,h.output,h.size,h.block⟩
theorem Mv.trans {w w' w'':yW}{F F':Nat→Prop}(h:Mv w w' F) (k:Mv w' w'' F') (hF:∀ b,F' b→F b∨w§≤b):Mv w w'' F :=
 ⟨k.os.trans h.os,k.tape.trans h.tape,k.output.trans h.output,Nat.le_trans h.size k.size,fun b hb hn =>
  (k.block b (Nat.lt_of_lt_of_le hb h.size) (fun e=>(hF b e).elim hn (fun h1=>by omega))).trans (h.block b hb hn)⟩
theorem Mv.mono {w w':yW}{F F':Nat→Prop}(h:Mv w w' F) (hF:∀ b,F b→F' b):Mv w w' F':=⟨h.os,h.tape,h.output,h.size,fun b hb hn=>h.block b hb (fun e=>hn (hF b e))⟩
theorem Mv.setCell {w w':yW}{F:Nat→Prop}(h:Mv w w' F) {a:Addr}(ha:F a.block∨w§≤a.block) (u:Value):Mv w (w'.setCell a u) F :=
 h.trans (F':=fun b=>b=a.block) ⟨rfl,rfl,rfl,by simp [World.setCell],fun b _ hn=>Below.heap_setCell _ _ _ _ hn⟩ (fun b e=>by cases e;exact ha)
theorem Mv.alloc {w w':yW}{F:Nat→Prop}(h:Mv w w' F) (o:Obj):Mv w (w'.alloc o) F :=
 h.trans (F':=fun _=>False) ⟨rfl,rfl,rfl,by simp,fun b hb _=>Below.heap_alloc _ _ _ hb⟩ (fun b e=>e.elim)
theorem Mv.grown {w w' w'':yW}{F:Nat→Prop}{row:Option Nat}(h:Mv w w' F) (hg:w'.grownBy w'' row) (hr:∀ k,row=some k→F k∨w§≤k):Mv w w'' F :=
 h.trans (F':=fun b=>some b=row) ⟨hg.os,hg.tape,hg.output,hg.size,fun b hb hn=>hg.block b hb hn⟩ (fun b e=>hr b e.symm)
theorem Mv.below {w w':yW}{F:Nat→Prop}(h:Mv w w' F) {B:Nat}(hB:B≤w§) (hF:∀ b,F b→B≤b):Below B w w' :=
 ⟨h.os,h.tape,h.output,h.size,fun k hk=>h.block k zY (fun e=>by have:=hF k e;omega)⟩
theorem Mv.row {w w':yW}{F:Nat→Prop}(h:Mv w w' F) {e:TypeId}{s n:Nat}{v:Value}{f:Nat→Value}(hr:Row w e s v n f) (hn:∀ k,v.ownBlock=some k→¬ F k):Row w' e s v n f :=
 hr.of_block (fun k hk=>h.block k (hr.lt k hk) (hn k hk))
def Jm (s:yB):Bool:=!isW s && (decide (1≤s.size) && (decide (s.size≤16) && (hdB letB (rest s 0) && decide (lead goB (rest s 0)=s.size))))
structure Hd where
 k:Int
 o:Int
 t:Int
 n:Int
 f:Int
 x:yB
 p:Int
inductive Nd where
 | mk (h:Hd) (a:Option Addr) (c:Nat) (ks:List Nd)
namespace Nd
def h:Nd→Hd | .mk h _ _ _=>h
def a:Nd→Option Addr | .mk _ a _ _=>a
def c:Nd→Nat | .mk _ _ c _=>c
def ks:Nd→List Nd | .mk _ _ _ ks=>ks
theorem ind {P:Nd→Prop}(H:∀ h a c ks,(∀ k ∈ ks,P k)→P (.mk h a c ks)):∀ m,P m :=
 @Nd.rec P (fun ks=>∀ k ∈ ks,P k) (fun h a c ks ih=>H h a c ks ih) (fun _ hk=>by cases hk) (fun k ks h1 h2 x hx=>by
  rcases List.mem_cons.1 hx with e | e
  ·rw [e];exact h1
  ·exact h2 x e)
end Nd
scoped notation "zV" x:max => #[Value.int IntKind.u8 (Hd.k (Nd.h x)),Value.int IntKind.u8 (Hd.o (Nd.h x)),Value.int IntKind.u8 (Hd.t (Nd.h x)),Value.int IntKind.i64 (Hd.n (Nd.h x)),Value.int IntKind.u8 (Hd.f (Nd.h x)),Value.string (Hd.x (Nd.h x)),Value.slice (Nd.a x) (List.length (Nd.ks x)) (Nd.c x),Value.int IntKind.i64 (Hd.p (Nd.h x))]
scoped notation "zX" x:max g:max h:max i:max => #[Value.int IntKind.u8 (Hd.k x),Value.int IntKind.u8 (Hd.o x),Value.int IntKind.u8 (Hd.t x),Value.int IntKind.i64 (Hd.n x),Value.int IntKind.u8 (Hd.f x),Value.string (Hd.x x),Value.slice g (List.length h) i,Value.int IntKind.i64 (Hd.p x)]
def hdA (h:Hd) (a:Option Addr) (l c:Nat):Array Value:=#[zU h.k,zU h.o,zU h.t,zI h.n,zU h.f,.string h.x,.slice a l c,zI h.p]
def Nd.vals (m:Nd):Array Value:=hdA m.h m.a m.ks.length m.c
structure NdAt (w:yW) (b o:Nat) (m:Nd):Prop where
 c0:zQ w b¢o (zU m.h.k)
 c1:zQ w ⟨b,o+1,none⟩ (zU m.h.o)
 c2:zQ w ⟨b,o+2,none⟩ (zU m.h.t)
 c3:zQ w ⟨b,o+3,none⟩ (zI m.h.n)
 c4:zQ w ⟨b,o+4,none⟩ (zU m.h.f)
 c5:zQ w ⟨b,o+5,none⟩ (.string m.h.x)
 c6:zQ w ⟨b,o+6,none⟩ (.slice m.a m.ks.length m.c)
 c7:zQ w ⟨b,o+7,none⟩ (zI m.h.p)
theorem NdAt.lt {w:yW}{b o:Nat}{m:Nd}(h:NdAt w b o m):b < w§:=World.block_lt_of_cell? w _ h.c0
theorem NdAt.blk {w w':yW}{b o:Nat}{m:Nd}(h:NdAt w b o m) (k:w'.heap[b]? = w.heap[b]?):NdAt w' b o m :=
 ⟨(World.cell?_of_block k).trans h.c0,(World.cell?_of_block k).trans h.c1,(World.cell?_of_block k).trans h.c2,(World.cell?_of_block k).trans h.c3,(World.cell?_of_block k).trans h.c4,(World.cell?_of_block k).trans h.c5,(World.cell?_of_block k).trans h.c6,(World.cell?_of_block k).trans h.c7⟩
theorem NdAt.on {w w':yW}{b o:Nat}{m:Nd}(h:NdAt w b o m) (k:yD w w'):NdAt w' b o m:=h.blk (k.block b h.lt)
structure Rg (h:Hd):Prop where
 k0:0≤h.k
 k1:h.k≤255
 o0:0≤h.o
 o1:h.o≤255
 t0:0≤h.t
 t1:h.t≤255
 n0:-9223372036854775808≤h.n
 n1:h.n≤jX
 f0:0≤h.f
 f1:h.f≤255
 p0:-9223372036854775808≤h.p
 p1:h.p≤jX
 x1:h.x.size≤140737488355328
inductive Lies (w:yW):Nd→Prop
 | mk (h:Hd) (a:Option Addr) (c:Nat) (ks:List Nd) (hr:Rg h) (hc:ks.length≤c) (hm:c≤jX)
   (hk:∀ i (hi:i < ks.length),∃ b o,a=some b¢o∧NdAt w b (o+i * 8) ks[i]) (hs:∀ k ∈ ks,Lies w k):Lies w (.mk h a c ks)
theorem Lies.rg {w:yW}{m:Nd}(h:Lies w m):Rg m.h:=by cases h;assumption
theorem Lies.cap {w:yW}{m:Nd}(h:Lies w m):m.ks.length≤m.c:=by cases h;assumption
theorem Lies.max {w:yW}{m:Nd}(h:Lies w m):m.c≤jX:=by cases h;assumption
theorem Lies.kid {w:yW}{m:Nd}(h:Lies w m) (i:Nat) (hi:i < m.ks.length):∃ b o,m.a=some b¢o∧NdAt w b (o+i * 8) m.ks[i]:=by cases h with | mk h a c ks hr hc hm hk hs=>exact hk i hi
theorem Lies.sub {w:yW}{m:Nd}(h:Lies w m) (k:Nd) (hk:k ∈ m.ks):Lies w k:=by cases h with | mk h a c ks hr hc hm hk' hs=>exact hs k hk
theorem Lies.blk {w w':yW}:∀ {m:Nd},Lies w m→(∀ b,b < w§→w'.heap[b]? = w.heap[b]?)→Lies w' m:=by
 intro m h k
 induction h with
 | mk h a c ks hr hc hm hk hs ih =>
  refine .mk h a c ks hr hc hm (fun i hi=>?_) ih
  obtain⟨b,o,e,hat⟩:=hk i hi
  exact⟨b,o,e,hat.blk (k b hat.lt)⟩
theorem Lies.on {w w':yW}{m:Nd}(h:Lies w m) (k:yD w w'):Lies w' m:=h.blk k.block
theorem Lies.hid {w:yW}{m:Nd}(h:Lies w m):Hid (Lies w m):=h
def NdH (w:yW) (b:Nat) (m:Nd):Prop:=w.heap[b]? = (zC m.vals 38)
theorem NdH.lt {w:yW}{b:Nat}{m:Nd}(h:NdH w b m):b < w§:=(zJ h).1
theorem NdH.at {w:yW}{b:Nat}{m:Nd}(h:NdH w b m):NdAt w b 0 m:=⟨Qa h 0,Qa h 1,Qa h 2,Qa h 3,Qa h 4,Qa h 5,Qa h 6,Qa h 7⟩
theorem NdH.on {w w':yW}{b:Nat}{m:Nd}(h:NdH w b m) (k:yD w w'):NdH w' b m:=(k.block b h.lt).trans h
theorem NdH.hid {w:yW}{b:Nat}{m:Nd}(h:NdH w b m):Hid (NdH w b m):=h
theorem NdAt.hid {w:yW}{b o:Nat}{m:Nd}(h:NdAt w b o m):Hid (NdAt w b o m):=h
mutual
/-- How many nodes. -/
def size:Nd→Nat
 | .mk _ _ _ ks=>1+JG ks
def JG:List Nd→Nat
 | []=>0
 | k :: ks=>size k+JG ks
end
mutual
/-- All nodes, a node ahead of its kids. -/
def pre:Nd→List Nd
 | .mk h a c ks=>.mk h a c ks :: pres ks
def pres:List Nd→List Nd
 | []=>[]
 | k :: ks=>pre k ++ pres ks
end
def numB (t:Int):Bool:=decide (1≤t∧t≤4)
def litB (t n:Int):Bool:=if t=5 then decide (0≤n∧n≤1) else if t=6 then decide (1≤n∧n≤2) else numB t && decide (0≤n)
def nm (h:Hd):Hd :=
 if h.k=1 then ⟨h.k,0,h.t,h.n,0,⟨#[]⟩,0⟩ else
 if h.k=9 then ⟨h.k,0,h.t,0,0,⟨#[]⟩,0⟩ else
 if h.k=2 then ⟨h.k,0,0,0,0,h.x,0⟩ else
 if h.k=3∨h.k=4 then ⟨h.k,0,0,0,h.f,⟨#[]⟩,0⟩ else
 if h.k=5∨h.k=6∨h.k=8 then ⟨h.k,h.o,0,0,0,⟨#[]⟩,0⟩ else ⟨h.k,0,0,0,0,⟨#[]⟩,0⟩
def fitB (h:Hd) (l:Nat):Bool :=
 if h.k=1 then decide (l=0) && litB h.t h.n else
 if h.k=2 then decide (l=0) && Jm h.x else
 if h.k=3 then decide (l=0) && decide (1≤h.f∧h.f≤6) else
 if h.k=4 then decide (l=0) && decide (1≤h.f∧h.f≤3) else
 if h.k=5 then decide (l=1) && decide (1≤h.o∧h.o≤2) else
 if h.k=6 then decide (l=2) && decide (6≤h.o∧h.o≤18) else
 if h.k=7 then decide (l=3) else
 if h.k=8 then (decide (l=1) && decide (h.o=3)) || (decide (l=2) && decide (4≤h.o∧h.o≤5)) else
 if h.k=9 then decide (l=1) && numB h.t else false
def Kd (h:Hd):Array Value:=#[zU h.k,zU h.o,zU h.t,zI h.n,zU h.f,.string h.x]
def Jw (g h:Hd):Bool:=decide (g.k=h.k) && (decide (g.o=h.o) && (decide (g.t=h.t) && (decide (g.n=h.n) && (decide (g.f=h.f) && decide (g.x=h.x)))))
def oneH (h:Hd) (l:Nat):Bool:=Jw h (nm h) && fitB h l
mutual
/-- Is each node one of the table's? -/
def Qw:Nd→Bool
 | .mk h _ _ ks=>oneH h ks.length && Q1 ks
def Q1:List Nd→Bool
 | []=>true
 | k :: ks=>Qw k && Q1 ks
end
def lvO (o:Int):Int:=if o=18 then 2 else if o=17 then 3 else if o=6∨o=7 then 5 else if o=8∨o=9∨o=10 then 6 else 4
def lvl (h:Hd):Int:=if h.k=7 then 1 else if h.k=6 then lvO h.o else if h.k=5 then 7 else 8
def ask (h:Hd) (i:Nat):Int:=if h.k=7 then (if i=0 then 2 else 1) else if h.k=6 then (if lvl h=4 then 5 else lvl h+i) else if h.k=5 then 7 else 1
def dwn (h:Hd) (i:Nat):Bool:=if h.k=6 then false else if h.k=7 then decide (0 < i) else true
def inc (b:Bool) (d:Nat):Nat:=if b=true then d+1 else d
mutual
/-- How deep an expression goes. -/
def dep:Nd→Nat
 | .mk h _ _ ks=>deps h 0 ks
def deps (h:Hd):Nat→List Nd→Nat
 | _,[]=>0
 | i,k :: ks=>Nat.max (inc (dwn h i) (inc (decide (lvl k.h < ask h i)) (dep k))) (deps h (i+1) ks)
end
mutual
/-- Are two expressions the same, but for places? -/
def Kl:Nd→Nd→Bool
 | .mk g _ _ js,m=>Jw g m.h && (decide (js.length=m.ks.length) && JF js m.ks)
def JF:List Nd→List Nd→Bool
 | [],_=>true
 | _ :: _,[]=>true
 | j :: js,k :: ks=>Kl j k && JF js ks
end
theorem Ja {ks:List Nd}{i:Nat}(hi:i < ks.length):ks[i] ∈ ks:=List.getElem_mem hi
theorem Kf {ks:List Nd}{i:Nat}(hi:i < ks.length):ks.drop i=ks[i] :: ks.drop (i+1):=List.drop_eq_getElem_cons hi
set_option maxRecDepth 100000
open Go.ChangeShapes Go.WideShapes Go.ChangeAt
theorem H7 {H:Type}{P:Program}{e:TypeId}:∀ {l:List (DataW H)}{j:Nat}{d:DataW H},l[j]? = some d→∀ n ∈ d.weights P e,n ∈ DataW.weightsAll P e l
 | d0 :: l,0,d,hd,n,hn=>by
  simp only [List.getElem?_cons_zero,Option.some.injEq] at hd
  subst hd
  simp only [DataW.weightsAll,List.mem_append]
  exact Or.inl hn
 | d0 :: l,j+1,d,hd,n,hn=>by
  simp only [List.getElem?_cons_succ] at hd
  simp only [DataW.weightsAll,List.mem_append]
  exact Or.inr (H7 hd n hn)
 | [],_,_,hd,_,_=>by simp at hd
theorem Qbn {H:Type}{enc:TypeId × Value→H}{W:yW}{held:Bool}:∀ (fuel:Nat) (cs:List Value) (x:DataW H × List MemPlace),DataW.trod enc zG W 0 (fun _=>true) held fuel 38 cs=some x →
  (∀ z ∈ x.1.weights zG 38,z≤reachBytes)→∃ m:Nd,cs=m.vals.toList∧Lies W m:=by
 intro fuel
 induction fuel using Nat.strongRecOn with
 | _ fuel ih =>
 intro cs x h hz
 obtain⟨xs,k,hk,hx,hlen,hxl,hf⟩:=DataW.trod_struct underlying38 h
 rw [show Tryz.prog.cellsOf 38=8 by kernel_rfl] at hlen
 match cs,hlen with
 | [v0,v1,v2,v3,v4,v5,v6,v7],_ =>
  have hx8:xs.length=8:=hxl
  match xs,hx8 with
  | [y0,y1,y2,y3,y4,y5,y6,y7],_ =>
   have g0:DataW.trod enc zG W 0 (fun _=>true) held k 32 (([v0,v1,v2,v3,v4,v5,v6,v7].drop 0).take (Tryz.prog.cellsOf 32))=some y0:=hf 0 _ rfl
   have g1:DataW.trod enc zG W 0 (fun _=>true) held k 33 (([v0,v1,v2,v3,v4,v5,v6,v7].drop 1).take (Tryz.prog.cellsOf 33))=some y1:=hf 1 _ rfl
   have g2:DataW.trod enc zG W 0 (fun _=>true) held k 34 (([v0,v1,v2,v3,v4,v5,v6,v7].drop 2).take (Tryz.prog.cellsOf 34))=some y2:=hf 2 _ rfl
   have g3:DataW.trod enc zG W 0 (fun _=>true) held k 2 (([v0,v1,v2,v3,v4,v5,v6,v7].drop 3).take (Tryz.prog.cellsOf 2))=some y3:=hf 3 _ rfl
   have g4:DataW.trod enc zG W 0 (fun _=>true) held k 35 (([v0,v1,v2,v3,v4,v5,v6,v7].drop 4).take (Tryz.prog.cellsOf 35))=some y4:=hf 4 _ rfl
   have g5:DataW.trod enc zG W 0 (fun _=>true) held k 9 (([v0,v1,v2,v3,v4,v5,v6,v7].drop 5).take (Tryz.prog.cellsOf 9))=some y5:=hf 5 _ rfl
   have g6:DataW.trod enc zG W 0 (fun _=>true) held k 36 (([v0,v1,v2,v3,v4,v5,v6,v7].drop 6).take (Tryz.prog.cellsOf 36))=some y6:=hf 6 _ rfl
   have g7:DataW.trod enc zG W 0 (fun _=>true) held k 3 (([v0,v1,v2,v3,v4,v5,v6,v7].drop 7).take (Tryz.prog.cellsOf 3))=some y7:=hf 7 _ rfl
   rw [show Tryz.prog.cellsOf 32=1 by kernel_rfl] at g0
   rw [show Tryz.prog.cellsOf 33=1 by kernel_rfl] at g1
   rw [show Tryz.prog.cellsOf 34=1 by kernel_rfl] at g2
   rw [show Tryz.prog.cellsOf 2=1 by kernel_rfl] at g3
   rw [show Tryz.prog.cellsOf 35=1 by kernel_rfl] at g4
   rw [show Tryz.prog.cellsOf 9=1 by kernel_rfl] at g5
   rw [show Tryz.prog.cellsOf 36=1 by kernel_rfl] at g6
   rw [show Tryz.prog.cellsOf 3=1 by kernel_rfl] at g7
   obtain⟨n0,e0,_,w0⟩:=DataW.trod_int (show Tryz.prog.underlying 32=some (.int .u8) by kernel_rfl) (show DataW.trod enc zG W 0 (fun _=>true) held k 32 [v0]=some y0 from g0)
   obtain⟨n1,e1,_,w1⟩:=DataW.trod_int (show Tryz.prog.underlying 33=some (.int .u8) by kernel_rfl) (show DataW.trod enc zG W 0 (fun _=>true) held k 33 [v1]=some y1 from g1)
   obtain⟨n2,e2,_,w2⟩:=DataW.trod_int (show Tryz.prog.underlying 34=some (.int .u8) by kernel_rfl) (show DataW.trod enc zG W 0 (fun _=>true) held k 34 [v2]=some y2 from g2)
   obtain⟨n3,e3,_,w3⟩:=DataW.trod_int (show Tryz.prog.underlying 2=some (.int .i64) by kernel_rfl) (show DataW.trod enc zG W 0 (fun _=>true) held k 2 [v3]=some y3 from g3)
   obtain⟨n4,e4,_,w4⟩:=DataW.trod_int (show Tryz.prog.underlying 35=some (.int .u8) by kernel_rfl) (show DataW.trod enc zG W 0 (fun _=>true) held k 35 [v4]=some y4 from g4)
   obtain⟨n5,e5,d5,w5⟩:=DataW.trod_string (show Tryz.prog.underlying 9=some .string by kernel_rfl) (show DataW.trod enc zG W 0 (fun _=>true) held k 9 [v5]=some y5 from g5)
   obtain⟨n7,e7,_,w7⟩:=DataW.trod_int (show Tryz.prog.underlying 3=some (.int .i64) by kernel_rfl) (show DataW.trod enc zG W 0 (fun _=>true) held k 3 [v7]=some y7 from g7)
   cases e0;cases e1;cases e2;cases e3;cases e4;cases e5;cases e7
   have hz':∀ (j:Nat) (t:TypeId) (d:DataW H),[32,33,34,2,35,9,36,3][j]? = some t→([y0,y1,y2,y3,y4,y5,y6,y7].map (·.1))[j]? = some d→∀ z ∈ d.weights zG t,z≤reachBytes:=by
    intro j t d h1 h2 z hz1
    refine hz z ?_
    rw [hx]
    have:=DataW.weights_mem_each (P:=zG) h1 h2 z hz1
    rw [show (DataW.weights zG 38 (.agg ([y0,y1,y2,y3,y4,y5,y6,y7].map (·.1)):DataW H))=DataW.weightsEach zG [32,33,34,2,35,9,36,3] ([y0,y1,y2,y3,y4,y5,y6,y7].map (·.1)) by
     rw [DataW.weights,underlying38];rfl]
    exact this
   have hr:Rg ⟨n0,n1,n2,n3,n4,n5,n7⟩:=by
    refine⟨(bounds_u8 w0).1,(bounds_u8 w0).2,(bounds_u8 w1).1,(bounds_u8 w1).2,(bounds_u8 w2).1,(bounds_u8 w2).2,(bounds_i64 w3).1,(bounds_i64 w3).2,(bounds_u8 w4).1,(bounds_u8 w4).2,(bounds_i64 w7).1,(bounds_i64 w7).2,?_⟩
    have:=hz' 5 9 y5.1 rfl rfl n5.size (by rw [d5];simp [DataW.weights])
    have h2:reachBytes≤140737488355328:=by decide
    exact Nat.le_trans this h2
   rcases DataW.trod_slice underlying36 (show DataW.trod enc zG W 0 (fun _=>true) held k 36 [v6]=some y6 from g6) with ⟨hcs,_⟩ | ⟨a,len,cap,elems,rest,n,hn,hcs,hx6,hb,hl,hm,hlen',hel,hsp,hns⟩
   ·cases hcs
    exact⟨.mk ⟨n0,n1,n2,n3,n4,n5,n7⟩ none 0 [],rfl,.mk _ _ _ _ hr (Nat.le_refl _) (by decide) (fun i hi=>by simp at hi) (fun k hk=>by cases hk)⟩
   ·cases hcs
    have each:∀ i,i < len→∃ q:Nd,(∀ j,j < 8→W.cell? (a.add (i * 8+j))=q.vals.toList[j]?)∧Lies W q:=by
     intro i hi
     have h1:=hel i hi
     rw [show Tryz.prog.cellsOf 38=8 by kernel_rfl] at h1
     have h2:elems[i]? = some elems[i]:=List.getElem?_eq_getElem zY
     rw [h2] at h1
     obtain⟨cs',h3,h4⟩:=Option.bind_eq_some_iff.1 h1
     obtain⟨q,hq,hlq⟩:=ih n zY cs' elems[i] h4 (fun z hz1=>hz' 6 36 y6.1 rfl rfl z (by
      rw [hx6,DataW.weights,underlying36]
      refine List.mem_cons_of_mem _ (List.mem_append_left _ ?_)
      exact H7 (j:=i) (by simp [h2]) z hz1))
     obtain⟨_,hlen,hcell⟩:=World.cells?_some h3
     refine⟨q,fun j hj=>?_,hlq⟩
     have e0:=hcell j zY
     rw [Go.Deep.add_add] at e0
     rw [e0,hq]
    have:Inhabited Nd:=⟨.mk ⟨0,0,0,0,0,⟨#[]⟩,0⟩ none 0 []⟩
    obtain⟨A,hA⟩:=Go.Deep.choose_lt each
    refine⟨.mk ⟨n0,n1,n2,n3,n4,n5,n7⟩ (some a) cap ((List.range len).map A),by simp [Nd.vals,hdA,Nd.h,Nd.a,Nd.ks,Nd.c],.mk _ _ _ _ hr (by simpa using hl) (by unfold maxLen at hm;omega) (fun i hi=>?_) (fun k hk=>?_)⟩
    ·have hi':i < len:=by simpa using hi
     have g:=(hA i hi').1
     have hc0:=(hA 0 zY).1 0 zY
     obtain⟨b,off,spot⟩:=a
     have hspot:spot=none:=by simpa [Addr.add] using World.cell?_spot hc0
     subst hspot
     refine⟨b,off,rfl,?_⟩
     rw [List.getElem_map,List.getElem_range]
     refine⟨?_,?_,?_,?_,?_,?_,?_,?_⟩
     ·have:=g 0 zY;rw [Addr.add_lit] at this;exact this
     ·have:=g 1 zY;rw [Addr.add_lit,← Nat.add_assoc] at this;exact this
     ·have:=g 2 zY;rw [Addr.add_lit,← Nat.add_assoc] at this;exact this
     ·have:=g 3 zY;rw [Addr.add_lit,← Nat.add_assoc] at this;exact this
     ·have:=g 4 zY;rw [Addr.add_lit,← Nat.add_assoc] at this;exact this
     ·have:=g 5 zY;rw [Addr.add_lit,← Nat.add_assoc] at this;exact this
     ·have:=g 6 zY;rw [Addr.add_lit,← Nat.add_assoc] at this;exact this
     ·have:=g 7 zY;rw [Addr.add_lit,← Nat.add_assoc] at this;exact this
    ·obtain⟨i,hi,rfl⟩:=List.mem_map.1 hk
     exact (hA i (List.mem_range.1 hi)).2
theorem Qeh {H:Type}{enc:TypeId × Value→H}{W:yW}{held:Bool}{fuel:Nat}{cs:Array Value}{x:DataW H × List MemPlace}
  (h:DataW.trod enc zG W 0 (fun _=>true) held fuel 38 (Value.agg cs).cells.toList=some x) (hz:∀ z ∈ x.1.weights zG 38,z≤reachBytes):∃ m:Nd,cs=m.vals∧Lies W m:=by
 obtain⟨m,hm,hl⟩:=Qbn fuel _ x h hz
 exact⟨m,Array.toList_inj.1 hm,hl⟩
end Go.Proofs.YtfbjofnaghjmeaaGreatDoor
