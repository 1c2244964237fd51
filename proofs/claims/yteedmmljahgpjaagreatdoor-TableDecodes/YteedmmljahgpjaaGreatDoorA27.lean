import Derived.Test.YteedmmljahgpjaaGreatDoorA0
import Derived.Test.YteedmmljahgpjaaGreatDoorA26
import Derived.Test.YteedmmljahgpjaaGreatDoorA12
import Derived.Test.YteedmmljahgpjaaGreatDoorA25
import Derived.Test.YteedmmljahgpjaaGreatDoorA3
import Derived.Deep.Slices
import Derived.ProofKit
import Derived.OpenShut
import Derived.ChangeArms
import Derived.SizedLaws
import Derived.Test.YteedmmljahgpjaaGreatDoorA21
namespace Go.Proofs.YteedmmljahgpjaaGreatDoor
open Go.RowKit
set_option linter.unusedVariables false
set_option linter.unusedSimpArgs false
def Qm {α:Type}(step:Int→Option Int→α × Int × Option Int):Nat→Int→Option Int→List α × Int × Option Int
 | 0,f,st=>([],f,st)
 | _+1,f,none=>([],f,none)
 | n+1,f,some p=>((step f (some p)).1 :: (Qm step n (step f (some p)).2.1 (step f (some p)).2.2).1,(Qm step n (step f (some p)).2.1 (step f (some p)).2.2).2)
theorem Jn {α:Type}(step:Int→Option Int→α × Int × Option Int) (n:Nat) (f:Int):Qm step n f none=([],f,none):=by cases n <;> rfl
theorem Ke {α:Type}{step:Int→Option Int→α × Int × Option Int}{M i:Nat}{f p:Int}{xs:List α}{T:List α × Int × Option Int}(hi:i < M) (h:(xs ++ (Qm step (M - i) f (some p)).1,(Qm step (M - i) f (some p)).2)=T) :
  ((xs ++ [(step f (some p)).1]) ++ (Qm step (M - (i+1)) (step f (some p)).2.1 (step f (some p)).2.2).1,(Qm step (M - (i+1)) (step f (some p)).2.1 (step f (some p)).2.2).2)=T:=by
 rw [← h,show M - i=(M - (i+1))+1 by omega]
 simp [Qm]
theorem Jt {α:Type}{step:Int→Option Int→α × Int × Option Int}{M i:Nat}{f:Int}{st:Option Int}{xs:List α}{T:List α × Int × Option Int}(hi:st=none∨M≤i) (h:(xs ++ (Qm step (M - i) f st).1,(Qm step (M - i) f st).2)=T):T=(xs,f,st):=by
 rw [← h]
 rcases hi with rfl | hi
 ·rw [Jn]; simp
 ·rw [show M - i=0 by omega]; simp [Qm]
theorem listS_bd {α:Type}{step:Int→Option Int→α × Int × Option Int}{K:Int}(hK:0≤K) (hs:∀ f st,f≤(step f st).2.1∧(step f st).2.1≤f+K):∀ (n:Nat) (f:Int) (st:Option Int),f≤(Qm step n f st).2.1∧(Qm step n f st).2.1≤f+K * n
 | 0,f,st=>by simp [Qm]
 | n+1,f,none=>by
  have:0≤K * ((n+1:Nat):Int):=Int.mul_nonneg hK (by omega)
  simp only [Qm]
  omega
 | n+1,f,some p=>by
  have h1:=hs f (some p)
  have h2:=listS_bd hK hs n (step f (some p)).2.1 (step f (some p)).2.2
  simp only [Qm]
  have e:K * ((n+1:Nat):Int)=K * (n:Int)+K:=by rw [Int.natCast_add,Int.mul_add]; simp
  omega
theorem spsS_bd (l:List UInt8):∀ (bs:List Bool) (f:Int) (st:Option Int),f≤(spsS l bs f st).2.1∧(spsS l bs f st).2.1≤f+4096 * bs.length
 | [],f,st=>by simp [spsS]
 | b :: bs,f,st=>by
  have h0:=Qk 4096 (by decide) l st
  have h1:=spsS_bd l bs (f+(numS 4096 l st).1) (numS 4096 l st).2
  have h2:=spsS_bd l bs f st
  simp only [spsS,List.length_cons]
  split
  ·simp only; omega
  ·simp only; omega
theorem rowS_bd (l:List UInt8) (f:Int) (st:Option Int):f≤(rowS l f st).2.1∧(rowS l f st).2.1≤f+16384:=by
 have h:=spsS_bd l (prts (Qn (numS 6 l st).1 (numS 5 l (numS 6 l st).2).1)) f (numS 1000 l (numS 5 l (numS 6 l st).2).2).2
 have h4:(prts (Qn (numS 6 l st).1 (numS 5 l (numS 6 l st).2).1)).length=4:=rfl
 rw [h4] at h
 unfold rowS
 simp only
 omega
def gdS (l:List UInt8) (f:Int) (st:Option Int):GdP × Int × Option Int :=
 (⟨⟨f,f+(numS 4096 l st).1⟩,0,0,(Qm (rowS l) (numS 8 l (numS 4096 l st).2).1.toNat (f+(numS 4096 l st).1) (numS 8 l (numS 4096 l st).2).2).1⟩,(Qm (rowS l) (numS 8 l (numS 4096 l st).2).1.toNat (f+(numS 4096 l st).1) (numS 8 l (numS 4096 l st).2).2).2)
def stS (l:List UInt8) (f:Int) (st:Option Int):List GdP × Int × Option Int:=Qm (gdS l) (numS 12 l st).1.toNat f (numS 12 l st).2
def QZ (l:List UInt8) (st:Option Int):List (List GdP) × Int × Option Int:=Qm (stS l) (numS 12 l st).1.toNat 0 (numS 12 l st).2
theorem gdS_bd (l:List UInt8) (f:Int) (st:Option Int):f≤(gdS l f st).2.1∧(gdS l f st).2.1≤f+140000:=by
 have h0:=Qk 4096 (by decide) l st
 have h1:=Qk 8 (by decide) l (numS 4096 l st).2
 have h2:=listS_bd (step:=rowS l) (K:=16384) (by decide) (rowS_bd l) (numS 8 l (numS 4096 l st).2).1.toNat (f+(numS 4096 l st).1) (numS 8 l (numS 4096 l st).2).2
 unfold gdS
 simp only
 omega
theorem stS_bd (l:List UInt8) (f:Int) (st:Option Int):f≤(stS l f st).2.1∧(stS l f st).2.1≤f+1680000:=by
 have h1:=Qk 12 (by decide) l st
 have h2:=listS_bd (step:=gdS l) (K:=140000) (by decide) (gdS_bd l) (numS 12 l st).1.toNat f (numS 12 l st).2
 unfold stS
 omega
def JD (nb:List Bx) (e sz:Nat) (a:Option Addr) (c:Nat) (vs:List (Array Value)):Prop :=
 (nb = []∧a=none∧c=0∧vs = [])∨∃ g cur,nb = [(g,e,cur)]∧a=some ⟨g,0,none⟩∧vs.length≤c∧c≤9223372036854775807∧∀ i (hi:i < vs.length) j,j < sz→cur[i * sz+j]? = vs[i][j]?
theorem JD.keep {nb:List Bx}{e sz:Nat}{a:Option Addr}{c:Nat}{vs:List (Array Value)}(h:JD nb e sz a c vs):Keep nb (fun U=>SlAt U sz a c vs):=by
 rcases h with ⟨rfl,rfl,rfl,rfl⟩ | ⟨g,cur,rfl,rfl,h1,h2,h3⟩
 ·exact fun U _=>⟨Nat.le_refl _,Nat.zero_le _,fun i hi=>by simp at hi⟩
 ·intro U hU
  have hc:=hU _ (List.mem_singleton.2 rfl)
  refine⟨h1,h2,fun i hi=>⟨g,0,rfl,fun j hj=>?_⟩⟩
  rw [Co hc,Nat.zero_add]
  exact h3 i hi j hj
theorem OwnK.fin3 {w V:World}{bs:List Bx}{e sz:Nat}{v:Value}{vs:List (Array Value)}(h:OwnK w V bs e sz v vs) (n:(bs.map (·.1)).Nodup) :
  ∃ (nb:List Bx) (a:Option Addr) (c:Nat),v=.slice a vs.length c∧Bs w V (nb ++ bs)∧Lst w nb e sz v vs∧JD nb e sz a c vs:=by
 rcases h.R.2 with ⟨h1,h2⟩ | ⟨g,cap,cur,h1,h2,h3,h4,h5,h6,h7⟩
 ·have hv:vs = []:=List.eq_nil_of_length_eq_zero h2
  subst hv h1
  exact⟨[],none,0,rfl,⟨h.B,fun p hp=>⟨(h.K p hp).1,(h.K p hp).2.1⟩,n⟩,Lst.nil _ _ _,.inl ⟨rfl,rfl,rfl,rfl⟩⟩
 ·subst h1
  refine⟨[(g,e,cur)],some ⟨g,0,none⟩,cap,rfl,⟨h.B,fun p hp=>?_,?_⟩,⟨h.Z,fun U hU=>⟨h.R.1,.inr ⟨g,cap,cur,rfl,h2,hU _ (List.mem_singleton.2 rfl),h4,h5,h6,h7⟩⟩,fun g' hg'=>⟨_,List.mem_singleton.2 rfl,by simpa [Value.ownBlock] using hg'⟩⟩,.inr ⟨g,cur,rfl,rfl,h4,by unfold maxLen at h5; omega,fun i hi j hj=>?_⟩⟩
  ·rcases List.mem_cons.1 (by simpa using hp) with rfl | hp
   ·exact⟨h3,h2⟩
   ·exact⟨(h.K p hp).1,(h.K p hp).2.1⟩
  ·rw [List.singleton_append,List.map_cons,List.nodup_cons]
   refine⟨fun e'=>?_,n⟩
   obtain⟨p,hp,e'⟩:=List.mem_map.1 e'
   exact (h.K p hp).2.2 (by simp [Value.ownBlock]; exact e'.symm)
  ·have hlt:i * sz+j < vs.length * sz:=by
    have:(i+1) * sz≤vs.length * sz:=Nat.mul_le_mul hi (Nat.le_refl _)
    rw [Nat.add_mul] at this
    omega
   rw [← QR vs h.Z i hi j hj,← h7,List.getElem?_take,if_pos hlt,Array.getElem?_toList]
def RelGD (g:GdP) (x:Array Value) (nb:List Bx):Prop:=∃ a c,x=GdM.vals ⟨g.wh,g.fd,g.rg,a,c,g.rs⟩∧JD nb 85 11 a c (g.rs.map RowM.vals)
def JC (gs:List GdP) (x:Array Value) (nb:List Bx):Prop:=∃ a c xs nb1 nbs,x=#[.slice a gs.length c]∧nb=nb1 ++ nbs∧Rels RelGD gs xs nbs∧JD nb1 68 5 a c xs
theorem RdS.own {w V:World}{R:Nat}{s:ByteArray}{st:Option Int}{nb bs:List Bx}{e sz:Nat}{v:Value}{vs:List (Array Value)}(h:RdS w V R s st (nb ++ bs)) (l:Lst w nb e sz v vs):∃ p b,OwnK w V ((R,102,rdV s p b) :: bs) e sz v vs∧(((R,102,rdV s p b) :: bs:List Bx).map (·.1)).Nodup∧(st=some p∧b=false∨st=none∧b=true):=by
 obtain⟨p,b,hB,k⟩:=h.bs
 have hB2:=hB.perm (List.perm_middle.symm:((R,102,rdV s p b) :: (nb ++ bs)).Perm (nb ++ (R,102,rdV s p b) :: bs))
 refine⟨p,b,Bs.own hB2 l,?_,k⟩
 have h1:=hB2.N
 rw [List.map_append,List.nodup_append] at h1
 exact h1.2.1
theorem OwnK.rds {w V:World}{R:Nat}{s:ByteArray}{st:Option Int}{bs:List Bx}{p:Int}{b:Bool}{e sz:Nat}{v:Value}{vs:List (Array Value)}(h:OwnK w V ((R,102,rdV s p b) :: bs) e sz v vs) (n:(((R,102,rdV s p b) :: bs:List Bx).map (·.1)).Nodup) (k:st=some p∧b=false∨st=none∧b=true) :
  ∃ (nb:List Bx) (a:Option Addr) (c:Nat),v=.slice a vs.length c∧RdS w V R s st (nb ++ bs)∧Lst w nb e sz v vs∧JD nb e sz a c vs:=by
 obtain⟨nb,a,c,h1,h2,h3,h4⟩:=h.fin3 n
 exact⟨nb,a,c,h1,RdS.mk (h2.perm List.perm_middle) k,h3,h4⟩
def cxV (u:TbM) (vo:Value):Array Value:=#[.string u.x,.slice u.ra u.rs.length u.rc,zI u.sl,.slice u.ca u.cs.length u.cc,.slice u.da u.ds.length u.dc,vo]
def FB (u:TbM) (U:World):Prop:=SlAt U 1 u.ra u.rc (u.rs.map QF)∧SlAt U 1 u.ca u.cc (u.cs.map QF)∧SlAt U 2 u.da u.dc (u.ds.map InM.vals)
structure Ci (w V:World) (X R:Nat) (t u:TbM) (x:StM) (vo vi:Value) (gm:List GdM) (nbo nbi ks:List Bx):Prop where
 B:Bs w V (nbi ++ (nbo ++ ((X,26,cxV u vo) :: (R,26,tb0) :: ks)))
 L:Lst w nbo 69 1 vo (u.ts.map StM.vals)
 Li:Lst w nbi 68 5 vi (gm.map GdM.vals)
 K:Keep ks (fun U=>(FB u U∧∀ s ∈ u.ts,StL U s)∧∀ g ∈ gm,GdL U g)
 T:(w§,26,t.vals) ∈ ks
 G:∀ k (h1:k < gm.length) (h2:k < x.gs.length),JO gm[k] x.gs[k]
theorem Ci.box {w V:World}{X R:Nat}{t u:TbM}{x:StM}{vo vi:Value}{gm:List GdM}{nbo nbi ks:List Bx}(h:Ci w V X R t u x vo vi gm nbo nbi ks):V.heap[X]? = some (.cells (cxV u vo) 26 (0,0))∧V.heap[R]? = some (.cells tb0 26 (0,0))∧V.heap[w§]? = some (.cells t.vals 26 (0,0)) :=
 ⟨(h.B.K (X,26,cxV u vo) (by simp)).1,(h.B.K (R,26,tb0) (by simp)).1,(h.B.K (w§,26,t.vals) (by simp [h.T])).1⟩
theorem pm2 {α:Type}(l:List α) (a b:α) (m:List α):(l ++ (a :: b :: m)).Perm (a :: b :: (l ++ m)) :=
 List.perm_middle.trans (List.Perm.cons _ List.perm_middle)
theorem Ci.rows {w V:World}{X R G:Nat}{t u:TbM}{x:StM}{vo vi v8:Value}{gm:List GdM}{nbo nbi ks:List Bx}{g:GdM}
  (hL:Lst w nbo 69 1 vo (u.ts.map StM.vals)) (hLi:Lst w nbi 68 5 vi (gm.map GdM.vals)) (hK:Keep ks (fun U=>(FB u U∧∀ s ∈ u.ts,StL U s)∧∀ g ∈ gm,GdL U g)) (hT:(w§,26,t.vals) ∈ ks)
  (hG:∀ k (h1:k < gm.length) (h2:k < x.gs.length),JO gm[k] x.gs[k]) (hg:SpI g.wh∧U16 g.fd∧U16 g.rg∧∀ r ∈ g.rs,RowI r)
  (hO:OwnK w V ((G,68,g.vals) :: (nbi ++ (nbo ++ ((X,26,cxV u vo) :: (R,26,tb0) :: ks)))) 85 11 v8 (g.rs.map RowM.vals)) (hN:(((G,68,g.vals) :: (nbi ++ (nbo ++ ((X,26,cxV u vo) :: (R,26,tb0) :: ks)))).map (·.1)).Nodup) :
  ∃ (a:Option Addr) (c:Nat) (ks':List Bx),v8=.slice a g.rs.length c∧(V.setCell ⟨G,4,none⟩ v8).heap[G]? = some (.cells (GdM.vals { g with a:=a,c:=c }) 68 (0,0)) ∧
   Ci w (V.setCell ⟨G,4,none⟩ v8) X R t u x vo vi gm nbo nbi ks'∧Keep ks' (fun U=>GdL U { g with a:=a,c:=c }):=by
 have hP:=hO.putAt (fun p hp e=>by
  rw [List.map_cons,List.nodup_cons] at hN
  exact hN.1 (List.mem_map.2 ⟨p,hp,e⟩)) 4 v8
 obtain⟨nb,a,c,e,hB,hL8,hK8⟩:=hP.fin (by simpa using hN)
 rw [List.length_map] at e
 subst e
 refine⟨a,c,nb ++ ((G,68,GdM.vals { g with a:=a,c:=c }) :: ks),rfl,hP.box,⟨?_,hL,hLi,fun U hU=>hK U fun b hb=>hU b (by simp [hb]),by simp [hT],hG⟩,fun U hU=>⟨hg.1,hg.2.1,hg.2.2.1,hK8 U fun b hb=>hU b (by simp [hb]),hg.2.2.2⟩⟩
 refine hB.perm ?_
 have e1:(g.vals.setIfInBounds 4 (Value.slice a g.rs.length c))=GdM.vals { g with a:=a,c:=c }:=rfl
 rw [e1]
 refine (List.perm_append_comm_assoc nb [(G,68,GdM.vals { g with a:=a,c:=c })] _).trans ?_
 show (((G,68,GdM.vals { g with a:=a,c:=c }):Bx) :: (nb ++ (nbi ++ (nbo ++ ((X,26,cxV u vo) :: (R,26,tb0) :: ks))))).Perm _
 refine List.Perm.trans (l₂:=nbi ++ (nbo ++ ((X,26,cxV u vo) :: (R,26,tb0) :: (((G,68,GdM.vals { g with a:=a,c:=c }):Bx) :: (nb ++ ks))))) ?_ ?_
 ·have h1:(nb ++ (nbi ++ (nbo ++ ((X,26,cxV u vo) :: (R,26,tb0) :: ks)))).Perm (nbi ++ (nbo ++ ((X,26,cxV u vo) :: (R,26,tb0) :: (nb ++ ks)))):=by
   refine (List.perm_append_comm_assoc nb nbi _).trans (List.Perm.append_left _ ?_)
   refine (List.perm_append_comm_assoc nb nbo _).trans (List.Perm.append_left _ ?_)
   exact pm2 nb _ _ ks
  refine (List.Perm.cons _ h1).trans ?_
  refine (List.perm_middle (l₁:=nbi)).symm.trans (List.Perm.append_left _ ?_)
  refine (List.perm_middle (l₁:=nbo)).symm.trans (List.Perm.append_left _ ?_)
  exact (List.Perm.swap _ _ _).trans (List.Perm.cons _ (List.Perm.swap _ _ _))
 ·refine List.Perm.append_left _ (List.Perm.append_left _ (List.Perm.cons _ (List.Perm.cons _ ?_)))
  exact (List.perm_middle (l₁:=nb)).symm
theorem Ci.more {w V:World}{X R:Nat}{t u:TbM}{x:StM}{vo vi v':Value}{gm:List GdM}{nbo nbi ks:List Bx}{g:GdM}{j:Nat}(h:Ci w V X R t u x vo vi gm nbo nbi ks) (hK:Keep ks (fun U=>GdL U g)) (hj:gm.length=j) (hjl:j < x.gs.length) (hS:JO g x.gs[j]) {V':World}
  (hO:OwnK w V' (nbo ++ ((X,26,cxV u vo) :: (R,26,tb0) :: ks)) 68 5 v' (gm.map GdM.vals ++ [g.vals])):∃ nbi',Ci w V' X R t u x vo v' (gm ++ [g]) nbo nbi' ks:=by
 have hN:=h.B.N
 rw [List.map_append,List.nodup_append] at hN
 obtain⟨nb,a,c,_,hB,hL',_⟩:=hO.fin hN.2.1
 refine⟨nb,hB,h.L,by rw [List.map_append]; exact hL',fun U hU=>⟨(h.K U hU).1,fun y hy=>?_⟩,h.T,fun k h1 h2=>?_⟩
 ·rcases List.mem_append.1 hy with hy | hy
  ·exact (h.K U hU).2 y hy
  ·rw [List.mem_singleton.1 hy]; exact hK U hU
 ·by_cases e:k < gm.length
  ·rw [List.getElem_append_left e]; exact h.G k e h2
  ·rw [List.length_append,List.length_singleton] at h1
   obtain rfl:k=j:=by omega
   rw [List.getElem_append_right (by omega)]
   simpa using hS
set_option maxRecDepth 100000
set_option maxHeartbeats 16000000
def gV (f g:Int) (v:Value):Array Value:=#[zI f,zI g,.int .u16 0,.int .u16 0,v]
theorem gV_all {f g:Int}{a:Option Addr}{n c:Nat}:(gV f g (.slice a n c)).all (·.oneCell')=true:=by simp [gV,Value.oneCell']
theorem RdS.bad {w V:World}{R:Nat}{s:ByteArray}{bs:List Bx}(h:RdS w V R s none bs):V.cell? ⟨R,2,none⟩=some (.bool true):=by
 obtain⟨p,hp⟩:=h
 exact Co (hp.K _ (List.mem_cons_self ..)).1 2
theorem RdS.good {w V:World}{R:Nat}{s:ByteArray}{p:Int}{bs:List Bx}(h:RdS w V R s (some p) bs):V.cell? ⟨R,2,none⟩=some (.bool false):=Co (Bs.K h _ (List.mem_cons_self ..)).1 2
def OutSts (w:World) (R:Nat) (s:ByteArray) (bs:List Bx) (r:List (List GdP) × Int × Option Int) (e:Ending) (V':World):Prop :=
 ∃ (nb nbs:List Bx) (xs:List (Array Value)) (a:Option Addr) (c:Nat),e=.returned (.slice a r.1.length c)∧RdS w V' R s r.2.2 (nb ++ (nbs ++ bs))∧JD nb 69 1 a c xs∧Rels JC r.1 xs nbs∧xs.length=r.1.length
theorem Rels.sz {α:Type}{Rel:α→Array Value→List Bx→Prop}{n:Nat}(hn:∀ a x nb,Rel a x nb→x.size=n) {al:List α}{xs:List (Array Value)}{nbs:List Bx}(h:Rels Rel al xs nbs):∀ x ∈ xs,x.size=n:=by
 induction h with
 | nil=>simp
 | snoc _ k ih =>
  intro x hx
  rcases List.mem_append.1 hx with hx | hx
  ·exact ih x hx
  ·rw [List.mem_singleton.1 hx]; exact hn _ _ _ k
theorem rstatesS {w V:World}{R:Nat}{s:ByteArray}{st0:Option Int}{bs:List Bx}(h:RdS w V R s st0 bs) (hs:s.size≤1099511627776) :
  Calls zG 47 #[zP R] V (OutSts w R s bs (QZ s.data.toList st0)):=by
 have HSZ:=zH hs
 have cN:=Q7 h 12 (by decide) hs
 have hm:=Qk 12 (by decide) s.data.toList st0
 obtain⟨T,eT⟩:∃ r,QZ s.data.toList st0=r:=⟨_,rfl⟩
 rw [eT]
 unfold QZ at eT
 obtain⟨mi,emi⟩:∃ q,(numS 12 s.data.toList st0).1=q:=⟨_,rfl⟩
 obtain⟨st1,es1⟩:∃ q,(numS 12 s.data.toList st0).2=q:=⟨_,rfl⟩
 rw [emi,es1] at cN eT
 rw [emi] at hm
 obtain⟨Ms,eMs⟩:∃ M:Nat,mi=(M:Int):=⟨mi.toNat,by omega⟩
 subst eMs
 rw [Int.toNat_natCast] at eT
 have HMs:Hid (Ms≤12):=by show _≤_; omega
 have HT0:Hid ((([]:List (List GdP)) ++ (Qm (stS s.data.toList) (Ms - 0) 0 st1).1,(Qm (stS s.data.toList) (Ms - 0) 0 st1).2)=T):=by
  show _=_
  rw [← eT,Nat.sub_zero,List.nil_append]
 clear h hs hm eT emi es1
 go_enter Tryz.func47,Tryz.ntmps47
 go_wp2_with fail
 refine cN.mono ?_
 rintro e V1 ⟨rfl,hR1⟩
 have HR1:Hid (RdS w V1 R s st1 bs):=hR1
 clear cN hR1
 go_wp2_with fail
 go_loopw [3,4,6] (fun vo fv t wr=>∃ (i:Nat) (f:Int) (st:Option Int) (al:List (List GdP)) (xs:List (Array Value)) (nb nbs:List Bx),i≤Ms∧t=zI i∧fv=zI f∧Hid (RdS w wr R s st (nb ++ (nbs ++ bs)))∧Hid (Lst w nb 69 1 vo xs)∧Hid (Rels JC al xs nbs)∧Hid (al.length=i)∧Hid (0≤f∧f≤1680000 * i)∧Hid ((al ++ (Qm (stS s.data.toList) (Ms - i) f st).1,(Qm (stS s.data.toList) (Ms - i) f st).2)=T)) (fun _ _ t _=>Ms - (intOf t).toNat)
 case atStart=>exact⟨0,0,st1,[],[],[],[],Nat.zero_le _,rfl,rfl,HR1,Lst.nil _ _ _,Rels.nil,rfl,⟨Int.le_refl _,by omega⟩,HT0⟩
 case round =>
  obtain⟨i,fo,st,al,xso,nbo,nbso,hi,rfl,rfl,HRo,HLo,HRelo,HAo,HFo,HTo⟩:=hrel
  have outer_end:Hid (∀ (hend:st=none∨Ms≤i),∃ a c,u3=.slice a al.length c∧OutSts w R s bs T (.returned (.slice a al.length c)) wr):=fun hend=>by
   obtain⟨p,b,hO,hN,k⟩:=HRo.out.own HLo.out
   obtain⟨nb2,a2,c2,ev,hR2,_,hLB⟩:=hO.rds hN k
   have hlen:=HRelo.out.len
   rw [← hlen] at ev
   refine⟨a2,c2,ev,?_⟩
   rw [Jt hend HTo.out]
   exact⟨nb2,nbso,xso,a2,c2,rfl,hR2,hLB,HRelo.out,hlen.symm⟩
  cases st with
  | none =>
   obtain⟨a2,c2,ev,hout⟩:=outer_end.out (.inl rfl)
   have HOUT:=zH hout
   have cb:=HRo.out.bad
   clear outer_end hout HTo HRelo HLo HAo HFo
   subst ev
   by_cases hlt:i < Ms
   ·have hlt':(i:Int) < (Ms:Int):=by omega
    go_wp2_with fail
    go_ret
    exact HOUT.out
   ·have hlt':¬ (i:Int) < (Ms:Int):=by omega
    go_wp2_with fail
    go_ret
    exact HOUT.out
  | some po =>
   by_cases hlt:i < Ms
   ·have hlt':(i:Int) < (Ms:Int):=by omega
    have hmxi:(i:Int)+1≤9223372036854775807:=by have:=HMs.out; omega
    have HLTi:Hid (i < Ms∧(i:Int)+1≤9223372036854775807):=⟨hlt,hmxi⟩
    have cb:=HRo.out.good
    have HTS:=zH (Ke hlt HTo.out)
    have cG:=Q7 HRo.out 12 (by decide) HSZ.out
    have hmg:=Qk 12 (by decide) s.data.toList (some po)
    obtain⟨TG,eTG⟩:∃ r,stS s.data.toList fo (some po)=r:=⟨_,rfl⟩
    rw [eTG] at HTS
    unfold stS at eTG
    obtain⟨mg,emg⟩:∃ q,(numS 12 s.data.toList (some po)).1=q:=⟨_,rfl⟩
    obtain⟨stg,esg⟩:∃ q,(numS 12 s.data.toList (some po)).2=q:=⟨_,rfl⟩
    rw [emg,esg] at cG eTG
    rw [emg] at hmg
    obtain⟨Mg,eMg⟩:∃ M:Nat,mg=(M:Int):=⟨mg.toNat,by omega⟩
    subst eMg
    rw [Int.toNat_natCast] at eTG
    have HMg:Hid (Mg≤12):=by show _≤_; omega
    have HTG:Hid ((([]:List GdP) ++ (Qm (gdS s.data.toList) (Mg - 0) fo stg).1,(Qm (gdS s.data.toList) (Mg - 0) fo stg).2)=TG):=by
     show _=_
     rw [← eTG,Nat.sub_zero,List.nil_append]
    clear hmg eTG emg esg outer_end HTo
    go_wp2_with fail
    refine cG.mono ?_
    rintro e W2 ⟨rfl,hR2⟩
    have HR2:=zH hR2
    clear cG hR2 cb HRo hlt hlt' hmxi
    obtain⟨bO,ebO⟩:∃ q,nbo ++ (nbso ++ bs)=q:=⟨_,rfl⟩
    have HbO:=zH ebO
    rw [ebO] at HR2
    clear ebO
    have HFo2:Hid (0≤fo∧fo≤100000000):=by have h1:=HFo.out; have h2:=HMs.out; have h3:=HLTi.out.1; show _∧_; omega
    go_wp2_with fail
    go_loopw [4,7,9] (fun fv vl t wr=>∃ (k:Nat) (f:Int) (st:Option Int) (gs:List GdP) (xs:List (Array Value)) (nb nbs:List Bx),k≤Mg∧t=zI k∧fv=zI f∧Hid (RdS w wr R s st (nb ++ (nbs ++ bO)))∧Hid (Lst w nb 68 5 vl xs)∧Hid (Rels RelGD gs xs nbs)∧Hid (gs.length=k)∧Hid (fo≤f∧f≤fo+140000 * k)∧Hid ((gs ++ (Qm (gdS s.data.toList) (Mg - k) f st).1,(Qm (gdS s.data.toList) (Mg - k) f st).2)=TG)) (fun _ _ t _=>Mg - (intOf t).toNat)
    case atStart=>exact⟨0,fo,stg,[],[],[],[],Nat.zero_le _,rfl,rfl,HR2,Lst.nil _ _ _,Rels.nil,rfl,⟨Int.le_refl _,by omega⟩,HTG⟩
    case round =>
     obtain⟨k,f,st,gs,xsm,nbm,nbsm,hk,rfl,rfl,HRm,HLm,HRelm,HAm,HFm,HTm⟩:=hrel
     cases st with
     | none =>
      have cb:=HRm.out.bad
      obtain⟨p9,b9,hO9,hN9,k9⟩:=HRm.out.own HLm.out
      obtain⟨nb9,a9,c9,ev9,hR9,_,hLB9⟩:=hO9.rds hN9 k9
      have hlen9:=HRelm.out.len
      rw [← hlen9] at ev9
      subst ev9
      have hTG:=Jt (.inl rfl) HTm.out
      have HREL:Hid (JC gs #[.slice a9 gs.length c9] (nb9 ++ nbsm)):=⟨a9,c9,xsm,nb9,nbsm,rfl,rfl,HRelm.out,hLB9⟩
      have hRo:RdS w wr R s none (nbo ++ ((nb9 ++ nbsm) ++ (nbso ++ bs))):=hR9.perm (by
       rw [← HbO.out]
       rw [← List.append_assoc nb9]
       exact (List.perm_append_comm_assoc (nb9 ++ nbsm) nbo (nbso ++ bs)))
      obtain⟨p8,b8,hO8,hN8,k8⟩:=hRo.own HLo.out
      have HO:=zH hO8
      have HND:Hid ((((R,102,rdV s p8 b8) :: ((nb9 ++ nbsm) ++ (nbso ++ bs)):List Bx).map (·.1)).Nodup∧(none=some p8∧b8=false∨(none:Option Int)=none∧b8=true)):=⟨hN8,k8⟩
      have HLL:Hid (xso.length≤1000000):=by have h1:=HRelo.out.len; have h2:=HAo.out; have h3:=HMs.out; have h4:=HLTi.out.1; show _≤_; omega
      have HTS2:Hid (((al ++ [gs]) ++ (Qm (stS s.data.toList) (Ms - (i+1)) f none).1,(Qm (stS s.data.toList) (Ms - (i+1)) f none).2)=T):=by
       have:=HTS.out
       rw [hTG] at this
       exact this
      have HF2:Hid (0≤f∧f≤1680000 * ((i+1:Nat):Int)):=by have h1:=HFm.out; have h2:=HFo.out; have h3:=HMg.out; show _∧_; omega
      have hmxi:(i:Int)+1≤9223372036854775807:=HLTi.out.2
      clear hO9 hN9 k9 hR9 hLB9 hlen9 hTG hRo hO8 hN8 k8 HRm HLm HRelm HTm HTS HTG
      by_cases hlt:k < Mg
      ·have hlt':(k:Int) < (Mg:Int):=by omega
       go_wp2_with (first | (refine Qq rfl 24 69 (.tmp 82) rfl #[.slice a9 gs.length c9] (.slice a9 gs.length c9) rfl rfl 1 _ Tryz.underlying24 24 inf69 rfl rfl (by decide) (by decide) ?_) | (refine Je HO.out 24 #[.slice a9 gs.length c9] rfl (by simp [Value.oneCell']) _ 24 Tryz.underlying24 inf69 rfl (by decide) HLL.out (by decide) rfl (.tmp 81) (.tmp 83) rfl rfl rfl ?_; intro g7 cap7 w7 HO7))
       obtain⟨nb6,a6,c6,ev6,hR6,hL6,_⟩:=OwnK.rds HO7 HND.out.1 HND.out.2
       exact⟨⟨i+1,f,none,al ++ [gs],xso ++ [(#[Value.slice a9 gs.length c9]:Array Value)],nb6,(nb9 ++ nbsm) ++ nbso,HLTi.out.1,rfl,rfl,by rw [List.append_assoc (nb9 ++ nbsm)]; exact hR6,hL6,Rels.snoc HRelo.out HREL.out,by show _=_; rw [List.length_append,List.length_singleton,HAo.out],HF2,HTS2⟩,by simp only [intOf]; have:=HLTi.out.1; omega⟩
      ·have hlt':¬ (k:Int) < (Mg:Int):=by omega
       go_wp2_with (first | (refine Qq rfl 24 69 (.tmp 82) rfl #[.slice a9 gs.length c9] (.slice a9 gs.length c9) rfl rfl 1 _ Tryz.underlying24 24 inf69 rfl rfl (by decide) (by decide) ?_) | (refine Je HO.out 24 #[.slice a9 gs.length c9] rfl (by simp [Value.oneCell']) _ 24 Tryz.underlying24 inf69 rfl (by decide) HLL.out (by decide) rfl (.tmp 81) (.tmp 83) rfl rfl rfl ?_; intro g7 cap7 w7 HO7))
       obtain⟨nb6,a6,c6,ev6,hR6,hL6,_⟩:=OwnK.rds HO7 HND.out.1 HND.out.2
       exact⟨⟨i+1,f,none,al ++ [gs],xso ++ [(#[Value.slice a9 gs.length c9]:Array Value)],nb6,(nb9 ++ nbsm) ++ nbso,HLTi.out.1,rfl,rfl,by rw [List.append_assoc (nb9 ++ nbsm)]; exact hR6,hL6,Rels.snoc HRelo.out HREL.out,by show _=_; rw [List.length_append,List.length_singleton,HAo.out],HF2,HTS2⟩,by simp only [intOf]; have:=HLTi.out.1; omega⟩
     | some pm =>
      by_cases hlt:k < Mg
      ·have hlt':(k:Int) < (Mg:Int):=by omega
       have HLTk:Hid (k < Mg∧(k:Int)+1≤9223372036854775807):=by have:=HMg.out; exact⟨hlt,by omega⟩
       have cb:=HRm.out.good
       have HTK:=zH (Ke hlt HTm.out)
       have hfb:0≤f∧f≤200000000:=by have h1:=HFm.out; have h2:=HFo2.out; have h3:=HMg.out; omega
       have cS:=Ka HRm.out f (by omega) HSZ.out
       have hnw:=Qk 4096 (by decide) s.data.toList (some pm)
       obtain⟨nw,enw⟩:∃ q,(numS 4096 s.data.toList (some pm)).1=q:=⟨_,rfl⟩
       obtain⟨stw,esw⟩:∃ q,(numS 4096 s.data.toList (some pm)).2=q:=⟨_,rfl⟩
       obtain⟨TW,eTW⟩:∃ r,gdS s.data.toList f (some pm)=r:=⟨_,rfl⟩
       rw [eTW] at HTK
       unfold gdS at eTW
       rw [enw,esw] at cS
       simp only [enw,esw] at eTW
       rw [enw] at hnw
       obtain⟨f1,ef1⟩:∃ q,f+nw=q:=⟨_,rfl⟩
       rw [ef1] at cS eTW
       have hf1:f≤f1∧f1≤f+4096:=by omega
       have HF1:Hid (f≤f1∧f1≤f+4096∧0≤f∧f≤200000000):=⟨hf1.1,hf1.2,hfb⟩
       have HC8:Hid (∀ v bs,RdS w v R s stw bs→Calls zG 46 #[zP R,.int .u64 8] v fun e V'=>e=.returned (zI (numS 8 s.data.toList stw).1)∧RdS w V' R s (numS 8 s.data.toList stw).2 bs):=fun v bs hv=>Q7 hv 8 (by decide) HSZ.out
       have hmr:=Qk 8 (by decide) s.data.toList stw
       obtain⟨mr,emr⟩:∃ q,(numS 8 s.data.toList stw).1=q:=⟨_,rfl⟩
       obtain⟨str,esr⟩:∃ q,(numS 8 s.data.toList stw).2=q:=⟨_,rfl⟩
       rw [emr,esr] at HC8 eTW
       rw [emr] at hmr
       obtain⟨Mr,eMr⟩:∃ M:Nat,mr=(M:Int):=⟨mr.toNat,by omega⟩
       subst eMr
       rw [Int.toNat_natCast] at eTW
       have HMr:Hid (Mr≤8):=by show _≤_; omega
       obtain⟨TR,eTR⟩:∃ r,Qm (rowS s.data.toList) Mr f1 str=r:=⟨_,rfl⟩
       rw [eTR] at eTW
       have HTW:=zH eTW.symm
       have HTR:Hid ((([]:List RowM) ++ (Qm (rowS s.data.toList) (Mr - 0) f1 str).1,(Qm (rowS s.data.toList) (Mr - 0) f1 str).2)=TR):=by
        show _=_
        rw [← eTR,Nat.sub_zero,List.nil_append]
       have cS:Calls zG 88 #[zP R,zI f] wr fun e V'=>e=.returned (.agg #[zI f,zI f1])∧RdS w V' R s stw (nbm ++ (nbsm ++ bO)):=cS
       clear hnw hmr eTW eTR emr esr enw esw ef1 hf1 hfb HTm
       go_wp2_with fail
       refine cS.mono ?_
       rintro e W3 ⟨rfl,hR3⟩
       have hz3:=Hn W3 (.cells zA4 68)
       have hR4:=hR3.new (Bn W3 (.cells zA4 68)) (Nat.le_refl _) hz3
       have HZ3:=zH hz3
       have HR4:Hid (RdS w ((W3.alloc (.cells zA4 68)).setRow W3§ (gV f f1 (.slice none 0 0))) R s stw ((W3§,68,gV f f1 (.slice none 0 0)) :: (nbm ++ (nbsm ++ bO)))):=hR4.row _
       clear cS hR3 hR4 hz3 cb HRm hlt'
       go_upto_region 13 with (refine wpList_store_row rfl 68 (.tmp 10) (.tmp 46) rfl W3§ (gV f f1 (.slice none 0 0)) rfl rfl 68 zA4 HZ3.out QD rfl gV_all ?_)
       generalize World.setRow _ _ _=W4 at HR4 ⊢
       generalize W3§=G at HR4 ⊢
       clear HZ3
       have x1:W4.cell? ⟨G,1,none⟩=some (zI f1):=Co (HR4.out.heap (List.mem_cons_self ..)) 1
       have c8:=HC8.out W4 _ HR4.out
       go_wp2_with fail
       refine c8.mono ?_
       rintro e W5 ⟨rfl,hR5⟩
       have HR5:=zH hR5
       clear c8 hR5 x1 HR4 HC8
       obtain⟨bM,ebM⟩:∃ q,nbm ++ (nbsm ++ bO)=q:=⟨_,rfl⟩
       have HbM:=zH ebM
       rw [ebM] at HR5
       clear ebM
       obtain⟨fg,efg⟩:∃ q,f=q:=⟨_,rfl⟩
       have HFG:Hid (f=fg):=efg
       have HR5:Hid (RdS w W5 R s str ((G,68,gV fg f1 (.slice none 0 0)) :: bM)):=by rw [← efg]; exact HR5.out
       clear efg
       go_wp2_with fail
       go_loopw [4,12] (fun fv t wr=>∃ (j:Nat) (f:Int) (st:Option Int) (rs:List RowM) (nb:List Bx) (v:Value),j≤Mr∧t=zI j∧fv=zI f∧Hid (RdS w wr R s st (nb ++ ((G,68,gV fg f1 v) :: bM)))∧Hid (Lst w nb 85 11 v (rs.map RowM.vals))∧Hid (rs.length=j)∧Hid (f1≤f∧f≤f1+16384 * j)∧Hid ((rs ++ (Qm (rowS s.data.toList) (Mr - j) f st).1,(Qm (rowS s.data.toList) (Mr - j) f st).2)=TR)) (fun _ t _=>Mr - (intOf t).toNat)
       case atStart=>exact⟨0,f1,str,[],[],.slice none 0 0,Nat.zero_le _,rfl,rfl,HR5,Lst.nil _ _ _,rfl,⟨Int.le_refl _,by omega⟩,HTR⟩
       case round =>
        obtain⟨j,fr,st,rs,nbr,v,hj,rfl,rfl,HRr,HLr,HAr,HFr,HTr⟩:=hrel
        cases st with
        | none =>
         have cb:=HRr.out.bad
         have hGm:((G,68,gV fg f1 v):Bx) ∈ nbr ++ ((G,68,gV fg f1 v) :: bM):=List.mem_append_right _ (List.mem_cons_self ..)
         have hG:=HRr.out.heap hGm
         obtain⟨p9,b9,hO9,hN9,k9⟩:=HRr.out.own HLr.out
         obtain⟨nb9,a9,c9,ev9,hR9,_,hLB9⟩:=hO9.rds hN9 k9
         rw [List.length_map] at ev9
         subst ev9
         have hTR:=Jt (.inl rfl) HTr.out
         have HG:=zH hG
         have HREL:Hid (RelGD ⟨⟨f,f1⟩,0,0,rs⟩ (gV fg f1 (.slice a9 rs.length c9)) nb9):=⟨a9,c9,by rw [← HFG.out]; rfl,hLB9⟩
         have hRo:RdS w wr R s none (nbm ++ (nb9 ++ (nbsm ++ bO))):=(hR9.perm List.perm_middle).less.perm (by
          rw [← HbM.out]
          exact List.perm_append_comm_assoc nb9 nbm (nbsm ++ bO))
         obtain⟨p8,b8,hO8,hN8,k8⟩:=hRo.own HLm.out
         have HO:=zH hO8
         have HND:Hid ((((R,102,rdV s p8 b8) :: (nb9 ++ (nbsm ++ bO)):List Bx).map (·.1)).Nodup∧(none=some p8∧b8=false∨(none:Option Int)=none∧b8=true)):=⟨hN8,k8⟩
         have HLL:Hid (xsm.length≤1000000):=by have h1:=HRelm.out.len; have h2:=HAm.out; have h3:=HMg.out; have h4:=HLTk.out.1; show _≤_; omega
         have HTS2:Hid (((gs ++ [⟨⟨f,f1⟩,0,0,rs⟩]) ++ (Qm (gdS s.data.toList) (Mg - (k+1)) fr none).1,(Qm (gdS s.data.toList) (Mg - (k+1)) fr none).2)=TG):=by
          have:=HTK.out
          rw [HTW.out,hTR] at this
          exact this
         have HF2:Hid (fo≤fr∧fr≤fo+140000 * ((k+1:Nat):Int)):=by have h1:=HFr.out; have h2:=HFm.out; have h3:=HF1.out; have h4:=HMr.out; show _∧_; omega
         have hmxk:(k:Int)+1≤9223372036854775807:=HLTk.out.2
         clear hO9 hN9 k9 hR9 hLB9 hTR hRo hO8 hN8 k8 HRr HLr HTr HTK HTR hG hGm
         by_cases hlt:j < Mr
         ·have hlt':(j:Int) < (Mr:Int):=by omega
          go_wp2_with (first | (refine wpList_load_row rfl 68 (.tmp 10) rfl G rfl 68 (gV fg f1 (.slice a9 rs.length c9)) (0,0) _ HG.out Tryz.underlying68 rfl QD ?_) | (refine QO rfl 69 68 (.tmp 78) rfl (gV fg f1 (.slice a9 rs.length c9)) rfl 5 _ Tryz.underlying69 48 inf68 rfl rfl (by decide) (by decide) ?_) | (refine Je HO.out 69 (gV fg f1 (.slice a9 rs.length c9)) rfl gV_all _ 48 Tryz.underlying69 inf68 rfl (by decide) HLL.out (by decide) rfl (.tmp 77) (.tmp 79) rfl rfl rfl ?_; intro g7 cap7 w7 HO7))
          obtain⟨nb6,a6,c6,ev6,hR6,hL6,_⟩:=OwnK.rds HO7 HND.out.1 HND.out.2
          exact⟨⟨k+1,fr,none,gs ++ [⟨⟨f,f1⟩,0,0,rs⟩],xsm ++ [gV fg f1 (.slice a9 rs.length c9)],nb6,nb9 ++ nbsm,HLTk.out.1,rfl,rfl,by rw [List.append_assoc nb9]; exact hR6,hL6,Rels.snoc HRelm.out HREL.out,by show _=_; rw [List.length_append,List.length_singleton,HAm.out],HF2,HTS2⟩,by simp only [intOf]; have:=HLTk.out.1; omega⟩
         ·have hlt':¬ (j:Int) < (Mr:Int):=by omega
          go_wp2_with (first | (refine wpList_load_row rfl 68 (.tmp 10) rfl G rfl 68 (gV fg f1 (.slice a9 rs.length c9)) (0,0) _ HG.out Tryz.underlying68 rfl QD ?_) | (refine QO rfl 69 68 (.tmp 78) rfl (gV fg f1 (.slice a9 rs.length c9)) rfl 5 _ Tryz.underlying69 48 inf68 rfl rfl (by decide) (by decide) ?_) | (refine Je HO.out 69 (gV fg f1 (.slice a9 rs.length c9)) rfl gV_all _ 48 Tryz.underlying69 inf68 rfl (by decide) HLL.out (by decide) rfl (.tmp 77) (.tmp 79) rfl rfl rfl ?_; intro g7 cap7 w7 HO7))
          obtain⟨nb6,a6,c6,ev6,hR6,hL6,_⟩:=OwnK.rds HO7 HND.out.1 HND.out.2
          exact⟨⟨k+1,fr,none,gs ++ [⟨⟨f,f1⟩,0,0,rs⟩],xsm ++ [gV fg f1 (.slice a9 rs.length c9)],nb6,nb9 ++ nbsm,HLTk.out.1,rfl,rfl,by rw [List.append_assoc nb9]; exact hR6,hL6,Rels.snoc HRelm.out HREL.out,by show _=_; rw [List.length_append,List.length_singleton,HAm.out],HF2,HTS2⟩,by simp only [intOf]; have:=HLTk.out.1; omega⟩
        | some pr =>
         by_cases hlt:j < Mr
         ·have hlt':(j:Int) < (Mr:Int):=by omega
          have hmxj:(j:Int)+1≤9223372036854775807:=by have:=HMr.out; omega
          have cb:=HRr.out.good
          have HTJ:=zH (Ke hlt HTr.out)
          have hfb:0≤fr∧fr≤900000000000:=by have h1:=HFr.out; have h2:=HF1.out; have h3:=HMr.out; omega
          have cR:=rrowS HRr.out fr hfb HSZ.out
          have hrb:=rowS_bd s.data.toList fr (some pr)
          obtain⟨TJ,eTJ⟩:∃ r,rowS s.data.toList fr (some pr)=r:=⟨_,rfl⟩
          rw [eTJ] at HTJ cR hrb
          obtain⟨r,f2,st2⟩:=TJ
          simp only at HTJ hrb
          have HF2:Hid (f1≤f2∧f2≤f1+16384 * ((j+1:Nat):Int)):=by have h1:=HFr.out; show _∧_; omega
          clear eTJ HTr hfb hrb
          go_wp2_with fail
          refine cR.mono ?_
          rintro e W6 ⟨rfl,hR6⟩
          have hz6:=Hn W6 (.cells zA1 85)
          have hR7:=hR6.new (Bn W6 (.cells zA1 85)) (Nat.le_refl _) hz6
          have HZ6:=zH hz6
          have HR7:Hid (RdS w ((W6.alloc (.cells zA1 85)).setRow W6§ r.vals) R s st2 ((W6§,85,r.vals) :: (nbr ++ ((G,68,gV fg f1 v) :: bM)))):=hR7.row _
          clear cR hR6 hR7 hz6 cb HRr hlt'
          go_upto_region 19 with (refine wpList_store_row rfl 85 (.tmp 13) (.tmp 68) rfl W6§ r.vals rfl rfl 85 zA1 HZ6.out Qi rfl (QQ r) ?_)
          generalize World.setRow _ _ _=W7 at HR7 ⊢
          generalize W6§=X at HR7 ⊢
          clear HZ6
          have HX7:=zH (HR7.out.heap (List.mem_cons_self ..))
          have hR8:=HR7.out.less
          have hG7:=hR8.heap (x:=(G,68,gV fg f1 v)) (List.mem_append_right _ (List.mem_cons_self ..))
          have x4:W7.cell? ⟨G,4,none⟩=some v:=Co hG7 4
          obtain⟨p8,b8,hO8,hN8,k8⟩:=hR8.own HLr.out
          have HO:=zH hO8
          have HND:Hid ((((R,102,rdV s p8 b8) :: ((G,68,gV fg f1 v) :: bM):List Bx).map (·.1)).Nodup∧(st2=some p8∧b8=false∨st2=none∧b8=true)):=⟨hN8,k8⟩
          have HLL:Hid ((rs.map RowM.vals).length≤1000000):=by have h1:=HAr.out; have h2:=HMr.out; show _≤_; rw [List.length_map]; omega
          obtain⟨av,cv,ev,_⟩:=hO8.sl
          rw [List.length_map] at ev
          subst ev
          clear hR8 hG7 hO8 hN8 k8 HR7
          go_wp2_with (first | (refine wpList_load_row rfl 85 (.tmp 13) rfl X rfl 85 r.vals (0,0) _ HX7.out Tryz.underlying85 rfl Qi ?_) | (refine QO rfl 66 85 (.tmp 73) rfl r.vals rfl 11 _ Tryz.underlying66 80 inf85 rfl rfl (by decide) (by decide) ?_) | (refine Je HO.out 66 r.vals rfl (QQ r) _ 80 Tryz.underlying66 inf85 rfl (by decide) HLL.out (by decide) rfl (.tmp 72) (.tmp 74) rfl rfl rfl ?_; intro g7 cap7 w7 HO7; have xg:w7.cell? ⟨G,4,none⟩=some (.slice av rs.length cv):=Co (HO7.less.box) 4; have yg:w7.frozen? ⟨G,4,none⟩=false:=Fo (HO7.less.box) 4))
          obtain⟨nb6,a6,c6,ev6,hR6,hL6,_⟩:=OwnK.rds HO7 HND.out.1 HND.out.2
          rw [List.length_map] at hL6
          have hR9:=((hR6.perm List.perm_middle).set 4 (.slice (some ⟨g7,0,none⟩) (rs.length+1) cap7)).perm (List.perm_middle.symm)
          exact⟨⟨j+1,f2,st2,rs ++ [r],nb6,.slice (some ⟨g7,0,none⟩) (rs.length+1) cap7,hlt,rfl,rfl,hR9,by rw [List.map_append]; exact hL6,by show _=_; rw [List.length_append,List.length_singleton,HAr.out],HF2,HTJ⟩,by simp only [intOf]; omega⟩
         ·have hlt':¬ (j:Int) < (Mr:Int):=by omega
          have cb:=HRr.out.good
          have hGm:((G,68,gV fg f1 v):Bx) ∈ nbr ++ ((G,68,gV fg f1 v) :: bM):=List.mem_append_right _ (List.mem_cons_self ..)
          have hG:=HRr.out.heap hGm
          obtain⟨p9,b9,hO9,hN9,k9⟩:=HRr.out.own HLr.out
          obtain⟨nb9,a9,c9,ev9,hR9,_,hLB9⟩:=hO9.rds hN9 k9
          rw [List.length_map] at ev9
          subst ev9
          have hTR:=Jt (.inr (by omega)) HTr.out
          have HG:=zH hG
          have HREL:Hid (RelGD ⟨⟨f,f1⟩,0,0,rs⟩ (gV fg f1 (.slice a9 rs.length c9)) nb9):=⟨a9,c9,by rw [← HFG.out]; rfl,hLB9⟩
          have hRo:RdS w wr R s (some pr) (nbm ++ (nb9 ++ (nbsm ++ bO))):=(hR9.perm List.perm_middle).less.perm (by
           rw [← HbM.out]
           exact List.perm_append_comm_assoc nb9 nbm (nbsm ++ bO))
          obtain⟨p8,b8,hO8,hN8,k8⟩:=hRo.own HLm.out
          have HO:=zH hO8
          have HND:Hid ((((R,102,rdV s p8 b8) :: (nb9 ++ (nbsm ++ bO)):List Bx).map (·.1)).Nodup∧((some pr)=some p8∧b8=false∨((some pr):Option Int)=none∧b8=true)):=⟨hN8,k8⟩
          have HLL:Hid (xsm.length≤1000000):=by have h1:=HRelm.out.len; have h2:=HAm.out; have h3:=HMg.out; have h4:=HLTk.out.1; show _≤_; omega
          have HTS2:Hid (((gs ++ [⟨⟨f,f1⟩,0,0,rs⟩]) ++ (Qm (gdS s.data.toList) (Mg - (k+1)) fr (some pr)).1,(Qm (gdS s.data.toList) (Mg - (k+1)) fr (some pr)).2)=TG):=by
           have:=HTK.out
           rw [HTW.out,hTR] at this
           exact this
          have HF2:Hid (fo≤fr∧fr≤fo+140000 * ((k+1:Nat):Int)):=by have h1:=HFr.out; have h2:=HFm.out; have h3:=HF1.out; have h4:=HMr.out; show _∧_; omega
          have hmxk:(k:Int)+1≤9223372036854775807:=HLTk.out.2
          clear hO9 hN9 k9 hR9 hLB9 hTR hRo hO8 hN8 k8 HRr HLr HTr HTK HTR hG hGm
          go_wp2_with (first | (refine wpList_load_row rfl 68 (.tmp 10) rfl G rfl 68 (gV fg f1 (.slice a9 rs.length c9)) (0,0) _ HG.out Tryz.underlying68 rfl QD ?_) | (refine QO rfl 69 68 (.tmp 78) rfl (gV fg f1 (.slice a9 rs.length c9)) rfl 5 _ Tryz.underlying69 48 inf68 rfl rfl (by decide) (by decide) ?_) | (refine Je HO.out 69 (gV fg f1 (.slice a9 rs.length c9)) rfl gV_all _ 48 Tryz.underlying69 inf68 rfl (by decide) HLL.out (by decide) rfl (.tmp 77) (.tmp 79) rfl rfl rfl ?_; intro g7 cap7 w7 HO7))
          obtain⟨nb6,a6,c6,ev6,hR6,hL6,_⟩:=OwnK.rds HO7 HND.out.1 HND.out.2
          exact⟨⟨k+1,fr,(some pr),gs ++ [⟨⟨f,f1⟩,0,0,rs⟩],xsm ++ [gV fg f1 (.slice a9 rs.length c9)],nb6,nb9 ++ nbsm,HLTk.out.1,rfl,rfl,by rw [List.append_assoc nb9]; exact hR6,hL6,Rels.snoc HRelm.out HREL.out,by show _=_; rw [List.length_append,List.length_singleton,HAm.out],HF2,HTS2⟩,by simp only [intOf]; have:=HLTk.out.1; omega⟩
      ·have hlt':¬ (k:Int) < (Mg:Int):=by omega
       have cb:=HRm.out.good
       obtain⟨p9,b9,hO9,hN9,k9⟩:=HRm.out.own HLm.out
       obtain⟨nb9,a9,c9,ev9,hR9,_,hLB9⟩:=hO9.rds hN9 k9
       have hlen9:=HRelm.out.len
       rw [← hlen9] at ev9
       subst ev9
       have hTG:=Jt (.inr (by omega)) HTm.out
       have HREL:Hid (JC gs #[.slice a9 gs.length c9] (nb9 ++ nbsm)):=⟨a9,c9,xsm,nb9,nbsm,rfl,rfl,HRelm.out,hLB9⟩
       have hRo:RdS w wr R s (some pm) (nbo ++ ((nb9 ++ nbsm) ++ (nbso ++ bs))):=hR9.perm (by
        rw [← HbO.out]
        rw [← List.append_assoc nb9]
        exact (List.perm_append_comm_assoc (nb9 ++ nbsm) nbo (nbso ++ bs)))
       obtain⟨p8,b8,hO8,hN8,k8⟩:=hRo.own HLo.out
       have HO:=zH hO8
       have HND:Hid ((((R,102,rdV s p8 b8) :: ((nb9 ++ nbsm) ++ (nbso ++ bs)):List Bx).map (·.1)).Nodup∧((some pm)=some p8∧b8=false∨((some pm):Option Int)=none∧b8=true)):=⟨hN8,k8⟩
       have HLL:Hid (xso.length≤1000000):=by have h1:=HRelo.out.len; have h2:=HAo.out; have h3:=HMs.out; have h4:=HLTi.out.1; show _≤_; omega
       have HTS2:Hid (((al ++ [gs]) ++ (Qm (stS s.data.toList) (Ms - (i+1)) f (some pm)).1,(Qm (stS s.data.toList) (Ms - (i+1)) f (some pm)).2)=T):=by
        have:=HTS.out
        rw [hTG] at this
        exact this
       have HF2:Hid (0≤f∧f≤1680000 * ((i+1:Nat):Int)):=by have h1:=HFm.out; have h2:=HFo.out; have h3:=HMg.out; show _∧_; omega
       have hmxi:(i:Int)+1≤9223372036854775807:=HLTi.out.2
       clear hO9 hN9 k9 hR9 hLB9 hlen9 hTG hRo hO8 hN8 k8 HRm HLm HRelm HTm HTS HTG
       go_wp2_with (first | (refine Qq rfl 24 69 (.tmp 82) rfl #[.slice a9 gs.length c9] (.slice a9 gs.length c9) rfl rfl 1 _ Tryz.underlying24 24 inf69 rfl rfl (by decide) (by decide) ?_) | (refine Je HO.out 24 #[.slice a9 gs.length c9] rfl (by simp [Value.oneCell']) _ 24 Tryz.underlying24 inf69 rfl (by decide) HLL.out (by decide) rfl (.tmp 81) (.tmp 83) rfl rfl rfl ?_; intro g7 cap7 w7 HO7))
       obtain⟨nb6,a6,c6,ev6,hR6,hL6,_⟩:=OwnK.rds HO7 HND.out.1 HND.out.2
       exact⟨⟨i+1,f,(some pm),al ++ [gs],xso ++ [(#[Value.slice a9 gs.length c9]:Array Value)],nb6,(nb9 ++ nbsm) ++ nbso,HLTi.out.1,rfl,rfl,by rw [List.append_assoc (nb9 ++ nbsm)]; exact hR6,hL6,Rels.snoc HRelo.out HREL.out,by show _=_; rw [List.length_append,List.length_singleton,HAo.out],HF2,HTS2⟩,by simp only [intOf]; have:=HLTi.out.1; omega⟩
   ·have hlt':¬ (i:Int) < (Ms:Int):=by omega
    obtain⟨a2,c2,ev,hout⟩:=outer_end.out (.inr (by omega))
    have HOUT:=zH hout
    have cb:=HRo.out.good
    clear outer_end hout HTo HRelo HLo HAo HFo
    subst ev
    go_wp2_with fail
    go_ret
    exact HOUT.out
theorem rspan_any' (t:TbM) (f b:Nat) (w:World) (hl:TbL w t) (hfb:f < b) (hb:b≤t.ds.length) (hm:t.ds.length≤4096):Calls zG 29 #[.agg t.vals,.agg (Sp.vals ⟨f,b⟩)] w fun e w'=>e=.returned (zI (QE t (fun _=>0) f b).1)∧Below w§ w w':=by
 obtain⟨T,eT⟩:∃ T:Int,(b:Int)=T:=⟨_,rfl⟩
 have cF:∀ v:World,TbL v t→QB t b (b - f) f=true→Calls zG 69 #[.agg t.vals,.agg (Sp.vals ⟨f,T⟩)] v fun e w'=>e=.returned (.bool (QH t.ds (b - f) f (upd (fun _=>0) f 1)).1)∧Below v§ v w':=fun v hv hs=>by
  rw [← eT]; exact rfit_any t f b v hv hfb hb hm hs
 have cS:∀ (v:World) (a:Nat),TbL v t→a < t.ds.length→Calls zG 68 #[.agg t.vals,zI a,zI T] v fun e w'=>e=.returned (.bool (Qg t (t.ds.getD a ⟨0,0⟩) a b))∧Below v§ v w':=fun v a hv ha=>by
  rw [← eT]; exact rstands_any t a b v hv ha hm
 rw [eT]
 obtain⟨W2,e2⟩:∃ W,(w.alloc (.cells t.vals 26)).alloc (.cells (Sp.vals ⟨f,T⟩) 65)=W:=⟨_,rfl⟩
 have E2:=zH e2
 obtain⟨hn1,hn2,hb2,hs2⟩:=J9 e2
 have HB2:=zH hb2
 have HN1:=zH hn1
 have HN2:=zH hn2
 clear e2
 obtain⟨n,en⟩:∃ n,b - f=n:=⟨_,rfl⟩
 have hbn:b=f+n:=by omega
 obtain⟨ANS,eA⟩:∃ q,(QE t (fun _=>0) f b).1=q:=⟨_,rfl⟩
 have HA:Hid ((if QB t b n f then (if (QH t.ds n f (upd (fun _=>0) f 1)).1 then 0 else 192) else 191)=ANS):=by
  show _=_
  rw [← eA,← en]
  unfold QE
  split
  ·split <;> rfl
  ·rfl
 rw [eA]
 rw [en] at cF
 have HCF:=QY cF
 have HCS:=QY cS
 have HTT:Hid (T=(f:Int)+(n:Int)):=by show _=_; omega
 have HDS:Hid (b=f+n∧f+n≤t.ds.length∧t.ds.length≤4096):=⟨hbn,by omega,hm⟩
 have HL:Hid (TbL W2 t):=hl.on hb2
 have x0:W2.cell? ⟨w§+1,0,none⟩=some (zI f):=Co hn2 0
 have hf9:f≤4096:=by omega
 have hn9:n≤4096:=by omega
 clear eA hn1 hn2 hb2 hs2 hl en cF cS hfb hb hm eT hbn
 go_enter Tryz.func29,Tryz.ntmps29
 go_upto_region 1 with fail
 rw [E2.out]
 clear E2
 obtain⟨XB,eXB⟩:∃ x,w§+1=x:=⟨_,rfl⟩
 rw [eXB] at HN2 x0 ⊢
 clear eXB
 go_wp2_with fail
 clear x0
 go_loopw [5] (fun q wr=>∃ (k:Nat),k≤n∧q=zI ((f:Int)+(k:Int))∧Hid (Below W2§ W2 wr)∧Hid (QB t b n f=QB t b (n - k) (f+k))) (fun q _=>((f:Int)+(n:Int) - intOf q).toNat)
 case atStart=>exact⟨0,by omega,by simp,Below.refl _ _,rfl⟩
 case round =>
  obtain⟨k,hk,rfl,HBR,HSR⟩:=hrel
  have x1:wr.cell? ⟨XB,1,none⟩=some (zI T):=Qf (Co HN2.out 1) HBR.out
  have HTB:Hid (wr.heap[w§]? = some (.cells t.vals 26 (0,0))):=(HBR.out.block _ (Qy HN1.out)).trans HN1.out
  have HXX:Hid (wr.heap[XB]? = some (.cells (Sp.vals ⟨f,T⟩) 65 (0,0))):=(HBR.out.block _ (Qy HN2.out)).trans HN2.out
  have hTT:=HTT.out
  by_cases hlt:k < n
  ·have hlt':(f:Int)+(k:Int) < T:=by omega
   have hmx:(f:Int)+(k:Int)+1≤9223372036854775807:=by omega
   clear hTT
   have cS:=HCS.out wr (f+k) (HL.out.on HBR.out) (by have:=HDS.out; omega)
   rw [show ((f+k:Nat):Int)=(f:Int)+(k:Int) by omega] at cS
   have hF:=HSR.out
   rw [show n - k=(n - (k+1))+1 by omega] at hF
   simp only [QB] at hF
   rw [show ((f+k:Nat):Int)=(f:Int)+(k:Int) by omega] at hF
   obtain⟨sb,esb⟩:∃ s,Qg t (t.ds.getD (f+k) ⟨0,0⟩) ((f:Int)+(k:Int)) b=s:=⟨_,rfl⟩
   rw [esb] at hF cS
   have HF:=QY hF
   clear hF esb
   go_wp2_with (refine wpList_load_row rfl 26 (.tmp 2) rfl w§ rfl 26 t.vals (0,0) _ HTB.out Tryz.underlying26 rfl Qe ?_)
   refine cS.mono ?_
   rintro e w5 ⟨rfl,hb5⟩
   have HB5:=zH (Qa HBR.out hb5)
   clear cS hb5
   cases sb with
   | false =>
    have HN:Hid (ANS=191):=by show _=_; rw [← HA.out,HF.out]; rfl
    go_wp2_with fail
    go_ret
    exact⟨by rw [HN.out]; rfl,Qa HB2.out HB5.out⟩
   | true =>
    have HN:Hid (QB t b n f=QB t b (n - (k+1)) (f+(k+1))):=by show _=_; rw [HF.out]; rfl
    go_wp2_with fail
    exact⟨⟨k+1,hlt,by congr 1,HB5,HN⟩,by simp only [intOf]; omega⟩
  ·obtain rfl:k=n:=by omega
   have hlt':¬ ((f:Int)+(k:Int) < T):=by omega
   clear hTT
   have hst:QB t b k f=true:=by rw [HSR.out,Nat.sub_self]; rfl
   have cF:=HCF.out wr (HL.out.on HBR.out) hst
   have HAA:Hid ((if (QH t.ds k f (upd (fun _=>0) f 1)).1 then 0 else 192)=ANS):=by show _=_; rw [← HA.out,hst]; rfl
   obtain⟨fb,efb⟩:∃ s,(QH t.ds k f (upd (fun _=>0) f 1)).1=s:=⟨_,rfl⟩
   rw [efb] at cF HAA
   clear efb hst
   go_wp2_with (first | (refine wpList_load_row rfl 26 (.tmp 2) rfl w§ rfl 26 t.vals (0,0) _ HTB.out Tryz.underlying26 rfl Qe ?_) | (refine wpList_load_row rfl 65 (.tmp 3) rfl XB rfl 65 (Sp.vals ⟨f,T⟩) (0,0) _ HXX.out Tryz.underlying65 rfl Qt ?_))
   refine cF.mono ?_
   rintro e w5 ⟨rfl,hb5⟩
   have HB5:=zH (Qa HBR.out hb5)
   clear cF hb5
   cases fb with
   | false =>
    have HN:Hid (ANS=192):=HAA.out.symm
    go_wp2_with fail
    go_ret
    exact⟨by rw [HN.out]; rfl,Qa HB2.out HB5.out⟩
   | true =>
    have HN:Hid (ANS=0):=HAA.out.symm
    go_wp2_with fail
    go_ret
    exact⟨by rw [HN.out]; rfl,Qa HB2.out HB5.out⟩
theorem rreads_any (t:TbM) (F:Nat) (T:Int) (w:World) (hl:TbL w t) (hT:T≤t.ds.length):Calls zG 30 #[.slice t.da t.ds.length t.dc,.agg (Sp.vals ⟨F,T⟩)] w fun e w'=>e=.returned (.tuple #[.int .u16 (rdL t.ds (T.toNat - F) F (0,0)).1,.int .u16 (rdL t.ds (T.toNat - F) F (0,0)).2])∧Below w§ w w':=by
 have hb1:=Bn w (.cells (Sp.vals ⟨F,T⟩) 65)
 have hn1:=Hn w (.cells (Sp.vals ⟨F,T⟩) 65)
 obtain⟨W1,e1⟩:∃ W,w.alloc (.cells (Sp.vals ⟨F,T⟩) 65)=W:=⟨_,rfl⟩
 have E1:=zH e1
 rw [e1] at hb1 hn1
 have HB1:=zH hb1
 have HL:Hid (TbL W1 t):=hl.on hb1
 obtain⟨x0,x1⟩:=cl2 hn1
 obtain⟨R,eR⟩:∃ q,rdL t.ds (T.toNat - F) F (0,0)=q:=⟨_,rfl⟩
 have HR:=zH eR.symm
 rw [eR]
 have hdl:t.ds.length≤9223372036854775807:=by have h1:=hl.D.1; have h2:=hl.D.2.1; rw [List.length_map] at h1; omega
 have HTL:Hid (T≤t.ds.length):=hT
 clear hb1 hn1 e1 eR hl hT
 go_enter Tryz.func30,Tryz.ntmps30
 go_upto_region 1 with fail
 rw [E1.out]
 clear E1
 go_wp2_with fail
 clear x0
 go_loopw [6,7,8] (fun p q s wr=>∃ (a:Nat) (fm rm:Int),p=.int .u16 fm∧q=.int .u16 rm∧s=zI a∧wr=W1∧Hid (R=rdL t.ds (T.toNat - a) a (fm,rm))) (fun _ _ s _=>(T - intOf s).toNat)
 case atStart=>exact⟨F,0,0,rfl,rfl,rfl,rfl,HR⟩
 case round =>
  obtain⟨a,fm,rm,rfl,rfl,rfl,rfl,HRR⟩:=hrel
  by_cases hlt:(a:Int) < T
  ·have hTT:=HTL.out
   have hal:a < t.ds.length:=by omega
   have hal':(a:Int) < (t.ds.length:Int):=by omega
   have hai:(a:Int)+1≤9223372036854775807:=by omega
   obtain⟨bb,o,ea,r1⟩:=QP InM.sz HL.out.D a hal
   have hR:=HRR.out
   rw [show T.toNat - a=(T.toNat - (a+1))+1 by omega] at hR
   simp only [rdL] at hR
   have hgd:t.ds.getD a ⟨0,0⟩=t.ds[a]:=by rw [List.getD_eq_getElem?_getD,List.getElem?_eq_getElem hal]; rfl
   rw [hgd] at hR
   obtain⟨d,ed⟩:∃ d,t.ds[a]=d:=⟨_,rfl⟩
   rw [ed] at hR r1
   have k0:wr.cell? ⟨bb,o+a * 2,none⟩=some (zU d.k):=by have:=r1 0 _ rfl; rw [Nat.add_zero] at this; exact this
   have k1:wr.cell? ⟨bb,o+a * 2+1,none⟩=some (zI d.a):=r1 1 _ rfl
   have HD:=QY hR
   clear hR ed hgd r1 hTT HRR
   rw [ea]
   cases h2:(d.k == 2) with
   | true =>
    cases h0:decide (d.a ≥ 0) with
    | false =>
     have g0:decide (d.a < 0)=true:=decide_eq_true (by have:=of_decide_eq_false h0; omega)
     have HX:Hid (R=rdL t.ds (T.toNat - (a+1)) (a+1) (fm,rm)):=by show _=_; rw [HD.out]; unfold rd1; simp only [g0,reduceIte,Bool.false_eq_true,if_false,if_true]
     go_wp2_with fail
     exact⟨⟨a+1,fm,rm,by first | (unfold orM; rfl) | rfl | trivial,by first | (unfold orM; rfl) | rfl | trivial,by congr 1,by first | rfl | trivial,HX⟩,by simp only [intOf]; omega⟩
    | true =>
     have g0:decide (d.a < 0)=false:=decide_eq_false (by have:=of_decide_eq_true h0; omega)
     cases h16:decide (d.a < 16) with
     | false =>
      have g1:decide (d.a ≥ 16)=true:=decide_eq_true (by have:=of_decide_eq_false h16; omega)
      have HX:Hid (R=rdL t.ds (T.toNat - (a+1)) (a+1) (fm,rm)):=by show _=_; rw [HD.out]; unfold rd1; simp only [g0,g1,reduceIte,Bool.false_eq_true,if_false,if_true]
      go_wp2_with fail
      exact⟨⟨a+1,fm,rm,by first | (unfold orM; rfl) | rfl | trivial,by first | (unfold orM; rfl) | rfl | trivial,by congr 1,by first | rfl | trivial,HX⟩,by simp only [intOf]; omega⟩
     | true =>
      have g1:decide (d.a ≥ 16)=false:=decide_eq_false (by have:=of_decide_eq_true h16; omega)
      have ha0:0≤d.a:=of_decide_eq_true h0
      have ha16:d.a < 16:=of_decide_eq_true h16
      have HX:Hid (R=rdL t.ds (T.toNat - (a+1)) (a+1) ((orM fm d.a),rm)):=by show _=_; rw [HD.out]; unfold rd1; simp only [g0,g1,h2,reduceIte,Bool.false_eq_true,if_false,if_true]
      go_wp2_with fail
      exact⟨⟨a+1,(orM fm d.a),rm,by first | (unfold orM; rfl) | rfl | trivial,by first | (unfold orM; rfl) | rfl | trivial,by congr 1,by first | rfl | trivial,HX⟩,by simp only [intOf]; omega⟩
   | false =>
    cases h3:(d.k == 3) with
    | true =>
     cases h0:decide (d.a ≥ 0) with
     | false =>
      have g0:decide (d.a < 0)=true:=decide_eq_true (by have:=of_decide_eq_false h0; omega)
      have HX:Hid (R=rdL t.ds (T.toNat - (a+1)) (a+1) (fm,rm)):=by show _=_; rw [HD.out]; unfold rd1; simp only [g0,reduceIte,Bool.false_eq_true,if_false,if_true]
      go_wp2_with fail
      exact⟨⟨a+1,fm,rm,by first | (unfold orM; rfl) | rfl | trivial,by first | (unfold orM; rfl) | rfl | trivial,by congr 1,by first | rfl | trivial,HX⟩,by simp only [intOf]; omega⟩
     | true =>
      have g0:decide (d.a < 0)=false:=decide_eq_false (by have:=of_decide_eq_true h0; omega)
      cases h16:decide (d.a < 16) with
      | false =>
       have g1:decide (d.a ≥ 16)=true:=decide_eq_true (by have:=of_decide_eq_false h16; omega)
       have HX:Hid (R=rdL t.ds (T.toNat - (a+1)) (a+1) (fm,rm)):=by show _=_; rw [HD.out]; unfold rd1; simp only [g0,g1,reduceIte,Bool.false_eq_true,if_false,if_true]
       go_wp2_with fail
       exact⟨⟨a+1,fm,rm,by first | (unfold orM; rfl) | rfl | trivial,by first | (unfold orM; rfl) | rfl | trivial,by congr 1,by first | rfl | trivial,HX⟩,by simp only [intOf]; omega⟩
      | true =>
       have g1:decide (d.a ≥ 16)=false:=decide_eq_false (by have:=of_decide_eq_true h16; omega)
       have ha0:0≤d.a:=of_decide_eq_true h0
       have ha16:d.a < 16:=of_decide_eq_true h16
       have HX:Hid (R=rdL t.ds (T.toNat - (a+1)) (a+1) ((orM fm d.a),rm)):=by show _=_; rw [HD.out]; unfold rd1; simp only [g0,g1,h2,h3,reduceIte,Bool.false_eq_true,if_false,if_true]
       go_wp2_with fail
       exact⟨⟨a+1,(orM fm d.a),rm,by first | (unfold orM; rfl) | rfl | trivial,by first | (unfold orM; rfl) | rfl | trivial,by congr 1,by first | rfl | trivial,HX⟩,by simp only [intOf]; omega⟩
    | false =>
     cases h4:(d.k == 4) with
     | true =>
      cases h0:decide (d.a ≥ 0) with
      | false =>
       have g0:decide (d.a < 0)=true:=decide_eq_true (by have:=of_decide_eq_false h0; omega)
       have HX:Hid (R=rdL t.ds (T.toNat - (a+1)) (a+1) (fm,rm)):=by show _=_; rw [HD.out]; unfold rd1; simp only [g0,reduceIte,Bool.false_eq_true,if_false,if_true]
       go_wp2_with fail
       exact⟨⟨a+1,fm,rm,by first | (unfold orM; rfl) | rfl | trivial,by first | (unfold orM; rfl) | rfl | trivial,by congr 1,by first | rfl | trivial,HX⟩,by simp only [intOf]; omega⟩
      | true =>
       have g0:decide (d.a < 0)=false:=decide_eq_false (by have:=of_decide_eq_true h0; omega)
       cases h16:decide (d.a < 16) with
       | false =>
        have g1:decide (d.a ≥ 16)=true:=decide_eq_true (by have:=of_decide_eq_false h16; omega)
        have HX:Hid (R=rdL t.ds (T.toNat - (a+1)) (a+1) (fm,rm)):=by show _=_; rw [HD.out]; unfold rd1; simp only [g0,g1,reduceIte,Bool.false_eq_true,if_false,if_true]
        go_wp2_with fail
        exact⟨⟨a+1,fm,rm,by first | (unfold orM; rfl) | rfl | trivial,by first | (unfold orM; rfl) | rfl | trivial,by congr 1,by first | rfl | trivial,HX⟩,by simp only [intOf]; omega⟩
       | true =>
        have g1:decide (d.a ≥ 16)=false:=decide_eq_false (by have:=of_decide_eq_true h16; omega)
        have ha0:0≤d.a:=of_decide_eq_true h0
        have ha16:d.a < 16:=of_decide_eq_true h16
        have HX:Hid (R=rdL t.ds (T.toNat - (a+1)) (a+1) (fm,(orM rm d.a))):=by show _=_; rw [HD.out]; unfold rd1; simp only [g0,g1,h2,h3,h4,reduceIte,Bool.false_eq_true,if_false,if_true]
        go_wp2_with fail
        exact⟨⟨a+1,fm,(orM rm d.a),by first | (unfold orM; rfl) | rfl | trivial,by first | (unfold orM; rfl) | rfl | trivial,by congr 1,by first | rfl | trivial,HX⟩,by simp only [intOf]; omega⟩
     | false =>
      have HX:Hid (R=rdL t.ds (T.toNat - (a+1)) (a+1) (fm,rm)):=by show _=_; rw [HD.out]; unfold rd1; simp [h2,h3,h4]
      go_wp2_with fail
      exact⟨⟨a+1,fm,rm,rfl,rfl,by congr 1,by first | rfl | trivial,HX⟩,by simp only [intOf]; omega⟩
  ·have HX:Hid (R=(fm,rm)):=by show _=_; rw [HRR.out,show T.toNat - a=0 by omega]; rfl
   go_wp2_with fail
   go_ret2
   exact⟨by rw [HX.out]; rfl,HB1.out⟩
end Go.Proofs.YteedmmljahgpjaaGreatDoor
