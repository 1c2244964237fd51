import Derived.Test.YtoogodlnnijikaaGreatDoorA0
import Derived.Test.YtoogodlnnijikaaGreatDoorA1
import Derived.RangeFuncNested
import Derived.RangeFuncBound
import Derived.RangeFuncCalls
import Derived.RangeFuncLeaves
import Derived.Shelf.Abstract
import Derived.Shelf.RegionOpen
import Derived.OwnWalkIn
import Derived.TacticsInMore
import Derived.LoopNIn
import Derived.LoopIn
import Derived.Laws.EntriesVeiled
import Derived.Deep.RegionHeld3
import Derived.Deep.AppendLies
import Derived.Deep.RegionLaw
import Derived.Defers
import Derived.Recover
import Derived.Laws.Pointers
import Derived.WalkKit
import Derived.LaidEql
import Derived.Stop.Asserts
import Derived.RowKitTokens
namespace Go.Proofs.YtoogodlnnijikaaGreatDoor
theorem ov_lt:∀ (l m:List UInt8) (r:Bool),ov l r < l.length→ov (l ++ m) r=ov l r
 | [],m,r,h=>absurd h (by simp [ov])
 | c :: l,m,r,h=>by
  rw [List.cons_append,ov,ov]
  rw [ov] at h
  split
  ·rfl
  ·rename_i hc
   rw [if_neg hc] at h
   rw [ov_lt l m _ (by simp only [List.length_cons] at h; omega)]
theorem ov_all:∀ (l m:List UInt8) (r:Bool),ov l r=l.length→ov (l ++ m) r=l.length+ov m (l.foldl remB r)
 | [],m,r,h=>by simp
 | c :: l,m,r,h=>by
  rw [ov] at h
  by_cases hc:remB r c=false∧Ji c=false
  ·rw [if_pos hc] at h; simp at h
  ·rw [if_neg hc] at h
   rw [List.cons_append,ov_go hc,ov_all l m _ (by simp only [List.length_cons] at h; omega)]
   simp only [List.length_cons,List.foldl_cons]; omega
theorem ov_drop:∀ (l:List UInt8) (r:Bool),ov l r < l.length→ov (l.drop (ov l r)) false=0
 | [],r,h=>absurd h (by simp [ov])
 | c :: l,r,h=>by
  by_cases hc:remB r c=false∧Ji c=false
  ·rw [ov_stop hc.1 hc.2,List.drop_zero]
   refine ov_stop ?_ hc.2
   have:=hc.1
   unfold remB at this ⊢
   split at this
   ·exact absurd this (by simp)
   ·rename_i h35
    rw [if_neg h35]
    split <;> rfl
  ·rw [ov_go hc] at h ⊢
   rw [List.drop_succ_cons]
   exact ov_drop l _ (by simp only [List.length_cons] at h; omega)
theorem oneP_end {s:yB}{f:Nat}(h:oneP s f=s.size):oneE s f=0∧oneT s f=⟨0,⟨#[]⟩,0,0,s.size⟩:=by
 unfold oneE oneT
 rw [if_pos h,if_pos h,h]
 exact⟨rfl,rfl⟩
theorem lx_nil_k {l:List UInt8}{d:Nat}(h:lxE l=0):∃ k n ty v,lx l=some (k,n,ty,v)∧tkOf l d=⟨k,⟨(l.take n).toArray⟩,ty,v,d⟩:=by
 unfold lxE at h
 unfold tkOf
 cases hl:lx l with
 | none =>
  rw [hl,if_neg (by decide)] at h
  split at h
  ·exact absurd h (by decide)
  ·split at h <;> exact absurd h (by decide)
 | some q =>
  obtain⟨k,n,ty,v⟩:=q
  exact⟨k,n,ty,v,rfl,rfl⟩
def arr (l:List UInt8):yB:=⟨l.toArray⟩
theorem arr_size (l:List UInt8):(arr l).size=l.length:=by unfold arr; simp [ByteArray.size]
structure Good (t:Tk):Prop where
 kk:t.k≠0
 ne:0 < t.x.size
 bl:ov t.x.data.toList false=0
 lk:lx t.x.data.toList=some (t.k,t.x.size,t.ty,t.n)
theorem one_good {s:yB}{f:Nat}(hf:f≤s.size) (hE:oneE s f=0) (h:oneP s f≠s.size) :
  Good (oneT s f)∧(oneT s f).p=(oneP s f:Nat)∧f≤oneP s f∧oneP s f+(oneT s f).x.size≤s.size∧s.extract (oneP s f) (oneP s f+(oneT s f).x.size)=(oneT s f).x∧lx (rest s (oneP s f))=some ((oneT s f).k,(oneT s f).x.size,(oneT s f).ty,(oneT s f).n):=by
 obtain⟨e1,e2⟩:=one_lx s f hf h
 have hP:=oneP_le s f hf
 rw [hE] at e2
 obtain⟨k,n,ty,v,h1,h2⟩:=lx_nil_k (d:=oneP s f) e2.symm
 obtain⟨l1,l2,l3⟩:=lx_len h1
 have h3:oneT s f=⟨k,arr ((rest s (oneP s f)).take n),ty,v,(oneP s f:Nat)⟩:=e1.trans h2
 have h4:(arr ((rest s (oneP s f)).take n)).size=n:=by rw [arr_size,List.length_take]; omega
 have h5:(rest s (oneP s f)).length=s.size - oneP s f:=Jj _ _
 have h6:ov (rest s (oneP s f)) false=0:=by
  have:=ov_drop (rest s f) false (by rw [Jj]; unfold oneP at hP h; omega)
  rw [rest_drop] at this
  exact this
 rw [h3]
 refine⟨⟨l3,?_,?_,?_⟩,rfl,by unfold oneP; omega,?_,?_,?_⟩
 ·show 0 < (arr _).size
  rw [h4]; exact l1
 ·show ov ((rest s (oneP s f)).take n) false=0
  have ht:=ov_lt ((rest s (oneP s f)).take n) ((rest s (oneP s f)).drop n) false
  rw [List.take_append_drop,h6] at ht
  by_cases hc:ov ((rest s (oneP s f)).take n) false < ((rest s (oneP s f)).take n).length
  ·exact (ht hc).symm
  ·exfalso
   have hq:=ov_all ((rest s (oneP s f)).take n) ((rest s (oneP s f)).drop n) false (by have:=ov_le ((rest s (oneP s f)).take n) false; omega)
   rw [List.take_append_drop,h6,List.length_take] at hq
   omega
 ·show lx ((rest s (oneP s f)).take n)=some (k,(arr _).size,ty,v)
  rw [h4]; exact lx_take h1
 ·show _+(arr _).size≤_
  rw [h4]; omega
 ·show s.extract _ (_+(arr _).size)=arr _
  rw [h4,ext_eq]; rfl
 ·show _=some (k,(arr _).size,ty,v)
  rw [h4]; exact h1
inductive Chain (s:yB):Nat→List Tk→Prop
 | fin (f:Nat) (h1:f≤s.size) (h2:oneP s f=s.size):Chain s f [⟨0,⟨#[]⟩,0,0,s.size⟩]
 | more (f p:Nat) (t:Tk) (L:List Tk) (hg:Good t) (hp:t.p=(p:Nat)) (h1:f≤p) (h2:p+t.x.size≤s.size) (h3:s.extract p (p+t.x.size)=t.x) (h4:oneP s f=p) (h5:Chain s (p+t.x.size) L):Chain s f (t :: L)
theorem beg_chain {s:yB}:∀ (d f:Nat),s.size - f≤d→f≤s.size→(begO s f).2.1=0→Chain s f (begO s f).1∧(begO s f).2.2=0:=by
 intro d
 induction d with
 | zero =>
  intro f hd hf h
  have e:f=s.size:=by omega
  have hp:oneP s f=s.size:=by have:=oneP_le s f hf; unfold oneP at this ⊢; omega
  obtain⟨a,b⟩:=oneP_end hp
  rw [beg_end a (by rw [b])]
  exact⟨by rw [b]; exact .fin f hf hp,rfl⟩
 | succ d ih =>
  intro f hd hf h
  by_cases hE:oneE s f=0
  ·by_cases hp:oneP s f=s.size
   ·obtain⟨a,b⟩:=oneP_end hp
    rw [beg_end a (by rw [b])]
    exact⟨by rw [b]; exact .fin f hf hp,rfl⟩
   ·obtain⟨g1,g2,g3,g4,g5,_⟩:=one_good hf hE hp
    obtain⟨b1,b2,b3,b4⟩:=KL hf hE g1.kk
    rw [b4] at h ⊢
    obtain⟨i1,i2⟩:=ih (oneQ s f) (by omega) b2 h
    exact⟨.more f (oneP s f) _ _ g1 g2 g3 g4 g5 rfl i1,i2⟩
  ·rw [beg_bad hE] at h
   exact absurd h hE
theorem Chain.len {s:yB}{f:Nat}{L:List Tk}(h:Chain s f L):0 < L.length:=by cases h <;> simp
open Go.RowKit
def allF (s:yB) (f:Nat):List Tk:=if (begO s f).2.1=0 then (begO s f).1.dropLast else (begO s f).1
def allL (s:yB):List Tk:=if s.size > 4096 then [] else allF s 0
structure Mv (w w':yW) (F:Nat→Prop):Prop where
 os:w'.os=w.os
 tape:w'.tape=w.tape
 output:w'.output=w.output
 size:w§≤w'§
 block:∀ k,k < w§→¬ F k→w'.heap[k]? = w.heap[k]?
theorem Mv.refl (w:yW) (F:Nat→Prop):Mv w w F:=⟨rfl,rfl,rfl,Nat.le_refl _,fun _ _ _=>rfl⟩
theorem Mv.drew {w w':yW}{F:Nat→Prop}(h:Mv w w' F):Mv w w'.drew F:=⟨h.os,h.tape,h.output,h.size,h.block⟩
theorem Mv.trans {w w' w'':yW}{F F':Nat→Prop}(h:Mv w w' F) (k:Mv w' w'' F') (hF:∀ b,F' b→F b∨w§≤b):Mv w w'' F :=
 ⟨k.os.trans h.os,k.tape.trans h.tape,k.output.trans h.output,Nat.le_trans h.size k.size,fun b hb hn =>
  (k.block b (Nat.lt_of_lt_of_le hb h.size) (fun e=>(hF b e).elim hn (fun h1=>by omega))).trans (h.block b hb hn)⟩
theorem Mv.mono {w w':yW}{F F':Nat→Prop}(h:Mv w w' F) (hF:∀ b,F b→F' b):Mv w w' F':=⟨h.os,h.tape,h.output,h.size,fun b hb hn=>h.block b hb (fun e=>hn (hF b e))⟩
theorem Mv.setCell {w w':yW}{F:Nat→Prop}(h:Mv w w' F) {a:Addr}(ha:F a.block∨w§≤a.block) (u:Value):Mv w (w'.setCell a u) F :=
 h.trans (F':=fun b=>b=a.block) ⟨rfl,rfl,rfl,by simp [World.setCell],fun b _ hn=>Below.heap_setCell _ _ _ _ hn⟩ (fun b e=>by cases e; exact ha)
theorem Mv.alloc {w w':yW}{F:Nat→Prop}(h:Mv w w' F) (o:Obj):Mv w (w'.alloc o) F :=
 h.trans (F':=fun _=>False) ⟨rfl,rfl,rfl,by simp,fun b hb _=>Below.heap_alloc _ _ _ hb⟩ (fun b e=>e.elim)
theorem Mv.grown {w w' w'':yW}{F:Nat→Prop}{row:Option Nat}(h:Mv w w' F) (hg:w'.grownBy w'' row) (hr:∀ k,row=some k→F k∨w§≤k):Mv w w'' F :=
 h.trans (F':=fun b=>some b=row) ⟨hg.os,hg.tape,hg.output,hg.size,fun b hb hn=>hg.block b hb hn⟩ (fun b e=>hr b e.symm)
theorem Mv.below {w w':yW}{F:Nat→Prop}(h:Mv w w' F) {B:Nat}(hB:B≤w§) (hF:∀ b,F b→B≤b):Below B w w' :=
 ⟨h.os,h.tape,h.output,h.size,fun k hk=>h.block k (by omega) (fun e=>by have:=hF k e; omega)⟩
theorem Mv.row {w w':yW}{F:Nat→Prop}(h:Mv w w' F) {e:TypeId}{s n:Nat}{v:Value}{f:Nat→Value}(hr:Row w e s v n f) (hn:∀ k,v.ownBlock=some k→¬ F k):Row w' e s v n f :=
 hr.of_block (fun k hk=>h.block k (hr.lt k hk) (hn k hk))
def QV (s:yB):Bool:=!isW s && (decide (1≤s.size) && (decide (s.size≤16) && (hdB letB (rest s 0) && decide (lead goB (rest s 0)=s.size))))
structure Hd where
 k:Int
 o:Int
 t:Int
 n:Int
 f:Int
 x:yB
 p:Int
inductive Nd where
 | mk (h:Hd) (a:Option Addr) (c:Nat) (ks:List Nd)
namespace Nd
def h:Nd→Hd | .mk h _ _ _=>h
def a:Nd→Option Addr | .mk _ a _ _=>a
def c:Nd→Nat | .mk _ _ c _=>c
def ks:Nd→List Nd | .mk _ _ _ ks=>ks
theorem ind {P:Nd→Prop}(H:∀ h a c ks,(∀ k ∈ ks,P k)→P (.mk h a c ks)):∀ m,P m :=
 @Nd.rec P (fun ks=>∀ k ∈ ks,P k) (fun h a c ks ih=>H h a c ks ih) (fun _ hk=>by cases hk) (fun k ks h1 h2 x hx=>by
  rcases List.mem_cons.1 hx with e | e
  ·rw [e]; exact h1
  ·exact h2 x e)
end Nd
scoped notation "zV" x:max => #[Value.int IntKind.u8 (Hd.k (Nd.h x)),Value.int IntKind.u8 (Hd.o (Nd.h x)),Value.int IntKind.u8 (Hd.t (Nd.h x)),Value.int IntKind.i64 (Hd.n (Nd.h x)),Value.int IntKind.u8 (Hd.f (Nd.h x)),Value.string (Hd.x (Nd.h x)),Value.slice (Nd.a x) (List.length (Nd.ks x)) (Nd.c x),Value.int IntKind.i64 (Hd.p (Nd.h x))]
scoped notation "zX" x:max g:max h:max i:max => #[Value.int IntKind.u8 (Hd.k x),Value.int IntKind.u8 (Hd.o x),Value.int IntKind.u8 (Hd.t x),Value.int IntKind.i64 (Hd.n x),Value.int IntKind.u8 (Hd.f x),Value.string (Hd.x x),Value.slice g (List.length h) i,Value.int IntKind.i64 (Hd.p x)]
def hdA (h:Hd) (a:Option Addr) (l c:Nat):Array Value:=#[zU h.k,zU h.o,zU h.t,zI h.n,zU h.f,.string h.x,.slice a l c,zI h.p]
def Nd.vals (m:Nd):Array Value:=hdA m.h m.a m.ks.length m.c
structure NdAt (w:yW) (b o:Nat) (m:Nd):Prop where
 c0:w.cell? b¢o=some (zU m.h.k)
 c1:w.cell? ⟨b,o+1,none⟩=some (zU m.h.o)
 c2:w.cell? ⟨b,o+2,none⟩=some (zU m.h.t)
 c3:w.cell? ⟨b,o+3,none⟩=some (zI m.h.n)
 c4:w.cell? ⟨b,o+4,none⟩=some (zU m.h.f)
 c5:w.cell? ⟨b,o+5,none⟩=some (.string m.h.x)
 c6:w.cell? ⟨b,o+6,none⟩=some (.slice m.a m.ks.length m.c)
 c7:w.cell? ⟨b,o+7,none⟩=some (zI m.h.p)
theorem NdAt.lt {w:yW}{b o:Nat}{m:Nd}(h:NdAt w b o m):b < w§:=World.block_lt_of_cell? w _ h.c0
theorem NdAt.blk {w w':yW}{b o:Nat}{m:Nd}(h:NdAt w b o m) (k:w'.heap[b]? = w.heap[b]?):NdAt w' b o m :=
 ⟨(World.cell?_of_block k).trans h.c0,(World.cell?_of_block k).trans h.c1,(World.cell?_of_block k).trans h.c2,(World.cell?_of_block k).trans h.c3,(World.cell?_of_block k).trans h.c4,(World.cell?_of_block k).trans h.c5,(World.cell?_of_block k).trans h.c6,(World.cell?_of_block k).trans h.c7⟩
theorem NdAt.on {w w':yW}{b o:Nat}{m:Nd}(h:NdAt w b o m) (k:yD w w'):NdAt w' b o m:=h.blk (k.block b h.lt)
structure Rg (h:Hd):Prop where
 k0:0≤h.k
 k1:h.k≤255
 o0:0≤h.o
 o1:h.o≤255
 t0:0≤h.t
 t1:h.t≤255
 n0:-9223372036854775808≤h.n
 n1:h.n≤9223372036854775807
 f0:0≤h.f
 f1:h.f≤255
 p0:-9223372036854775808≤h.p
 p1:h.p≤9223372036854775807
 x1:h.x.size≤140737488355328
inductive Lies (w:yW):Nd→Prop
 | mk (h:Hd) (a:Option Addr) (c:Nat) (ks:List Nd) (hr:Rg h) (hc:ks.length≤c) (hm:c≤9223372036854775807)
   (hk:∀ i (hi:i < ks.length),∃ b o,a=some b¢o∧NdAt w b (o+i * 8) ks[i]) (hs:∀ k ∈ ks,Lies w k):Lies w (.mk h a c ks)
theorem Lies.rg {w:yW}{m:Nd}(h:Lies w m):Rg m.h:=by cases h; assumption
theorem Lies.cap {w:yW}{m:Nd}(h:Lies w m):m.ks.length≤m.c:=by cases h; assumption
theorem Lies.max {w:yW}{m:Nd}(h:Lies w m):m.c≤9223372036854775807:=by cases h; assumption
theorem Lies.kid {w:yW}{m:Nd}(h:Lies w m) (i:Nat) (hi:i < m.ks.length):∃ b o,m.a=some b¢o∧NdAt w b (o+i * 8) m.ks[i]:=by cases h with | mk h a c ks hr hc hm hk hs=>exact hk i hi
theorem Lies.sub {w:yW}{m:Nd}(h:Lies w m) (k:Nd) (hk:k ∈ m.ks):Lies w k:=by cases h with | mk h a c ks hr hc hm hk' hs=>exact hs k hk
theorem Lies.blk {w w':yW}:∀ {m:Nd},Lies w m→(∀ b,b < w§→w'.heap[b]? = w.heap[b]?)→Lies w' m:=by
 intro m h k
 induction h with
 | mk h a c ks hr hc hm hk hs ih =>
  refine .mk h a c ks hr hc hm (fun i hi=>?_) ih
  obtain⟨b,o,e,hat⟩:=hk i hi
  exact⟨b,o,e,hat.blk (k b hat.lt)⟩
theorem Lies.on {w w':yW}{m:Nd}(h:Lies w m) (k:yD w w'):Lies w' m:=h.blk k.block
theorem Lies.hid {w:yW}{m:Nd}(h:Lies w m):Hid (Lies w m):=h
def NdH (w:yW) (b:Nat) (m:Nd):Prop:=w.heap[b]? = (zC m.vals 48)
theorem NdH.lt {w:yW}{b:Nat}{m:Nd}(h:NdH w b m):b < w§:=(zJ h).1
theorem NdH.at {w:yW}{b:Nat}{m:Nd}(h:NdH w b m):NdAt w b 0 m:=⟨Qa h 0,Qa h 1,Qa h 2,Qa h 3,Qa h 4,Qa h 5,Qa h 6,Qa h 7⟩
theorem NdH.on {w w':yW}{b:Nat}{m:Nd}(h:NdH w b m) (k:yD w w'):NdH w' b m:=(k.block b h.lt).trans h
theorem NdH.hid {w:yW}{b:Nat}{m:Nd}(h:NdH w b m):Hid (NdH w b m):=h
theorem NdAt.hid {w:yW}{b o:Nat}{m:Nd}(h:NdAt w b o m):Hid (NdAt w b o m):=h
mutual
def size:Nd→Nat
 | .mk _ _ _ ks=>1+Jx ks
def Jx:List Nd→Nat
 | []=>0
 | k :: ks=>size k+Jx ks
end
mutual
def pre:Nd→List Nd
 | .mk h a c ks=>.mk h a c ks :: pres ks
def pres:List Nd→List Nd
 | []=>[]
 | k :: ks=>pre k ++ pres ks
end
def numB (t:Int):Bool:=decide (1≤t∧t≤4)
def litB (t n:Int):Bool:=if t=5 then decide (0≤n∧n≤1) else if t=6 then decide (1≤n∧n≤2) else numB t && decide (0≤n)
def nm (h:Hd):Hd :=
 if h.k=1 then ⟨h.k,0,h.t,h.n,0,⟨#[]⟩,0⟩ else
 if h.k=9 then ⟨h.k,0,h.t,0,0,⟨#[]⟩,0⟩ else
 if h.k=2 then ⟨h.k,0,0,0,0,h.x,0⟩ else
 if h.k=3∨h.k=4 then ⟨h.k,0,0,0,h.f,⟨#[]⟩,0⟩ else
 if h.k=5∨h.k=6∨h.k=8 then ⟨h.k,h.o,0,0,0,⟨#[]⟩,0⟩ else ⟨h.k,0,0,0,0,⟨#[]⟩,0⟩
def fitB (h:Hd) (l:Nat):Bool :=
 if h.k=1 then decide (l=0) && litB h.t h.n else
 if h.k=2 then decide (l=0) && QV h.x else
 if h.k=3 then decide (l=0) && decide (1≤h.f∧h.f≤6) else
 if h.k=4 then decide (l=0) && decide (1≤h.f∧h.f≤3) else
 if h.k=5 then decide (l=1) && decide (1≤h.o∧h.o≤2) else
 if h.k=6 then decide (l=2) && decide (6≤h.o∧h.o≤18) else
 if h.k=7 then decide (l=3) else
 if h.k=8 then (decide (l=1) && decide (h.o=3)) || (decide (l=2) && decide (4≤h.o∧h.o≤5)) else
 if h.k=9 then decide (l=1) && numB h.t else false
def J6 (h:Hd):Array Value:=#[zU h.k,zU h.o,zU h.t,zI h.n,zU h.f,.string h.x]
def JZ (g h:Hd):Bool:=decide (g.k=h.k) && (decide (g.o=h.o) && (decide (g.t=h.t) && (decide (g.n=h.n) && (decide (g.f=h.f) && decide (g.x=h.x)))))
def oneH (h:Hd) (l:Nat):Bool:=JZ h (nm h) && fitB h l
mutual
def QW:Nd→Bool
 | .mk h _ _ ks=>oneH h ks.length && Q6 ks
def Q6:List Nd→Bool
 | []=>true
 | k :: ks=>QW k && Q6 ks
end
def lvO (o:Int):Int:=if o=18 then 2 else if o=17 then 3 else if o=6∨o=7 then 5 else if o=8∨o=9∨o=10 then 6 else 4
def lvl (h:Hd):Int:=if h.k=7 then 1 else if h.k=6 then lvO h.o else if h.k=5 then 7 else 8
def ask (h:Hd) (i:Nat):Int:=if h.k=7 then (if i=0 then 2 else 1) else if h.k=6 then (if lvl h=4 then 5 else lvl h+i) else if h.k=5 then 7 else 1
def dwn (h:Hd) (i:Nat):Bool:=if h.k=6 then false else if h.k=7 then decide (0 < i) else true
def inc (b:Bool) (d:Nat):Nat:=if b=true then d+1 else d
mutual
def dep:Nd→Nat
 | .mk h _ _ ks=>deps h 0 ks
def deps (h:Hd):Nat→List Nd→Nat
 | _,[]=>0
 | i,k :: ks=>Nat.max (inc (dwn h i) (inc (decide (lvl k.h < ask h i)) (dep k))) (deps h (i+1) ks)
end
mutual
def J7:Nd→Nd→Bool
 | .mk g _ _ js,m=>JZ g m.h && (decide (js.length=m.ks.length) && Js js m.ks)
def Js:List Nd→List Nd→Bool
 | [],_=>true
 | _ :: _,[]=>true
 | j :: js,k :: ks=>J7 j k && Js js ks
end
theorem QS {ks:List Nd}{i:Nat}(hi:i < ks.length):ks[i] ∈ ks:=List.getElem_mem hi
theorem KC {ks:List Nd}{i:Nat}(hi:i < ks.length):ks.drop i=ks[i] :: ks.drop (i+1):=List.drop_eq_getElem_cons hi
inductive Tr where
 | mk (h:Hd) (ks:List Tr)
inductive Ft where
 | tok (no:Int) (at':Int)
 | lex
def gB (l:List UInt8):yB:=⟨l.toArray⟩
def Jc:List Tk→Except Ft Tk
 | []=>.error .lex
 | t :: _=>.ok t
def gIs (x:yB) (ts:List Tk):Except Ft Bool:=(Jc ts).map fun t=>decide (t.x=x)
def JD (b:Bool) (no:Int) (ts:List Tk):Except Ft Unit:=if b=true then .ok () else match Jc ts with | .error e=>.error e | .ok t=>.error (.tok no t.p)
def JW:List Tk→Except Ft (Tk × List Tk)
 | []=>.error .lex
 | t :: ts=>.ok (t,ts)
def Q5 (x:yB) (ts:List Tk):Except Ft (Tk × List Tk):=do
 let b ← gIs x ts
 JD b 130 ts
 JW ts
def gOpn (d:Nat) (ts:List Tk):Except Ft (Tk × List Tk):=do
 JD (decide (d < 24)) 132 ts
 JW ts
def eqX (x:yB) (l:List UInt8):Bool:=x.toList == l
def tyX (x:yB):Int :=
 if eqX x [105,110,116]=true then 1 else if eqX x [113,116,121]=true then 2 else if eqX x [112,114,105,99,101]=true then 3 else if eqX x [116,105,109,101]=true then 4 else if eqX x [98,111,111,108]=true then 5 else if eqX x [115,105,100,101]=true then 6 else 0
def Q0 (x:yB):Int :=
 if eqX x [98,105,100]=true then 1 else if eqX x [97,115,107]=true then 2 else if eqX x [108,97,115,116]=true then 3 else if eqX x [118,111,108,117,109,101]=true then 4 else if eqX x [110,111,119]=true then 5 else if eqX x [111,112,101,110]=true then 6 else 0
def JF (x:yB):Int:=if eqX x [97,98,115]=true then 3 else if eqX x [109,105,110]=true then 4 else if eqX x [109,97,120]=true then 5 else 0
def valT (t:Tk):Int × Int :=
 if eqX t.x [116,114,117,101]=true then (5,1) else if eqX t.x [102,97,108,115,101]=true then (5,0) else if eqX t.x [98,117,121]=true then (6,1) else if eqX t.x [115,101,108,108]=true then (6,2) else (t.ty,t.n)
def orX (x:yB):Int:=if x=gB [124,124] then 18 else 0
def andX (x:yB):Int:=if x=gB [38,38] then 17 else 0
def cmpX (x:yB):Int:=if eqX x [61,61]=true then 11 else if eqX x [33,61]=true then 12 else if eqX x [60]=true then 13 else if eqX x [60,61]=true then 14 else if eqX x [62]=true then 15 else if eqX x [62,61]=true then 16 else 0
def sumX (x:yB):Int:=if eqX x [43]=true then 6 else if eqX x [45]=true then 7 else 0
def proX (x:yB):Int:=if eqX x [42]=true then 8 else if eqX x [47]=true then 9 else if eqX x [37]=true then 10 else 0
def unX (x:yB):Int:=if eqX x [45]=true then 1 else if eqX x [33]=true then 2 else 0
def gE:yB:=⟨#[]⟩
def gLit (ts:List Tk):Except Ft (Tr × List Tk):=do
 let t ← Jc ts
 JD (decide ((valT t).1≠0)) 130 ts
 let (_,r) ← JW ts
 .ok (.mk ⟨1,0,(valT t).1,(valT t).2,0,gE,t.p⟩ [],r)
def JX (oper:yB→Int) (part:List Tk→Except Ft (Tr × List Tk)):Nat→Tr→List Tk→Except Ft (Tr × List Tk)
 | 0,n,ts=>.ok (n,ts)
 | m+1,n,ts=>do
  let t ← Jc ts
  if oper t.x=0 then .ok (n,ts) else do
   let (u,r) ← JW ts
   let (k,r) ← part r
   JX oper part m (.mk ⟨6,oper t.x,0,0,0,gE,u.p⟩ [n,k]) r
def gRow (oper:yB→Int) (part:List Tk→Except Ft (Tr × List Tk)) (m:Nat) (ts:List Tk):Except Ft (Tr × List Tk):=do
 let (n,r) ← part ts
 JX oper part m n r
def gOne (ex:List Tk→Except Ft (Tr × List Tk)) (d:Nat) (ts:List Tk):Except Ft (Tr × List Tk):=do
 let x ← Jc ts
 if eqX x.x [40]=true then do
  let (_,r) ← gOpn d ts
  let (n,r) ← ex r
  let (_,r) ← Q5 (gB [41]) r
  .ok (n,r)
 else if eqX x.x [104,97,115]=true then do
  let (u,r) ← JW ts
  let y ← Jc r
  JD (decide (1≤Q0 y.x∧Q0 y.x≤3)) 130 r
  let (_,r) ← JW r
  .ok (.mk ⟨4,0,0,0,Q0 y.x,gE,u.p⟩ [],r)
 else if JF x.x≠0 then do
  let (u,r) ← gOpn d ts
  let (_,r) ← Q5 (gB [40]) r
  if JF x.x=3 then do
   let (k,r) ← ex r
   let (_,r) ← Q5 (gB [41]) r
   .ok (.mk ⟨8,JF x.x,0,0,0,gE,u.p⟩ [k],r)
  else do
   let (j,r) ← ex r
   let (_,r) ← Q5 (gB [44]) r
   let (k,r) ← ex r
   let (_,r) ← Q5 (gB [41]) r
   .ok (.mk ⟨8,JF x.x,0,0,0,gE,u.p⟩ [j,k],r)
 else if 1≤tyX x.x∧tyX x.x≤4 then do
  let (u,r) ← gOpn d ts
  let (_,r) ← Q5 (gB [40]) r
  let (k,r) ← ex r
  let (_,r) ← Q5 (gB [41]) r
  .ok (.mk ⟨9,0,tyX x.x,0,0,gE,u.p⟩ [k],r)
 else if Q0 x.x≠0 then do
  let (_,r) ← JW ts
  .ok (.mk ⟨3,0,0,0,Q0 x.x,gE,x.p⟩ [],r)
 else if x.k=2 then do
  let (_,r) ← JW ts
  .ok (.mk ⟨2,0,0,0,0,x.x,x.p⟩ [],r)
 else gLit ts
def gUn (ex un:List Tk→Except Ft (Tr × List Tk)) (d:Nat) (ts:List Tk):Except Ft (Tr × List Tk):=do
 let x ← Jc ts
 if unX x.x=0 then gOne ex d ts else do
  let (u,r) ← gOpn d ts
  let (k,r) ← un r
  .ok (.mk ⟨5,unX x.x,0,0,0,gE,u.p⟩ [k],r)
def gEx (ex un:List Tk→Except Ft (Tr × List Tk)) (d:Nat) (ts:List Tk):Except Ft (Tr × List Tk):=do
 let (n,r) ← gRow orX (gRow andX (gRow cmpX (gRow sumX (gRow proX (gUn ex un d) 4096) 4096) 1) 4096) 4096 ts
 let b ← gIs (gB [63]) r
 if b=false then .ok (n,r) else do
  let (u,r) ← gOpn d r
  let (y,r) ← ex r
  let (_,r) ← Q5 (gB [58]) r
  let (z,r) ← ex r
  .ok (.mk ⟨7,0,0,0,0,gE,u.p⟩ [n,y,z],r)
mutual
def exF:Nat→Nat→List Tk→Except Ft (Tr × List Tk)
 | 0,_,_=>.error .lex
 | f+1,d,ts=>gEx (exF f (d+1)) (unF f (d+1)) d ts
def unF:Nat→Nat→List Tk→Except Ft (Tr × List Tk)
 | 0,_,_=>.error .lex
 | f+1,d,ts=>gUn (exF f (d+1)) (unF f (d+1)) d ts
end
def Ka (ts:List Tk):Except Ft (Tr × List Tk):=exF 26 0 ts
structure TkC (w:yW) (b o:Nat) (t:Tk):Prop where
 c0:w.cell? b¢o=some (zU t.k)
 c1:w.cell? ⟨b,o+1,none⟩=some (.string t.x)
 c2:w.cell? ⟨b,o+2,none⟩=some (zU t.ty)
 c3:w.cell? ⟨b,o+3,none⟩=some (zI t.n)
 c4:w.cell? ⟨b,o+4,none⟩=some (zI t.p)
theorem TkC.lt {w:yW}{b o:Nat}{t:Tk}(h:TkC w b o t):b < w§:=World.block_lt_of_cell? w _ h.c0
theorem TkC.blk {w w':yW}{b o:Nat}{t:Tk}(h:TkC w b o t) (k:w'.heap[b]? = w.heap[b]?):TkC w' b o t :=
 ⟨(World.cell?_of_block k).trans h.c0,(World.cell?_of_block k).trans h.c1,(World.cell?_of_block k).trans h.c2,(World.cell?_of_block k).trans h.c3,(World.cell?_of_block k).trans h.c4⟩
theorem ba_ext2 {a b:yB}(h:a.data.toList=b.data.toList):a=b:=by
 cases a; cases b; congr 1; exact Array.toList_inj.1 h
theorem str_ne {a b:yB}(h:¬ a=b):(a.toList == b.toList)=false:=by
 rw [ByteArray.toList_eq,ByteArray.toList_eq]
 exact beq_false_of_ne (fun h'=>h (ba_ext2 h'))
theorem QF (t:Tk) (v:yW):(Instr.field 148 (.agg (tkA t)) 4).run Tryz.prog v=.ok (zI t.p) v:=by kernel_rfl
theorem Mv.ofBelow {w w':yW}{F:Nat→Prop}(h:yD w w'):Mv w w' F:=⟨h.os,h.tape,h.output,h.size,fun k hk _=>h.block k hk⟩
theorem put5 {w:yW}{b:Nat}{a0 a1 a2 a3 a4:Value}(h:w.heap[b]? = (zC #[a0,a1,a2,a3,a4] 148)) (v0 v1 v2 v3 v4:Value):(((((w.setCell b¢0 v0).setCell b¢1 v1).setCell b¢2 v2).setCell b¢3 v3).setCell b¢4 v4).heap[b]? = (zC #[v0,v1,v2,v3,v4] 148):=by
 have h1:(w.setCell b¢0 v0).heap[b]? = (zC #[v0,a1,a2,a3,a4] 148):=Qi v0 h
 have h2:((w.setCell b¢0 v0).setCell b¢1 v1).heap[b]? = (zC #[v0,v1,a2,a3,a4] 148):=Qi v1 h1
 have h3:(((w.setCell b¢0 v0).setCell b¢1 v1).setCell b¢2 v2).heap[b]? = (zC #[v0,v1,v2,a3,a4] 148):=Qi v2 h2
 have h4:((((w.setCell b¢0 v0).setCell b¢1 v1).setCell b¢2 v2).setCell b¢3 v3).heap[b]? = (zC #[v0,v1,v2,v3,a4] 148):=Qi v3 h3
 exact Qi v4 h4
theorem mv5 {w0 w:yW}{F:Nat→Prop}{b:Nat}(m:Mv w0 w F) (h:w0§≤b) (v0 v1 v2 v3 v4:Value):Mv w0 (((((w.setCell b¢0 v0).setCell b¢1 v1).setCell b¢2 v2).setCell b¢3 v3).setCell b¢4 v4) F :=
 ((((m.setCell (a:=b¢0) (.inr h) v0).setCell (a:=b¢1) (.inr h) v1).setCell (a:=b¢2) (.inr h) v2).setCell (a:=b¢3) (.inr h) v3).setCell (a:=b¢4) (.inr h) v4
theorem Qe {w w1 w2:yW}(h1:yD w w1) (h2:yD w1 w2):yD w w2:=h1.trans (h2.mono h1.size)
open Go.Shelf
set_option linter.unusedVariables false
attribute [local go_sem] Oper.semAt_some
theorem RL.own {w W W':yW}{v:Value}{M:List Tk}{row:Option Nat}(h:RL w W v M) (hg:W.grownBy W' row) (hr:∀ r,row=some r→w§≤r∧∃ o:Obj,W.heap[r]? = some o∧o.isCells=false):RL w W' v M:=by
 refine⟨h.row.kept hg ?_,h.nb,h.B.grown hg h.B.size (fun k hk=>(hr k hk).1)⟩
 cases hv:v.ownBlock with
 | none=>exact .inl rfl
 | some k =>
  right
  intro e
  obtain⟨_,o,ho,hc⟩:=hr k e.symm
  obtain⟨c,fz,hk⟩:=h.row.kind k hv
  rw [hk] at ho
  cases ho
  cases hc
mutual
def Qh:Nd→Tr
 | .mk h _ _ ks=>.mk h (KM ks)
def KM:List Nd→List Tr
 | []=>[]
 | k :: ks=>Qh k :: KM ks
end
inductive Bkn (P:Nat→Prop):Nd→Prop
 | mk (h:Hd) (a:Option Addr) (c:Nat) (ks:List Nd) (hk:∀ b o,a=some b¢o→P b) (hs:∀ k ∈ ks,Bkn P k):Bkn P (.mk h a c ks)
theorem Bkn.mono {P Q:Nat→Prop}{m:Nd}(h:Bkn P m) (k:∀ b,P b→Q b):Bkn Q m:=by
 induction h with
 | mk h a c ks hk hs ih=>exact .mk h a c ks (fun b o e=>k b (hk b o e)) ih
theorem put8 {w:yW}{b:Nat}{a0 a1 a2 a3 a4 a5 a6 a7:Value}(h:w.heap[b]? = (zC #[a0,a1,a2,a3,a4,a5,a6,a7] 48)) (v0 v1 v2 v3 v4 v5 v6 v7:Value) :
  ((((((((w.setCell b¢0 v0).setCell b¢1 v1).setCell b¢2 v2).setCell b¢3 v3).setCell b¢4 v4).setCell b¢5 v5).setCell b¢6 v6).setCell b¢7 v7).heap[b]? = (zC #[v0,v1,v2,v3,v4,v5,v6,v7] 48):=by
 have h1:(w.setCell b¢0 v0).heap[b]? = (zC #[v0,a1,a2,a3,a4,a5,a6,a7] 48):=Qi v0 h
 have h2:((w.setCell b¢0 v0).setCell b¢1 v1).heap[b]? = (zC #[v0,v1,a2,a3,a4,a5,a6,a7] 48):=Qi v1 h1
 have h3:(((w.setCell b¢0 v0).setCell b¢1 v1).setCell b¢2 v2).heap[b]? = (zC #[v0,v1,v2,a3,a4,a5,a6,a7] 48):=Qi v2 h2
 have h4:((((w.setCell b¢0 v0).setCell b¢1 v1).setCell b¢2 v2).setCell b¢3 v3).heap[b]? = (zC #[v0,v1,v2,v3,a4,a5,a6,a7] 48):=Qi v3 h3
 have h5:(((((w.setCell b¢0 v0).setCell b¢1 v1).setCell b¢2 v2).setCell b¢3 v3).setCell b¢4 v4).heap[b]? = (zC #[v0,v1,v2,v3,v4,a5,a6,a7] 48):=Qi v4 h4
 have h6:((((((w.setCell b¢0 v0).setCell b¢1 v1).setCell b¢2 v2).setCell b¢3 v3).setCell b¢4 v4).setCell b¢5 v5).heap[b]? = (zC #[v0,v1,v2,v3,v4,v5,a6,a7] 48):=Qi v5 h5
 have h7:(((((((w.setCell b¢0 v0).setCell b¢1 v1).setCell b¢2 v2).setCell b¢3 v3).setCell b¢4 v4).setCell b¢5 v5).setCell b¢6 v6).heap[b]? = (zC #[v0,v1,v2,v3,v4,v5,v6,a7] 48):=Qi v6 h6
 have h8:((((((((w.setCell b¢0 v0).setCell b¢1 v1).setCell b¢2 v2).setCell b¢3 v3).setCell b¢4 v4).setCell b¢5 v5).setCell b¢6 v6).setCell b¢7 v7).heap[b]? = (zC #[v0,v1,v2,v3,v4,v5,v6,v7] 48):=Qi v7 h7
 exact h8
theorem oth8 (w:yW) {b c:Nat}(h:c≠b) (v0 v1 v2 v3 v4 v5 v6 v7:Value):((((((((w.setCell b¢0 v0).setCell b¢1 v1).setCell b¢2 v2).setCell b¢3 v3).setCell b¢4 v4).setCell b¢5 v5).setCell b¢6 v6).setCell b¢7 v7).heap[c]? = w.heap[c]?:=by
 iterate 8 (refine (Below.heap_setCell _ _ _ _ (show c≠b from h)).trans ?_)
 rfl
theorem fin8 {U:yW}{b:Nat}{a0 a1 a2 a3 a4 a5 a6 a7:Value}(h:U.heap[b]? = (zC #[a0,a1,a2,a3,a4,a5,a6,a7] 48)) (v0 v1 v2 v3 v4 v5 v6 v7:Value) :
  ∃ Y,((((((((U.setCell b¢0 v0).setCell b¢1 v1).setCell b¢2 v2).setCell b¢3 v3).setCell b¢4 v4).setCell b¢5 v5).setCell b¢6 v6).setCell b¢7 v7)=Y∧Y.heap[b]? = (zC #[v0,v1,v2,v3,v4,v5,v6,v7] 48)∧Y§=U§∧(∀ k,k≠b→Y.heap[k]? = U.heap[k]?)∧(∀ (w:yW) (F:Nat→Prop),Mv w U F→w§≤b→Mv w Y F):=by
 refine⟨_,rfl,put8 h _ _ _ _ _ _ _ _,?_,fun k hk=>oth8 _ hk _ _ _ _ _ _ _ _,fun w F m hb=>?_⟩
 ·simp [World.setCell]
 ·exact (((((((m.setCell (a:=b¢0) (.inr hb) v0).setCell (a:=b¢1) (.inr hb) v1).setCell (a:=b¢2) (.inr hb) v2).setCell (a:=b¢3) (.inr hb) v3).setCell (a:=b¢4) (.inr hb) v4).setCell (a:=b¢5) (.inr hb) v5).setCell (a:=b¢6) (.inr hb) v6).setCell (a:=b¢7) (.inr hb) v7
theorem lies0 (w:yW) {h:Hd}(hr:Rg h):Lies w (.mk h none 0 []):=.mk h none 0 [] hr (by simp) (by simp) (fun i hi=>by simp at hi) (fun k hk=>by simp at hk)
theorem bkn0 (P:Nat→Prop) (h:Hd):Bkn P (.mk h none 0 []):=.mk h none 0 [] (fun _ _ e=>by cases e) (fun k hk=>by simp at hk)
theorem Lies.bkn {w w':yW}{P:Nat→Prop}:∀ {m:Nd},Lies w m→Bkn P m→(∀ b,P b→w'.heap[b]? = w.heap[b]?)→Lies w' m:=by
 intro m h hb k
 induction h with
 | mk h a c ks hr hc hm hk hs ih =>
  cases hb with
  | mk _ _ _ _ hp hq =>
  refine .mk h a c ks hr hc hm (fun i hi=>?_) (fun x hx=>ih x hx (hq x hx))
  obtain⟨b,o,e,hat⟩:=hk i hi
  exact⟨b,o,e,hat.blk (k b (hp b o e))⟩
structure RgT (t:Tk):Prop where
 x1:t.x.size≤140737488355328
 y0:0≤t.ty
 y1:t.ty≤255
 n0:-9223372036854775808≤t.n
 n1:t.n≤9223372036854775807
 p0:-9223372036854775808≤t.p
 p1:t.p≤9223372036854775807
theorem RgT.val {t:Tk}(h:RgT t):Rg ⟨1,0,(valT t).1,(valT t).2,0,gE,t.p⟩:=by
 have:=h.y0; have:=h.y1; have:=h.n0; have:=h.n1; have:=h.p0; have:=h.p1
 have hv:0≤(valT t).1∧(valT t).1≤255∧-9223372036854775808≤(valT t).2∧(valT t).2≤9223372036854775807:=by
  unfold valT
  split
  ·simp
  split
  ·simp
  split
  ·simp
  split
  ·simp
  exact⟨h.y0,h.y1,h.n0,h.n1⟩
 constructor <;> first | omega | (show (0:Nat)≤_; omega) | (simp only; omega) | simp
theorem field82_0 (t:Tk) (v:yW):(Instr.field 148 (.agg (tkA t)) 0).run Tryz.prog v=.ok (zU t.k) v:=by kernel_rfl
theorem gRowR_s (oper:yB→Int) (part:List Tk→Except Ft (Tr × List Tk)) (m:Nat) (n:Tr) (t:Tk) (ts:List Tk):JX oper part (m+1) n (t :: ts)=if oper t.x=0 then .ok (n,t :: ts) else match part ts with | .error e=>.error e | .ok q=>JX oper part m (.mk ⟨6,oper t.x,0,0,0,gE,t.p⟩ [n,q.1]) q.2:=by
 by_cases e:oper t.x=0
 ·simp [JX,Jc,bind,Except.bind,e]
 ·simp only [JX,Jc,JW,bind,Except.bind,if_neg e]
  cases part ts with
  | error e=>rfl
  | ok q=>rfl
theorem gRow_err {oper:yB→Int}{part:List Tk→Except Ft (Tr × List Tk)}{most:Nat}{ts:List Tk}{f:Ft}(h:part ts=.error f):gRow oper part most ts=.error f:=by simp only [gRow,bind,Except.bind,h]
theorem gRow_ok {oper:yB→Int}{part:List Tk→Except Ft (Tr × List Tk)}{most:Nat}{ts r:List Tk}{t:Tr}(h:part ts=.ok (t,r)):gRow oper part most ts=JX oper part most t r:=by simp only [gRow,bind,Except.bind,h]
theorem gUn_s (ex un:List Tk→Except Ft (Tr × List Tk)) (d:Nat) (t:Tk) (ts:List Tk):gUn ex un d (t :: ts)=if unX t.x=0 then gOne ex d (t :: ts) else match gOpn d (t :: ts) with | .error e=>.error e | .ok q=>match un q.2 with | .error e=>.error e | .ok q2=>.ok (.mk ⟨5,unX t.x,0,0,0,gE,q.1.p⟩ [q2.1],q2.2):=by
 by_cases e:unX t.x=0
 ·simp [gUn,Jc,bind,Except.bind,e]
 ·simp only [gUn,Jc,bind,Except.bind,if_neg e]
  cases gOpn d (t :: ts) with
  | error e=>rfl
  | ok q =>
   simp only
   cases un q.2 with
   | error e=>rfl
   | ok q=>rfl
theorem Qu {α β:Type}{x:Except Ft α}{f:α→Except Ft β}{y:β}(h:(x >>= f)=.ok y):∃ a,x=.ok a∧f a=.ok y:=by
 cases x with
 | error e=>cases h
 | ok a=>exact⟨a,rfl,h⟩
theorem Tryz.info48:(Tryz.prog.info? 48).map (fun i=>(i.zero,i.size,i.bytes))=some (some (.agg zNo),8,72):=by kernel_rfl
def nd0:Nd:=.mk ⟨0,0,0,0,0,gE,0⟩ none 0 []
def ndF (A:Nat→Nd) (j:Nat):Value:=(A (j / 8)).vals.getD (j % 8) undef
def ldF (L:List Nd):Nat→Nd:=fun i=>L.getD i nd0
theorem ldF_lt {L:List Nd}{y:Nd}{i:Nat}(h:i < L.length):ldF (L ++ [y]) i=ldF L i:=by
 unfold ldF
 simp [List.getD,List.getElem?_append_left h]
theorem ldF_at (L:List Nd) (y:Nd):ldF (L ++ [y]) L.length=y:=by
 unfold ldF
 simp [List.getD]
def RowN (w:yW) (v:Value) (L:List Nd):Prop:=Row w 48 8 v L.length (ndF (ldF L))
theorem nd_cells (y:Nd):∀ j,j < 8→(y.vals).toList[j]? = some (ndF (fun _=>y) j):=by
 intro j hj
 match j,hj with
 | 0,_=>rfl
 | 1,_=>rfl
 | 2,_=>rfl
 | 3,_=>rfl
 | 4,_=>rfl
 | 5,_=>rfl
 | 6,_=>rfl
 | 7,_=>rfl
theorem RowN.snoc {w':yW}{L:List Nd}{y:Nd}{g cap:Nat}(h2:w'.ownsRow 0 48 8 (.slice (some g¢0) (L.length+1) cap) (L.length+1) ((List.range (L.length * 8)).map (ndF (ldF L)) ++ (y.vals).toList)):RowN w' (.slice (some g¢0) (L.length+1) cap) (L ++ [y]):=by
 have hr:=Row.snoc (x:=ndF (fun _=>y)) h2 rfl (fun j hj=>nd_cells y j hj)
 unfold RowN
 rw [List.length_append,List.length_singleton]
 refine hr.congr fun j hj=>?_
 by_cases h:j < L.length * 8
 ·simp only [h,if_true]
  unfold ndF
  rw [ldF_lt (by omega)]
 ·have e:j / 8=L.length:=by omega
  simp only [h,if_false]
  unfold ndF
  rw [e,ldF_at,show (j - L.length * 8) % 8=j % 8 by omega]
theorem newsn_core (w0:yW) (y:Nd):∀ j u,(y.vals).toList[j]? = some u→(w0.alloc (.cells (y.vals) 48)).cell? ((w0§¢0:Addr).add j)=some u:=World.news_of_block (Qd w0 _)
theorem Ku (y:Nd):∀ u ∈ (y.vals).toList,u.oneCell'=true:=by
 intro u hu
 simp [Nd.vals,hdA] at hu
 rcases hu with rfl | rfl | rfl | rfl | rfl | rfl | rfl | rfl <;> rfl
theorem ndF_at (A:Nat→Nd) (j i:Nat) (hi:i < 8):ndF A (j * 8+i)=(A j).vals.getD i undef:=by
 unfold ndF
 rw [show (j * 8+i) / 8=j by omega,show (j * 8+i) % 8=i by omega]
theorem RowN.lies {w:yW}{v:Value}{L:List Nd}(h:RowN w v L):(v=.slice none 0 0∧L = [])∨∃ g cap,v=.slice (some g¢0) L.length cap∧L.length≤cap∧cap≤9223372036854775807∧∀ j,j < L.length→NdAt w g (0+j * 8) (ldF L j):=by
 have h':=h
 rcases h.2 with ⟨rfl,e⟩ | ⟨g,cap,cur,rfl,_,_,hc1,hc2,_⟩
 ·left
  exact⟨rfl,List.length_eq_zero_iff.1 e⟩
 ·right
  refine⟨g,cap,rfl,hc1,hc2,fun j hj=>?_⟩
  rw [Nat.zero_add]
  have c:=fun i (hi:i < 8)=>(Row.cell h' (j:=j * 8+i) (by omega)).trans (congrArg some (ndF_at (ldF L) j i hi))
  exact⟨c 0 (by omega),c 1 (by omega),c 2 (by omega),c 3 (by omega),c 4 (by omega),c 5 (by omega),c 6 (by omega),c 7 (by omega)⟩
theorem ldF_get {L:List Nd}{i:Nat}(h:i < L.length):ldF L i=L[i]:=by
 unfold ldF
 rw [List.getD_eq_getElem?_getD,List.getElem?_eq_getElem h]; rfl
def rdT (s:yB):List Tk:=if tksE s=0 then tksL s else allL s
theorem nbTy_rg:∀ l:List UInt8,0≤nbTy l∧nbTy l≤4
 | []=>by simp [nbTy]
 | c :: _=>by
  unfold nbTy
  repeat' split
  all_goals omega
theorem lx_rg {l:List UInt8}{k:Int}{n:Nat}{ty v:Int}(h:lx l=some (k,n,ty,v)):0≤ty∧ty≤4∧0≤v∧v≤9223372036854775807:=by
 unfold lx at h
 split at h
 ·split at h
  ·cases h
  ·cases h; simp
 ·split at h
  ·split at h
   ·cases h
   ·split at h
    ·cases h
    ·rename_i hn
     split at h
     ·cases h
     ·cases h
      have:=nbTy_rg (l.drop ‹Nat›)
      refine⟨?_,?_,by omega,by omega⟩
      ·exact (nbTy_rg _).1
      ·exact (nbTy_rg _).2
  ·split at h
   ·cases h
   ·cases h; simp
theorem one_rg {s:yB}{f:Nat}(hs:s.size≤4096) (hf:f≤s.size) (h:oneE s f=0):RgT (oneT s f):=by
 obtain⟨q0,q1,q2,_⟩:=one_fine s f hf h
 have hT:0≤(oneT s f).ty∧(oneT s f).ty≤4∧0≤(oneT s f).n∧(oneT s f).n≤9223372036854775807:=by
  by_cases hp:oneP s f=s.size
  ·unfold oneT
   rw [if_pos hp]
   simp
  ·obtain⟨e1,e2⟩:=one_lx s f hf hp
   rw [e2] at h
   rw [e1]
   unfold lxE at h
   unfold tkOf
   cases hx:lx (rest s (oneP s f)) with
   | none=>rw [hx] at h; simp at h; split at h <;> first | omega | (split at h <;> omega)
   | some q =>
    obtain⟨k,n,ty,v⟩:=q
    exact lx_rg hx
 exact⟨by omega,by omega,by omega,by omega,by omega,by rw [q0]; omega,by rw [q0]; omega⟩
theorem beg_rg {s:yB}(hs:s.size≤4096):∀ (d f:Nat),s.size - f≤d→f≤s.size→∀ t ∈ (begO s f).1,RgT t:=by
 intro d
 induction d with
 | zero =>
  intro f h1 h2 t ht
  by_cases h:oneE s f=0
  ·by_cases hk:(oneT s f).k=0
   ·rw [beg_end h hk] at ht
    obtain rfl:=List.mem_singleton.1 ht
    exact one_rg hs h2 h
   ·obtain⟨a1,a2,_,_⟩:=KL h2 h hk
    omega
  ·rw [beg_bad h] at ht
   simp at ht
 | succ d ih =>
  intro f h1 h2 t ht
  by_cases h:oneE s f=0
  ·by_cases hk:(oneT s f).k=0
   ·rw [beg_end h hk] at ht
    obtain rfl:=List.mem_singleton.1 ht
    exact one_rg hs h2 h
   ·obtain⟨a1,a2,_,a4⟩:=KL h2 h hk
    rw [a4] at ht
    rcases List.mem_cons.1 ht with rfl | ht
    ·exact one_rg hs h2 h
    ·exact ih _ (by omega) a2 t ht
  ·rw [beg_bad h] at ht
   simp at ht
theorem rdT_rg (s:yB):∀ t ∈ rdT s,RgT t:=by
 intro t ht
 unfold rdT at ht
 by_cases hs:s.size > 4096
 ·obtain⟨h1,_,h3⟩:=tks_long hs
  rw [if_neg (by rw [h1]; decide)] at ht
  unfold allL at ht
  rw [if_pos hs] at ht
  simp at ht
 ·have hb:=beg_rg (s:=s) (by omega) s.size 0 (by omega) (by omega)
  by_cases h0:tksE s=0
  ·rw [if_pos h0] at ht
   unfold tksL at ht
   rw [if_pos h0] at ht
   exact hb t ht
  ·rw [if_neg h0] at ht
   unfold allL at ht
   rw [if_neg hs] at ht
   unfold allF at ht
   split at ht
   ·exact hb t (List.dropLast_subset _ ht)
   ·exact hb t ht
open Go.Extern.Stop Go.Stop Go.Extern
theorem vOf128 (t:Addr) (w:yW):(ReflectliteValue.unpack (.iface 119 (.pointer (some t)))).run Tryz.prog w=.ok (.agg #[.pointer (some 4¢119),zP w§,.int .u64 150]) (w.alloc (.cells #[.pointer (some t)] 119)):=by kernel_rfl
theorem vOf161 (t:Addr) (w:yW):(ReflectliteValue.unpack (.iface 117 (.pointer (some t)))).run Tryz.prog w=.ok (.agg #[.pointer (some 4¢117),zP w§,.int .u64 150]) (w.alloc (.cells #[.pointer (some t)] 117)):=by kernel_rfl
theorem vOf74 (t:Addr) (w:yW):(ReflectliteValue.unpack (.iface 118 (.pointer (some t)))).run Tryz.prog w=.ok (.agg #[.pointer (some 4¢118),zP w§,.int .u64 150]) (w.alloc (.cells #[.pointer (some t)] 118)):=by kernel_rfl
theorem tOf74 (v:Value) (w:yW):(ReflectliteType.typeOf #[.iface 118 v]).run Tryz.prog w=.ok (.iface 196 (.agg #[.pointer (some 4¢118)])) w:=by kernel_rfl
theorem tOf48 (v:Value) (w:yW):(ReflectliteType.typeOf #[.iface 28 v]).run Tryz.prog w=.ok (.iface 196 (.agg #[.pointer (some 4¢28)])) w:=by kernel_rfl
theorem asg74_74 (w : yW) : (ReflectliteType.relation "AssignableTo" ReflectliteType.assignableTo #[.agg #[.pointer (some ⟨4, 118, none⟩)], .iface 196 (.agg #[.pointer (some ⟨4, 118, none⟩)])]).run Tryz.prog w = .ok (.bool true) w := by kernel_rfl
theorem asg74_48 (w : yW) : (ReflectliteType.relation "AssignableTo" ReflectliteType.assignableTo #[.agg #[.pointer (some ⟨4, 118, none⟩)], .iface 196 (.agg #[.pointer (some ⟨4, 28, none⟩)])]).run Tryz.prog w = .ok (.bool false) w := by kernel_rfl
theorem asg48_48 (w : yW) : (ReflectliteType.relation "AssignableTo" ReflectliteType.assignableTo #[.agg #[.pointer (some ⟨4, 28, none⟩)], .iface 196 (.agg #[.pointer (some ⟨4, 28, none⟩)])]).run Tryz.prog w = .ok (.bool true) w := by kernel_rfl
theorem asg48_74 (w : yW) : (ReflectliteType.relation "AssignableTo" ReflectliteType.assignableTo #[.agg #[.pointer (some ⟨4, 28, none⟩)], .iface 196 (.agg #[.pointer (some ⟨4, 118, none⟩)])]).run Tryz.prog w = .ok (.bool false) w := by kernel_rfl
theorem imp74 (w : yW) : (ReflectliteType.relation "Implements" ReflectliteType.implements_ #[.agg #[.pointer (some ⟨4, 118, none⟩)], .iface 196 (.agg #[.pointer (some ⟨4, 36, none⟩)])]).run Tryz.prog w = .ok (.bool true) w := by kernel_rfl
theorem imp48 (w : yW) : (ReflectliteType.relation "Implements" ReflectliteType.implements_ #[.agg #[.pointer (some ⟨4, 28, none⟩)], .iface 196 (.agg #[.pointer (some ⟨4, 36, none⟩)])]).run Tryz.prog w = .ok (.bool true) w := by kernel_rfl
theorem elm128 (w:yW):(ReflectliteType.method ReflectliteType.elem #[.agg #[.pointer (some 4¢119)]]).run Tryz.prog w=.ok (.iface 196 (.agg #[.pointer (some 4¢118)])) w:=by kernel_rfl
theorem elm161 (w:yW):(ReflectliteType.method ReflectliteType.elem #[.agg #[.pointer (some 4¢117)]]).run Tryz.prog w=.ok (.iface 196 (.agg #[.pointer (some 4¢28)])) w:=by kernel_rfl
end Go.Proofs.YtoogodlnnijikaaGreatDoor
