import Derived.Test.YtfbjofnaghjmeaaGreatDoorA0
import Derived.Test.YtfbjofnaghjmeaaGreatDoorA1
import Derived.RangeFuncNested
import Derived.RangeFuncBound
import Derived.RangeFuncCalls
import Derived.RangeFuncLeaves
import Derived.Shelf.Abstract
import Derived.Shelf.RegionOpen
import Derived.OwnWalkIn
import Derived.TacticsInMore
import Derived.LoopNIn
import Derived.LoopIn
import Derived.Laws.EntriesVeiled
import Derived.Deep.RegionHeld3
import Derived.Deep.AppendLies
import Derived.Deep.RegionLaw
import Derived.Defers
import Derived.Recover
import Derived.Laws.Pointers
import Derived.WalkKit
import Derived.LaidEql
import Derived.Stop.Asserts
import Derived.RowKitTokens
namespace Go.Proofs.YtfbjofnaghjmeaaGreatDoor
set_option maxHeartbeats 4000000
set_option maxRecDepth 100000
open Go.RowKit
structure Mv (w w':yW) (F:Nat→Prop):Prop where
 os:w'.os=w.os
 tape:w'.tape=w.tape
 output:w'.output=w.output
 size:w§≤w'§
 block:∀ k,k < w§→¬ F k→w'.heap[k]? = w.heap[k]?
theorem Mv.refl (w:yW) (F:Nat→Prop):Mv w w F:=⟨rfl,rfl,rfl,Nat.le_refl _,fun _ _ _=>rfl⟩
theorem Mv.drew {w w':yW}{F:Nat→Prop}(h:Mv w w' F):Mv w w'.drew F:=⟨h.os,h.tape,h.output,h.size,h.block⟩
theorem Mv.trans {w w' w'':yW}{F F':Nat→Prop}(h:Mv w w' F) (k:Mv w' w'' F') (hF:∀ b,F' b→F b∨w§≤b):Mv w w'' F :=
 ⟨k.os.trans h.os,k.tape.trans h.tape,k.output.trans h.output,Nat.le_trans h.size k.size,fun b hb hn =>
  (k.block b (Nat.lt_of_lt_of_le hb h.size) (fun e=>(hF b e).elim hn (fun h1=>by omega))).trans (h.block b hb hn)⟩
theorem Mv.mono {w w':yW}{F F':Nat→Prop}(h:Mv w w' F) (hF:∀ b,F b→F' b):Mv w w' F':=⟨h.os,h.tape,h.output,h.size,fun b hb hn=>h.block b hb (fun e=>hn (hF b e))⟩
theorem Mv.setCell {w w':yW}{F:Nat→Prop}(h:Mv w w' F) {a:Addr}(ha:F a.block∨w§≤a.block) (u:Value):Mv w (w'.setCell a u) F :=
 h.trans (F':=fun b=>b=a.block) ⟨rfl,rfl,rfl,by simp [World.setCell],fun b _ hn=>Below.heap_setCell _ _ _ _ hn⟩ (fun b e=>by cases e; exact ha)
theorem Mv.alloc {w w':yW}{F:Nat→Prop}(h:Mv w w' F) (o:Obj):Mv w (w'.alloc o) F :=
 h.trans (F':=fun _=>False) ⟨rfl,rfl,rfl,by simp,fun b hb _=>Below.heap_alloc _ _ _ hb⟩ (fun b e=>e.elim)
theorem Mv.grown {w w' w'':yW}{F:Nat→Prop}{row:Option Nat}(h:Mv w w' F) (hg:w'.grownBy w'' row) (hr:∀ k,row=some k→F k∨w§≤k):Mv w w'' F :=
 h.trans (F':=fun b=>some b=row) ⟨hg.os,hg.tape,hg.output,hg.size,fun b hb hn=>hg.block b hb hn⟩ (fun b e=>hr b e.symm)
theorem Mv.below {w w':yW}{F:Nat→Prop}(h:Mv w w' F) {B:Nat}(hB:B≤w§) (hF:∀ b,F b→B≤b):Below B w w' :=
 ⟨h.os,h.tape,h.output,h.size,fun k hk=>h.block k (by omega) (fun e=>by have:=hF k e; omega)⟩
theorem Mv.row {w w':yW}{F:Nat→Prop}(h:Mv w w' F) {e:TypeId}{s n:Nat}{v:Value}{f:Nat→Value}(hr:Row w e s v n f) (hn:∀ k,v.ownBlock=some k→¬ F k):Row w' e s v n f :=
 hr.of_block (fun k hk=>h.block k (hr.lt k hk) (hn k hk))
def nameB (s:yB):Bool:=!isW s && (decide (1≤s.size) && (decide (s.size≤16) && (hdB letB (rest s 0) && decide (lead goB (rest s 0)=s.size))))
structure Hd where
 k:Int
 o:Int
 t:Int
 n:Int
 f:Int
 x:yB
 p:Int
inductive Nd where
 | mk (h:Hd) (a:Option Addr) (c:Nat) (ks:List Nd)
namespace Nd
def h:Nd→Hd | .mk h _ _ _=>h
def a:Nd→Option Addr | .mk _ a _ _=>a
def c:Nd→Nat | .mk _ _ c _=>c
def ks:Nd→List Nd | .mk _ _ _ ks=>ks
theorem ind {P:Nd→Prop}(H:∀ h a c ks,(∀ k ∈ ks,P k)→P (.mk h a c ks)):∀ m,P m :=
 @Nd.rec P (fun ks=>∀ k ∈ ks,P k) (fun h a c ks ih=>H h a c ks ih) (fun _ hk=>by cases hk) (fun k ks h1 h2 x hx=>by
  rcases List.mem_cons.1 hx with e | e
  ·rw [e]; exact h1
  ·exact h2 x e)
end Nd
scoped notation "zV" x:max => #[Value.int IntKind.u8 (Hd.k (Nd.h x)),Value.int IntKind.u8 (Hd.o (Nd.h x)),Value.int IntKind.u8 (Hd.t (Nd.h x)),Value.int IntKind.i64 (Hd.n (Nd.h x)),Value.int IntKind.u8 (Hd.f (Nd.h x)),Value.string (Hd.x (Nd.h x)),Value.slice (Nd.a x) (List.length (Nd.ks x)) (Nd.c x),Value.int IntKind.i64 (Hd.p (Nd.h x))]
scoped notation "zX" x:max g:max h:max i:max => #[Value.int IntKind.u8 (Hd.k x),Value.int IntKind.u8 (Hd.o x),Value.int IntKind.u8 (Hd.t x),Value.int IntKind.i64 (Hd.n x),Value.int IntKind.u8 (Hd.f x),Value.string (Hd.x x),Value.slice g (List.length h) i,Value.int IntKind.i64 (Hd.p x)]
def hdA (h:Hd) (a:Option Addr) (l c:Nat):Array Value:=#[zU h.k,zU h.o,zU h.t,zI h.n,zU h.f,.string h.x,.slice a l c,zI h.p]
def Nd.vals (m:Nd):Array Value:=hdA m.h m.a m.ks.length m.c
structure NdAt (w:yW) (b o:Nat) (m:Nd):Prop where
 c0:w.cell? b¢o=some (zU m.h.k)
 c1:w.cell? ⟨b,o+1,none⟩=some (zU m.h.o)
 c2:w.cell? ⟨b,o+2,none⟩=some (zU m.h.t)
 c3:w.cell? ⟨b,o+3,none⟩=some (zI m.h.n)
 c4:w.cell? ⟨b,o+4,none⟩=some (zU m.h.f)
 c5:w.cell? ⟨b,o+5,none⟩=some (.string m.h.x)
 c6:w.cell? ⟨b,o+6,none⟩=some (.slice m.a m.ks.length m.c)
 c7:w.cell? ⟨b,o+7,none⟩=some (zI m.h.p)
theorem NdAt.lt {w:yW}{b o:Nat}{m:Nd}(h:NdAt w b o m):b < w§:=World.block_lt_of_cell? w _ h.c0
theorem NdAt.blk {w w':yW}{b o:Nat}{m:Nd}(h:NdAt w b o m) (k:w'.heap[b]? = w.heap[b]?):NdAt w' b o m :=
 ⟨(World.cell?_of_block k).trans h.c0,(World.cell?_of_block k).trans h.c1,(World.cell?_of_block k).trans h.c2,(World.cell?_of_block k).trans h.c3,(World.cell?_of_block k).trans h.c4,(World.cell?_of_block k).trans h.c5,(World.cell?_of_block k).trans h.c6,(World.cell?_of_block k).trans h.c7⟩
theorem NdAt.on {w w':yW}{b o:Nat}{m:Nd}(h:NdAt w b o m) (k:yD w w'):NdAt w' b o m:=h.blk (k.block b h.lt)
structure Rg (h:Hd):Prop where
 k0:0≤h.k
 k1:h.k≤255
 o0:0≤h.o
 o1:h.o≤255
 t0:0≤h.t
 t1:h.t≤255
 n0:-9223372036854775808≤h.n
 n1:h.n≤9223372036854775807
 f0:0≤h.f
 f1:h.f≤255
 p0:-9223372036854775808≤h.p
 p1:h.p≤9223372036854775807
 x1:h.x.size≤140737488355328
inductive Lies (w:yW):Nd→Prop
 | mk (h:Hd) (a:Option Addr) (c:Nat) (ks:List Nd) (hr:Rg h) (hc:ks.length≤c) (hm:c≤9223372036854775807)
   (hk:∀ i (hi:i < ks.length),∃ b o,a=some b¢o∧NdAt w b (o+i * 8) ks[i]) (hs:∀ k ∈ ks,Lies w k):Lies w (.mk h a c ks)
theorem Lies.rg {w:yW}{m:Nd}(h:Lies w m):Rg m.h:=by cases h; assumption
theorem Lies.cap {w:yW}{m:Nd}(h:Lies w m):m.ks.length≤m.c:=by cases h; assumption
theorem Lies.max {w:yW}{m:Nd}(h:Lies w m):m.c≤9223372036854775807:=by cases h; assumption
theorem Lies.kid {w:yW}{m:Nd}(h:Lies w m) (i:Nat) (hi:i < m.ks.length):∃ b o,m.a=some b¢o∧NdAt w b (o+i * 8) m.ks[i]:=by cases h with | mk h a c ks hr hc hm hk hs=>exact hk i hi
theorem Lies.sub {w:yW}{m:Nd}(h:Lies w m) (k:Nd) (hk:k ∈ m.ks):Lies w k:=by cases h with | mk h a c ks hr hc hm hk' hs=>exact hs k hk
theorem Lies.blk {w w':yW}:∀ {m:Nd},Lies w m→(∀ b,b < w§→w'.heap[b]? = w.heap[b]?)→Lies w' m:=by
 intro m h k
 induction h with
 | mk h a c ks hr hc hm hk hs ih =>
  refine .mk h a c ks hr hc hm (fun i hi=>?_) ih
  obtain⟨b,o,e,hat⟩:=hk i hi
  exact⟨b,o,e,hat.blk (k b hat.lt)⟩
theorem Lies.on {w w':yW}{m:Nd}(h:Lies w m) (k:yD w w'):Lies w' m:=h.blk k.block
theorem Lies.hid {w:yW}{m:Nd}(h:Lies w m):Hid (Lies w m):=h
def NdH (w:yW) (b:Nat) (m:Nd):Prop:=w.heap[b]? = (zC m.vals 38)
theorem NdH.lt {w:yW}{b:Nat}{m:Nd}(h:NdH w b m):b < w§:=(zJ h).1
theorem NdH.at {w:yW}{b:Nat}{m:Nd}(h:NdH w b m):NdAt w b 0 m:=⟨cell_of h 0,cell_of h 1,cell_of h 2,cell_of h 3,cell_of h 4,cell_of h 5,cell_of h 6,cell_of h 7⟩
theorem NdH.on {w w':yW}{b:Nat}{m:Nd}(h:NdH w b m) (k:yD w w'):NdH w' b m:=(k.block b h.lt).trans h
theorem NdH.hid {w:yW}{b:Nat}{m:Nd}(h:NdH w b m):Hid (NdH w b m):=h
theorem NdAt.hid {w:yW}{b o:Nat}{m:Nd}(h:NdAt w b o m):Hid (NdAt w b o m):=h
mutual
def size:Nd→Nat
 | .mk _ _ _ ks=>1+sizes ks
def sizes:List Nd→Nat
 | []=>0
 | k :: ks=>size k+sizes ks
end
mutual
def pre:Nd→List Nd
 | .mk h a c ks=>.mk h a c ks :: pres ks
def pres:List Nd→List Nd
 | []=>[]
 | k :: ks=>pre k ++ pres ks
end
def numB (t:Int):Bool:=decide (1≤t∧t≤4)
def litB (t n:Int):Bool:=if t=5 then decide (0≤n∧n≤1) else if t=6 then decide (1≤n∧n≤2) else numB t && decide (0≤n)
def nm (h:Hd):Hd :=
 if h.k=1 then ⟨h.k,0,h.t,h.n,0,⟨#[]⟩,0⟩ else
 if h.k=9 then ⟨h.k,0,h.t,0,0,⟨#[]⟩,0⟩ else
 if h.k=2 then ⟨h.k,0,0,0,0,h.x,0⟩ else
 if h.k=3∨h.k=4 then ⟨h.k,0,0,0,h.f,⟨#[]⟩,0⟩ else
 if h.k=5∨h.k=6∨h.k=8 then ⟨h.k,h.o,0,0,0,⟨#[]⟩,0⟩ else ⟨h.k,0,0,0,0,⟨#[]⟩,0⟩
def fitB (h:Hd) (l:Nat):Bool :=
 if h.k=1 then decide (l=0) && litB h.t h.n else
 if h.k=2 then decide (l=0) && nameB h.x else
 if h.k=3 then decide (l=0) && decide (1≤h.f∧h.f≤6) else
 if h.k=4 then decide (l=0) && decide (1≤h.f∧h.f≤3) else
 if h.k=5 then decide (l=1) && decide (1≤h.o∧h.o≤2) else
 if h.k=6 then decide (l=2) && decide (6≤h.o∧h.o≤18) else
 if h.k=7 then decide (l=3) else
 if h.k=8 then (decide (l=1) && decide (h.o=3)) || (decide (l=2) && decide (4≤h.o∧h.o≤5)) else
 if h.k=9 then decide (l=1) && numB h.t else false
def selfA (h:Hd):Array Value:=#[zU h.k,zU h.o,zU h.t,zI h.n,zU h.f,.string h.x]
def alike (g h:Hd):Bool:=decide (g.k=h.k) && (decide (g.o=h.o) && (decide (g.t=h.t) && (decide (g.n=h.n) && (decide (g.f=h.f) && decide (g.x=h.x)))))
def oneH (h:Hd) (l:Nat):Bool:=alike h (nm h) && fitB h l
mutual
def formB:Nd→Bool
 | .mk h _ _ ks=>oneH h ks.length && formsB ks
def formsB:List Nd→Bool
 | []=>true
 | k :: ks=>formB k && formsB ks
end
def lvO (o:Int):Int:=if o=18 then 2 else if o=17 then 3 else if o=6∨o=7 then 5 else if o=8∨o=9∨o=10 then 6 else 4
def lvl (h:Hd):Int:=if h.k=7 then 1 else if h.k=6 then lvO h.o else if h.k=5 then 7 else 8
def ask (h:Hd) (i:Nat):Int:=if h.k=7 then (if i=0 then 2 else 1) else if h.k=6 then (if lvl h=4 then 5 else lvl h+i) else if h.k=5 then 7 else 1
def dwn (h:Hd) (i:Nat):Bool:=if h.k=6 then false else if h.k=7 then decide (0 < i) else true
def inc (b:Bool) (d:Nat):Nat:=if b=true then d+1 else d
mutual
def dep:Nd→Nat
 | .mk h _ _ ks=>deps h 0 ks
def deps (h:Hd):Nat→List Nd→Nat
 | _,[]=>0
 | i,k :: ks=>Nat.max (inc (dwn h i) (inc (decide (lvl k.h < ask h i)) (dep k))) (deps h (i+1) ks)
end
mutual
def sameB:Nd→Nd→Bool
 | .mk g _ _ js,m=>alike g m.h && (decide (js.length=m.ks.length) && samesB js m.ks)
def samesB:List Nd→List Nd→Bool
 | [],_=>true
 | _ :: _,[]=>true
 | j :: js,k :: ks=>sameB j k && samesB js ks
end
theorem nth_mem {ks:List Nd}{i:Nat}(hi:i < ks.length):ks[i] ∈ ks:=List.getElem_mem hi
theorem drop_nth {ks:List Nd}{i:Nat}(hi:i < ks.length):ks.drop i=ks[i] :: ks.drop (i+1):=List.drop_eq_getElem_cons hi
inductive Tr where
 | mk (h:Hd) (ks:List Tr)
inductive Ft where
 | tok (no:Int) (at':Int)
 | lex
def eqX (x:yB) (l:List UInt8):Bool:=x.toList == l
def valT (t:Tk):Int × Int :=
 if eqX t.x [116,114,117,101]=true then (5,1) else if eqX t.x [102,97,108,115,101]=true then (5,0) else if eqX t.x [98,117,121]=true then (6,1) else if eqX t.x [115,101,108,108]=true then (6,2) else (t.ty,t.n)
def gE:yB:=⟨#[]⟩
structure TkC (w:yW) (b o:Nat) (t:Tk):Prop where
 c0:w.cell? b¢o=some (zU t.k)
 c1:w.cell? ⟨b,o+1,none⟩=some (.string t.x)
 c2:w.cell? ⟨b,o+2,none⟩=some (zU t.ty)
 c3:w.cell? ⟨b,o+3,none⟩=some (zI t.n)
 c4:w.cell? ⟨b,o+4,none⟩=some (zI t.p)
theorem TkC.lt {w:yW}{b o:Nat}{t:Tk}(h:TkC w b o t):b < w§:=World.block_lt_of_cell? w _ h.c0
theorem TkC.blk {w w':yW}{b o:Nat}{t:Tk}(h:TkC w b o t) (k:w'.heap[b]? = w.heap[b]?):TkC w' b o t :=
 ⟨(World.cell?_of_block k).trans h.c0,(World.cell?_of_block k).trans h.c1,(World.cell?_of_block k).trans h.c2,(World.cell?_of_block k).trans h.c3,(World.cell?_of_block k).trans h.c4⟩
theorem ba_ext2 {a b:yB}(h:a.data.toList=b.data.toList):a=b:=by
 cases a; cases b; congr 1; exact Array.toList_inj.1 h
theorem str_ne {a b:yB}(h:¬ a=b):(a.toList == b.toList)=false:=by
 rw [ByteArray.toList_eq,ByteArray.toList_eq]
 exact beq_false_of_ne (fun h'=>h (ba_ext2 h'))
theorem field82_4 (t:Tk) (v:yW):(Instr.field 233 (.agg (tkA t)) 4).run Tryz.prog v=.ok (zI t.p) v:=by kernel_rfl
theorem Mv.ofBelow {w w':yW}{F:Nat→Prop}(h:yD w w'):Mv w w' F:=⟨h.os,h.tape,h.output,h.size,fun k hk _=>h.block k hk⟩
theorem put5 {w:yW}{b:Nat}{a0 a1 a2 a3 a4:Value}(h:w.heap[b]? = (zC #[a0,a1,a2,a3,a4] 233)) (v0 v1 v2 v3 v4:Value):(((((w.setCell b¢0 v0).setCell b¢1 v1).setCell b¢2 v2).setCell b¢3 v3).setCell b¢4 v4).heap[b]? = (zC #[v0,v1,v2,v3,v4] 233):=by
 have h1:(w.setCell b¢0 v0).heap[b]? = (zC #[v0,a1,a2,a3,a4] 233):=heap_set v0 h
 have h2:((w.setCell b¢0 v0).setCell b¢1 v1).heap[b]? = (zC #[v0,v1,a2,a3,a4] 233):=heap_set v1 h1
 have h3:(((w.setCell b¢0 v0).setCell b¢1 v1).setCell b¢2 v2).heap[b]? = (zC #[v0,v1,v2,a3,a4] 233):=heap_set v2 h2
 have h4:((((w.setCell b¢0 v0).setCell b¢1 v1).setCell b¢2 v2).setCell b¢3 v3).heap[b]? = (zC #[v0,v1,v2,v3,a4] 233):=heap_set v3 h3
 exact heap_set v4 h4
theorem mv5 {w0 w:yW}{F:Nat→Prop}{b:Nat}(m:Mv w0 w F) (h:w0§≤b) (v0 v1 v2 v3 v4:Value):Mv w0 (((((w.setCell b¢0 v0).setCell b¢1 v1).setCell b¢2 v2).setCell b¢3 v3).setCell b¢4 v4) F :=
 ((((m.setCell (a:=b¢0) (.inr h) v0).setCell (a:=b¢1) (.inr h) v1).setCell (a:=b¢2) (.inr h) v2).setCell (a:=b¢3) (.inr h) v3).setCell (a:=b¢4) (.inr h) v4
theorem below2 {w w1 w2:yW}(h1:yD w w1) (h2:yD w1 w2):yD w w2:=h1.trans (h2.mono h1.size)
open Go.Shelf
set_option linter.unusedVariables false
attribute [local go_sem] Oper.semAt_some
theorem RL.own {w W W':yW}{v:Value}{M:List Tk}{row:Option Nat}(h:RL w W v M) (hg:W.grownBy W' row) (hr:∀ r,row=some r→w§≤r∧∃ o:Obj,W.heap[r]? = some o∧o.isCells=false):RL w W' v M:=by
 refine⟨h.row.kept hg ?_,h.nb,h.B.grown hg h.B.size (fun k hk=>(hr k hk).1)⟩
 cases hv:v.ownBlock with
 | none=>exact .inl rfl
 | some k =>
  right
  intro e
  obtain⟨_,o,ho,hc⟩:=hr k e.symm
  obtain⟨c,fz,hk⟩:=h.row.kind k hv
  rw [hk] at ho
  cases ho
  cases hc
mutual
def treeOf:Nd→Tr
 | .mk h _ _ ks=>.mk h (treesOf ks)
def treesOf:List Nd→List Tr
 | []=>[]
 | k :: ks=>treeOf k :: treesOf ks
end
theorem put8 {w:yW}{b:Nat}{a0 a1 a2 a3 a4 a5 a6 a7:Value}(h:w.heap[b]? = (zC #[a0,a1,a2,a3,a4,a5,a6,a7] 38)) (v0 v1 v2 v3 v4 v5 v6 v7:Value) :
  ((((((((w.setCell b¢0 v0).setCell b¢1 v1).setCell b¢2 v2).setCell b¢3 v3).setCell b¢4 v4).setCell b¢5 v5).setCell b¢6 v6).setCell b¢7 v7).heap[b]? = (zC #[v0,v1,v2,v3,v4,v5,v6,v7] 38):=by
 have h1:(w.setCell b¢0 v0).heap[b]? = (zC #[v0,a1,a2,a3,a4,a5,a6,a7] 38):=heap_set v0 h
 have h2:((w.setCell b¢0 v0).setCell b¢1 v1).heap[b]? = (zC #[v0,v1,a2,a3,a4,a5,a6,a7] 38):=heap_set v1 h1
 have h3:(((w.setCell b¢0 v0).setCell b¢1 v1).setCell b¢2 v2).heap[b]? = (zC #[v0,v1,v2,a3,a4,a5,a6,a7] 38):=heap_set v2 h2
 have h4:((((w.setCell b¢0 v0).setCell b¢1 v1).setCell b¢2 v2).setCell b¢3 v3).heap[b]? = (zC #[v0,v1,v2,v3,a4,a5,a6,a7] 38):=heap_set v3 h3
 have h5:(((((w.setCell b¢0 v0).setCell b¢1 v1).setCell b¢2 v2).setCell b¢3 v3).setCell b¢4 v4).heap[b]? = (zC #[v0,v1,v2,v3,v4,a5,a6,a7] 38):=heap_set v4 h4
 have h6:((((((w.setCell b¢0 v0).setCell b¢1 v1).setCell b¢2 v2).setCell b¢3 v3).setCell b¢4 v4).setCell b¢5 v5).heap[b]? = (zC #[v0,v1,v2,v3,v4,v5,a6,a7] 38):=heap_set v5 h5
 have h7:(((((((w.setCell b¢0 v0).setCell b¢1 v1).setCell b¢2 v2).setCell b¢3 v3).setCell b¢4 v4).setCell b¢5 v5).setCell b¢6 v6).heap[b]? = (zC #[v0,v1,v2,v3,v4,v5,v6,a7] 38):=heap_set v6 h6
 have h8:((((((((w.setCell b¢0 v0).setCell b¢1 v1).setCell b¢2 v2).setCell b¢3 v3).setCell b¢4 v4).setCell b¢5 v5).setCell b¢6 v6).setCell b¢7 v7).heap[b]? = (zC #[v0,v1,v2,v3,v4,v5,v6,v7] 38):=heap_set v7 h7
 exact h8
theorem oth8 (w:yW) {b c:Nat}(h:c≠b) (v0 v1 v2 v3 v4 v5 v6 v7:Value):((((((((w.setCell b¢0 v0).setCell b¢1 v1).setCell b¢2 v2).setCell b¢3 v3).setCell b¢4 v4).setCell b¢5 v5).setCell b¢6 v6).setCell b¢7 v7).heap[c]? = w.heap[c]?:=by
 iterate 8 (refine (Below.heap_setCell _ _ _ _ (show c≠b from h)).trans ?_)
 rfl
theorem fin8 {U:yW}{b:Nat}{a0 a1 a2 a3 a4 a5 a6 a7:Value}(h:U.heap[b]? = (zC #[a0,a1,a2,a3,a4,a5,a6,a7] 38)) (v0 v1 v2 v3 v4 v5 v6 v7:Value) :
  ∃ Y,((((((((U.setCell b¢0 v0).setCell b¢1 v1).setCell b¢2 v2).setCell b¢3 v3).setCell b¢4 v4).setCell b¢5 v5).setCell b¢6 v6).setCell b¢7 v7)=Y∧Y.heap[b]? = (zC #[v0,v1,v2,v3,v4,v5,v6,v7] 38)∧Y§=U§∧(∀ k,k≠b→Y.heap[k]? = U.heap[k]?)∧(∀ (w:yW) (F:Nat→Prop),Mv w U F→w§≤b→Mv w Y F):=by
 refine⟨_,rfl,put8 h _ _ _ _ _ _ _ _,?_,fun k hk=>oth8 _ hk _ _ _ _ _ _ _ _,fun w F m hb=>?_⟩
 ·simp [World.setCell]
 ·exact (((((((m.setCell (a:=b¢0) (.inr hb) v0).setCell (a:=b¢1) (.inr hb) v1).setCell (a:=b¢2) (.inr hb) v2).setCell (a:=b¢3) (.inr hb) v3).setCell (a:=b¢4) (.inr hb) v4).setCell (a:=b¢5) (.inr hb) v5).setCell (a:=b¢6) (.inr hb) v6).setCell (a:=b¢7) (.inr hb) v7
structure RgT (t:Tk):Prop where
 x1:t.x.size≤140737488355328
 y0:0≤t.ty
 y1:t.ty≤255
 n0:-9223372036854775808≤t.n
 n1:t.n≤9223372036854775807
 p0:-9223372036854775808≤t.p
 p1:t.p≤9223372036854775807
theorem RgT.val {t:Tk}(h:RgT t):Rg ⟨1,0,(valT t).1,(valT t).2,0,gE,t.p⟩:=by
 have:=h.y0; have:=h.y1; have:=h.n0; have:=h.n1; have:=h.p0; have:=h.p1
 have hv:0≤(valT t).1∧(valT t).1≤255∧-9223372036854775808≤(valT t).2∧(valT t).2≤9223372036854775807:=by
  unfold valT
  split
  ·simp
  split
  ·simp
  split
  ·simp
  split
  ·simp
  exact⟨h.y0,h.y1,h.n0,h.n1⟩
 constructor <;> first | omega | (show (0:Nat)≤_; omega) | (simp only; omega) | simp
theorem Tryz.info38:(Tryz.prog.info? 38).map (fun i=>(i.zero,i.size,i.bytes))=some (some (.agg zNo),8,72):=by kernel_rfl
def nd0:Nd:=.mk ⟨0,0,0,0,0,gE,0⟩ none 0 []
def ndF (A:Nat→Nd) (j:Nat):Value:=(A (j / 8)).vals.getD (j % 8) undef
def ldF (L:List Nd):Nat→Nd:=fun i=>L.getD i nd0
theorem ldF_lt {L:List Nd}{y:Nd}{i:Nat}(h:i < L.length):ldF (L ++ [y]) i=ldF L i:=by
 unfold ldF
 simp [List.getD,List.getElem?_append_left h]
theorem ldF_at (L:List Nd) (y:Nd):ldF (L ++ [y]) L.length=y:=by
 unfold ldF
 simp [List.getD]
def RowN (w:yW) (v:Value) (L:List Nd):Prop:=Row w 38 8 v L.length (ndF (ldF L))
theorem nd_cells (y:Nd):∀ j,j < 8→(y.vals).toList[j]? = some (ndF (fun _=>y) j):=by
 intro j hj
 match j,hj with
 | 0,_=>rfl
 | 1,_=>rfl
 | 2,_=>rfl
 | 3,_=>rfl
 | 4,_=>rfl
 | 5,_=>rfl
 | 6,_=>rfl
 | 7,_=>rfl
theorem RowN.snoc {w':yW}{L:List Nd}{y:Nd}{g cap:Nat}(h2:w'.ownsRow 0 38 8 (.slice (some g¢0) (L.length+1) cap) (L.length+1) ((List.range (L.length * 8)).map (ndF (ldF L)) ++ (y.vals).toList)):RowN w' (.slice (some g¢0) (L.length+1) cap) (L ++ [y]):=by
 have hr:=Row.snoc (x:=ndF (fun _=>y)) h2 rfl (fun j hj=>nd_cells y j hj)
 unfold RowN
 rw [List.length_append,List.length_singleton]
 refine hr.congr fun j hj=>?_
 by_cases h:j < L.length * 8
 ·simp only [h,if_true]
  unfold ndF
  rw [ldF_lt (by omega)]
 ·have e:j / 8=L.length:=by omega
  simp only [h,if_false]
  unfold ndF
  rw [e,ldF_at,show (j - L.length * 8) % 8=j % 8 by omega]
theorem newsn_core (w0:yW) (y:Nd):∀ j u,(y.vals).toList[j]? = some u→(w0.alloc (.cells (y.vals) 38)).cell? ((w0§¢0:Addr).add j)=some u:=World.news_of_block (heap_new w0 _)
theorem onen_core (y:Nd):∀ u ∈ (y.vals).toList,u.oneCell'=true:=by
 intro u hu
 simp [Nd.vals,hdA] at hu
 rcases hu with rfl | rfl | rfl | rfl | rfl | rfl | rfl | rfl <;> rfl
theorem ndF_at (A:Nat→Nd) (j i:Nat) (hi:i < 8):ndF A (j * 8+i)=(A j).vals.getD i undef:=by
 unfold ndF
 rw [show (j * 8+i) / 8=j by omega,show (j * 8+i) % 8=i by omega]
theorem RowN.lies {w:yW}{v:Value}{L:List Nd}(h:RowN w v L):(v=.slice none 0 0∧L = [])∨∃ g cap,v=.slice (some g¢0) L.length cap∧L.length≤cap∧cap≤9223372036854775807∧∀ j,j < L.length→NdAt w g (0+j * 8) (ldF L j):=by
 have h':=h
 rcases h.2 with ⟨rfl,e⟩ | ⟨g,cap,cur,rfl,_,_,hc1,hc2,_⟩
 ·left
  exact⟨rfl,List.length_eq_zero_iff.1 e⟩
 ·right
  refine⟨g,cap,rfl,hc1,hc2,fun j hj=>?_⟩
  rw [Nat.zero_add]
  have c:=fun i (hi:i < 8)=>(Row.cell h' (j:=j * 8+i) (by omega)).trans (congrArg some (ndF_at (ldF L) j i hi))
  exact⟨c 0 (by omega),c 1 (by omega),c 2 (by omega),c 3 (by omega),c 4 (by omega),c 5 (by omega),c 6 (by omega),c 7 (by omega)⟩
theorem ldF_get {L:List Nd}{i:Nat}(h:i < L.length):ldF L i=L[i]:=by
 unfold ldF
 rw [List.getD_eq_getElem?_getD,List.getElem?_eq_getElem h]; rfl
def rdT (s:yB):List Tk:=if tksE s=0 then tksL s else allL s
theorem nbTy_rg:∀ l:List UInt8,0≤nbTy l∧nbTy l≤4
 | []=>by simp [nbTy]
 | c :: _=>by
  unfold nbTy
  repeat' split
  all_goals omega
theorem lx_rg {l:List UInt8}{k:Int}{n:Nat}{ty v:Int}(h:lx l=some (k,n,ty,v)):0≤ty∧ty≤4∧0≤v∧v≤9223372036854775807:=by
 unfold lx at h
 split at h
 ·split at h
  ·cases h
  ·cases h; simp
 ·split at h
  ·split at h
   ·cases h
   ·split at h
    ·cases h
    ·rename_i hn
     split at h
     ·cases h
     ·cases h
      have:=nbTy_rg (l.drop ‹Nat›)
      refine⟨?_,?_,by omega,by omega⟩
      ·exact (nbTy_rg _).1
      ·exact (nbTy_rg _).2
  ·split at h
   ·cases h
   ·cases h; simp
theorem one_rg {s:yB}{f:Nat}(hs:s.size≤4096) (hf:f≤s.size) (h:oneE s f=0):RgT (oneT s f):=by
 obtain⟨q0,q1,q2,_⟩:=one_fine s f hf h
 have hT:0≤(oneT s f).ty∧(oneT s f).ty≤4∧0≤(oneT s f).n∧(oneT s f).n≤9223372036854775807:=by
  by_cases hp:oneP s f=s.size
  ·unfold oneT
   rw [if_pos hp]
   simp
  ·obtain⟨e1,e2⟩:=one_lx s f hf hp
   rw [e2] at h
   rw [e1]
   unfold lxE at h
   unfold tkOf
   cases hx:lx (rest s (oneP s f)) with
   | none=>rw [hx] at h; simp at h; split at h <;> first | omega | (split at h <;> omega)
   | some q =>
    obtain⟨k,n,ty,v⟩:=q
    exact lx_rg hx
 exact⟨by omega,by omega,by omega,by omega,by omega,by rw [q0]; omega,by rw [q0]; omega⟩
theorem beg_rg {s:yB}(hs:s.size≤4096):∀ (d f:Nat),s.size - f≤d→f≤s.size→∀ t ∈ (begO s f).1,RgT t:=by
 intro d
 induction d with
 | zero =>
  intro f h1 h2 t ht
  by_cases h:oneE s f=0
  ·by_cases hk:(oneT s f).k=0
   ·rw [beg_end h hk] at ht
    obtain rfl:=List.mem_singleton.1 ht
    exact one_rg hs h2 h
   ·obtain⟨a1,a2,_,_⟩:=beg_more h2 h hk
    omega
  ·rw [beg_bad h] at ht
   simp at ht
 | succ d ih =>
  intro f h1 h2 t ht
  by_cases h:oneE s f=0
  ·by_cases hk:(oneT s f).k=0
   ·rw [beg_end h hk] at ht
    obtain rfl:=List.mem_singleton.1 ht
    exact one_rg hs h2 h
   ·obtain⟨a1,a2,_,a4⟩:=beg_more h2 h hk
    rw [a4] at ht
    rcases List.mem_cons.1 ht with rfl | ht
    ·exact one_rg hs h2 h
    ·exact ih _ (by omega) a2 t ht
  ·rw [beg_bad h] at ht
   simp at ht
theorem rdT_rg (s:yB):∀ t ∈ rdT s,RgT t:=by
 intro t ht
 unfold rdT at ht
 by_cases hs:s.size > 4096
 ·obtain⟨h1,_,h3⟩:=tks_long hs
  rw [if_neg (by rw [h1]; decide)] at ht
  unfold allL at ht
  rw [if_pos hs] at ht
  simp at ht
 ·have hb:=beg_rg (s:=s) (by omega) s.size 0 (by omega) (by omega)
  by_cases h0:tksE s=0
  ·rw [if_pos h0] at ht
   unfold tksL at ht
   rw [if_pos h0] at ht
   exact hb t ht
  ·rw [if_neg h0] at ht
   unfold allL at ht
   rw [if_neg hs] at ht
   unfold allF at ht
   split at ht
   ·exact hb t (List.dropLast_subset _ ht)
   ·exact hb t ht
open Go.Extern.Stop Go.Stop Go.Extern
theorem vOf128 (t:Addr) (w:yW):(ReflectliteValue.unpack (.iface 223 (.pointer (some t)))).run Tryz.prog w=.ok (.agg #[.pointer (some 4¢223),zP w§,.int .u64 150]) (w.alloc (.cells #[.pointer (some t)] 223)):=by kernel_rfl
theorem vOf161 (t:Addr) (w:yW):(ReflectliteValue.unpack (.iface 222 (.pointer (some t)))).run Tryz.prog w=.ok (.agg #[.pointer (some 4¢222),zP w§,.int .u64 150]) (w.alloc (.cells #[.pointer (some t)] 222)):=by kernel_rfl
theorem vOf74 (t:Addr) (w:yW):(ReflectliteValue.unpack (.iface 184 (.pointer (some t)))).run Tryz.prog w=.ok (.agg #[.pointer (some 4¢184),zP w§,.int .u64 150]) (w.alloc (.cells #[.pointer (some t)] 184)):=by kernel_rfl
theorem tOf74 (v:Value) (w:yW):(ReflectliteType.typeOf #[.iface 184 v]).run Tryz.prog w=.ok (.iface 283 (.agg #[.pointer (some 4¢184)])) w:=by kernel_rfl
theorem tOf48 (v:Value) (w:yW):(ReflectliteType.typeOf #[.iface 41 v]).run Tryz.prog w=.ok (.iface 283 (.agg #[.pointer (some 4¢41)])) w:=by kernel_rfl
theorem asg74_74 (w : yW) : (ReflectliteType.relation "AssignableTo" ReflectliteType.assignableTo #[.agg #[.pointer (some ⟨4, 184, none⟩)], .iface 283 (.agg #[.pointer (some ⟨4, 184, none⟩)])]).run Tryz.prog w = .ok (.bool true) w := by kernel_rfl
theorem asg74_48 (w : yW) : (ReflectliteType.relation "AssignableTo" ReflectliteType.assignableTo #[.agg #[.pointer (some ⟨4, 184, none⟩)], .iface 283 (.agg #[.pointer (some ⟨4, 41, none⟩)])]).run Tryz.prog w = .ok (.bool false) w := by kernel_rfl
theorem asg48_48 (w : yW) : (ReflectliteType.relation "AssignableTo" ReflectliteType.assignableTo #[.agg #[.pointer (some ⟨4, 41, none⟩)], .iface 283 (.agg #[.pointer (some ⟨4, 41, none⟩)])]).run Tryz.prog w = .ok (.bool true) w := by kernel_rfl
theorem asg48_74 (w : yW) : (ReflectliteType.relation "AssignableTo" ReflectliteType.assignableTo #[.agg #[.pointer (some ⟨4, 41, none⟩)], .iface 283 (.agg #[.pointer (some ⟨4, 184, none⟩)])]).run Tryz.prog w = .ok (.bool false) w := by kernel_rfl
theorem imp74 (w : yW) : (ReflectliteType.relation "Implements" ReflectliteType.implements_ #[.agg #[.pointer (some ⟨4, 184, none⟩)], .iface 283 (.agg #[.pointer (some ⟨4, 85, none⟩)])]).run Tryz.prog w = .ok (.bool true) w := by kernel_rfl
theorem imp48 (w : yW) : (ReflectliteType.relation "Implements" ReflectliteType.implements_ #[.agg #[.pointer (some ⟨4, 41, none⟩)], .iface 283 (.agg #[.pointer (some ⟨4, 85, none⟩)])]).run Tryz.prog w = .ok (.bool true) w := by kernel_rfl
theorem elm128 (w:yW):(ReflectliteType.method ReflectliteType.elem #[.agg #[.pointer (some 4¢223)]]).run Tryz.prog w=.ok (.iface 283 (.agg #[.pointer (some 4¢184)])) w:=by kernel_rfl
theorem elm161 (w:yW):(ReflectliteType.method ReflectliteType.elem #[.agg #[.pointer (some 4¢222)]]).run Tryz.prog w=.ok (.iface 283 (.agg #[.pointer (some 4¢41)])) w:=by kernel_rfl
theorem mtKind (h : Value) (w : yW) : (Go.method 443 283 (.agg #[h]) "Kind").run Tryz.prog w = .ok (271, h) w := by kernel_rfl
theorem mtElem (h : Value) (w : yW) : (Go.method 443 283 (.agg #[h]) "Elem").run Tryz.prog w = .ok (283, .agg #[h]) w := by kernel_rfl
theorem mtImpl (h : Value) (w : yW) : (Go.method 443 283 (.agg #[h]) "Implements").run Tryz.prog w = .ok (284, .agg #[h]) w := by kernel_rfl
theorem mtAsg (h : Value) (w : yW) : (Go.method 443 283 (.agg #[h]) "AssignableTo").run Tryz.prog w = .ok (281, .agg #[h]) w := by kernel_rfl
theorem ty128 (a : Addr) (w : yW) : (ReflectliteValue.methodAny (ReflectliteValue.valueError "reflectlite.Value.Type" 0) (fun t _ _ _ => ReflectliteType.toType t) #[.agg #[.pointer (some ⟨4, 223, none⟩), .pointer (some a), .int .u64 150]]).run Tryz.prog w = .ok (.iface 283 (.agg #[.pointer (some ⟨4, 223, none⟩)])) w := by kernel_rfl
theorem kd128 (w:yW):((ReflectliteType.abiMethod fun t=>(fun a:Nat=>Value.int IntKind.u8 (a:Int)) <$> Rtype.kind t) #[.pointer (some 4¢223)]).run Tryz.prog w=.ok (zU 22) w:=by kernel_rfl
theorem kd74 (w:yW):((ReflectliteType.abiMethod fun t=>(fun a:Nat=>Value.int IntKind.u8 (a:Int)) <$> Rtype.kind t) #[.pointer (some 4¢184)]).run Tryz.prog w=.ok (zU 22) w:=by kernel_rfl
theorem pt128 (a:Addr) (w:yW):(ReflectliteValue.parts (.agg #[.pointer (some 4¢223),.pointer (some a),.int .u64 150])).run Tryz.prog w=.ok (some (223,a,150)) w:=by kernel_rfl
theorem pt74 (a:Addr) (w:yW):(ReflectliteValue.parts (.agg #[.pointer (some 4¢184),.pointer (some a),.int .u64 150])).run Tryz.prog w=.ok (some (184,a,150)) w:=by kernel_rfl
theorem pt74a (a:Addr) (w:yW):(ReflectliteValue.parts (.agg #[.pointer (some 4¢184),.pointer (some a),.int .u64 406])).run Tryz.prog w=.ok (some (184,a,406)) w:=by kernel_rfl
theorem el128 (w:yW):(Rtype.elem? 223).run Tryz.prog w=.ok (some 184) w:=by kernel_rfl
theorem mk74 (p:Addr) (w:yW):(ReflectliteValue.mk 184 p ReflectliteValue.flagAddr).run Tryz.prog w=.ok (.agg #[.pointer (some 4¢184),.pointer (some p),.int .u64 406]) w:=by kernel_rfl
theorem da74 (w:yW):(Rtype.directlyAssignable 184 184).run Tryz.prog w=.ok true w:=by kernel_rfl
theorem rl_parts (z:Sem Value) (f:TypeId→Addr→Nat→Nat→Sem Value) (v:Value):∃ g:Option (TypeId × Addr × Nat)→Sem Value,ReflectliteValue.method z f #[v]=(ReflectliteValue.parts v >>= g)∧∀ t a fl,g (some (t,a,fl))=f t a fl (fl % 32):=⟨_,rfl,fun _ _ _=>rfl⟩
theorem nil128 (a p:Addr) (W:yW) (ha:W.cell? a=some (.pointer (some p))) :
  (ReflectliteValue.method (ReflectliteValue.valueError "reflectlite.Value.IsNil" 0) ReflectliteValue.isNil #[.agg #[.pointer (some ⟨4, 223, none⟩), .pointer (some a), .int .u64 150]]).run Tryz.prog W = .ok (.bool false) W := by
 obtain ⟨g, h1, h2⟩ := rl_parts (ReflectliteValue.valueError "reflectlite.Value.IsNil" 0) ReflectliteValue.isNil (.agg #[.pointer (some ⟨4, 223, none⟩), .pointer (some a), .int .u64 150])
 rw [h1,Sem.run_bind,pt128]
 simp [Result.andThen,h2,ReflectliteValue.isNil,loadVar,isAgg,underlying,Tryz.underlying223,ha]
theorem elv128 (a p:Addr) (W:yW) (ha:W.cell? a=some (.pointer (some p))) :
  (ReflectliteValue.method (ReflectliteValue.valueError "reflectlite.Value.Elem" 0) ReflectliteValue.elem #[.agg #[.pointer (some ⟨4, 223, none⟩), .pointer (some a), .int .u64 150]]).run Tryz.prog W = .ok (.agg #[.pointer (some ⟨4, 184, none⟩), .pointer (some p), .int .u64 406]) W := by
 obtain ⟨g, h1, h2⟩ := rl_parts (ReflectliteValue.valueError "reflectlite.Value.Elem" 0) ReflectliteValue.elem (.agg #[.pointer (some ⟨4, 223, none⟩), .pointer (some a), .int .u64 150])
 rw [h1,Sem.run_bind,pt128]
 simp [Result.andThen,h2,ReflectliteValue.elem,loadVar,isAgg,underlying,Tryz.underlying223,ha,el128,mk74]
theorem rlv_set (v x:Value):∃ g:Option (TypeId × Addr × Nat)→Option (TypeId × Addr × Nat)→Sem Value,ReflectliteValue.set #[v,x]=(ReflectliteValue.parts v >>= fun p=>ReflectliteValue.parts x >>= fun q=>g p q)∧∀ dst a fl src b k,fl / ReflectliteValue.flagAddr % 2=1→∃ r:Value→Bool→Sem Value,g (some (dst,a,fl)) (some (src,b,k))=(loadVar src b >>= fun val=>Rtype.directlyAssignable dst src >>= r val)∧∀ val,r val true=(storeVar dst a val >>= fun _=>pure (.tuple #[])):=by
 refine⟨_,rfl,fun dst a fl src b k h=>?_⟩
 have h':(fl / ReflectliteValue.flagAddr % 2 == 0)=false:=by rw [h]; rfl
 simp only [h']
 exact⟨_,rfl,fun _=>rfl⟩
theorem set74 (ta b e:Addr) (old:Value) (W:yW) (hb:W.cell? b=some (.pointer (some e))) (ht:W.cell? ta=some old) (hf:W.frozen? ta=false) :
  (ReflectliteValue.set #[.agg #[.pointer (some 4¢184),.pointer (some ta),.int .u64 406],.agg #[.pointer (some 4¢184),.pointer (some b),.int .u64 150]]).run Tryz.prog W=.ok (.tuple #[]) (W.setCell ta (.pointer (some e))):=by
 obtain⟨g,h1,h2⟩:=rlv_set (.agg #[.pointer (some 4¢184),.pointer (some ta),.int .u64 406]) (.agg #[.pointer (some 4¢184),.pointer (some b),.int .u64 150])
 obtain⟨r,h3,h4⟩:=h2 184 ta 406 184 b 150 (by decide)
 rw [h1]
 simp only [Sem.run_bind,pt74a,pt74,Result.andThen,h3]
 simp [loadVar,isAgg,underlying,Tryz.underlying184,hb,Result.andThen,da74,h4,storeVar,Value.cells,storeCells,Addr.add]
 rw [run_store Tryz.prog W ta _ _ (by rfl)]
 simp [ht,hf]
theorem as_own (e t a:Addr) (old:Value) (w:yW) (ha:w.cell? a=some (.pointer (some t))) (ht0:w.cell? t=some old) (hf0:w.frozen? t=false) :
  Calls zG 196 #[.iface 184 (.pointer (some e)),.iface 223 (.pointer (some t)),.agg #[.pointer (some 4¢223),.pointer (some a),.int .u64 150],.iface 283 (.agg #[.pointer (some 4¢184)])] w fun ev w'=>ev=.returned (.bool true)∧∃ V,yD w V∧w'=V.setCell t (.pointer (some e)):=by
 have h50:=@run_callFunc_extern Tryz.prog 214 _ ReflectliteType.typeOf Tryz.func214 zK zK zK zK
 have h93:=@run_callFunc_extern Tryz.prog 193 _ (fun args=>ReflectliteValue.unpack (args.getD 0 (.tuple #[]))) Tryz.func193 zK zK zK zK
 have h118 := @run_callFunc_extern Tryz.prog 215 _ (ReflectliteValue.method (ReflectliteValue.valueError "reflectlite.Value.Elem" 0) ReflectliteValue.elem) Tryz.func215 zK zK zK zK
 have h119:=@run_callFunc_extern Tryz.prog 216 _ ReflectliteValue.set Tryz.func216 zK zK zK zK
 have h221 := @run_callFunc_extern Tryz.prog 281 _ (ReflectliteType.relation "AssignableTo" ReflectliteType.assignableTo) Tryz.func281 zK zK zK zK
 have mA:=mtAsg
 have tO:=tOf74
 have a74:=asg74_74
 have v74:=vOf74
 have b1:=below_new w (.cells #[.pointer (some 4¢223),.pointer (some a),.int .u64 150] 259)
 have s1:=size_alloc w (.cells #[.pointer (some 4¢223),.pointer (some a),.int .u64 150] 259)
 have b2:=below_new (w.alloc (.cells #[.pointer (some 4¢223),.pointer (some a),.int .u64 150] 259)) (.cells #[.pointer (some e)] 184)
 have n2:=heap_new (w.alloc (.cells #[.pointer (some 4¢223),.pointer (some a),.int .u64 150] 259)) (.cells #[.pointer (some e)] 184)
 have HBB:Hid (yD w ((w.alloc (.cells #[.pointer (some 4¢223),.pointer (some a),.int .u64 150] 259)).alloc (.cells #[.pointer (some e)] 184))):=below2 b1 b2
 have el:=elv128 a t (w.alloc (.cells #[.pointer (some 4¢223),.pointer (some a),.int .u64 150] 259)) (by rw [World.cell?_alloc_lt _ _ a (World.block_lt_of_cell? w a ha)]; exact ha)
 have st:=set74 t ⟨w§+1,0,none⟩ e old ((w.alloc (.cells #[.pointer (some 4¢223),.pointer (some a),.int .u64 150] 259)).alloc (.cells #[.pointer (some e)] 184)) (by rw [s1] at n2; exact cell_of n2 0)
  (by rw [World.cell?_alloc_lt _ _ t (by rw [s1]; exact Nat.lt_succ_of_lt (World.block_lt_of_cell? w t ht0)),World.cell?_alloc_lt _ _ t (World.block_lt_of_cell? w t ht0)]; exact ht0)
  (by rw [World.frozen?_alloc_old _ _ t (by rw [s1]; have:=World.block_lt_of_cell? w t ht0; omega),World.frozen?_alloc_old _ _ t (Nat.ne_of_lt (World.block_lt_of_cell? w t ht0))]; exact hf0)
 clear b1 s1 b2 n2
 go_enter Tryz.func196,Tryz.ntmps196
 go_wp2
 refine wp_loop_rounds 1 ?_
 rw [rounds_succ]
 go_wp2
 go_ret
 exact⟨rfl,_,HBB.out,rfl⟩
theorem asF_any (e t:Addr) (old:Value) (w:yW) (hg:w.cell? 1¢0=some (.iface 283 (.agg #[.pointer (some 4¢85)]))) (ht0:w.cell? t=some old) (hf0:w.frozen? t=false) :
  Calls zG 163 #[.iface 184 (.pointer (some e)),.iface 223 (.pointer (some t))] w fun ev w'=>ev=.returned (.bool true)∧∃ V,yD w V∧w'=V.setCell t (.pointer (some e)):=by
 have h93:=@run_callFunc_extern Tryz.prog 193 _ (fun args=>ReflectliteValue.unpack (args.getD 0 (.tuple #[]))) Tryz.func193 zK zK zK zK
 have h94 := @run_callFunc_extern Tryz.prog 194 _ (ReflectliteValue.methodAny (ReflectliteValue.valueError "reflectlite.Value.Type" 0) (fun t _ _ _ => ReflectliteType.toType t)) Tryz.func194 zK zK zK zK
 have h95 := @run_callFunc_extern Tryz.prog 195 _ (ReflectliteValue.method (ReflectliteValue.valueError "reflectlite.Value.IsNil" 0) ReflectliteValue.isNil) Tryz.func195 zK zK zK zK
 have h210:=@run_callFunc_extern Tryz.prog 271 _ (ReflectliteType.abiMethod fun t=>do pure (zU (← Rtype.kind t))) Tryz.func271 zK zK zK zK
 have h223:=@run_callFunc_extern Tryz.prog 283 _ (ReflectliteType.method ReflectliteType.elem) Tryz.func283 zK zK zK zK
 have h224 := @run_callFunc_extern Tryz.prog 284 _ (ReflectliteType.relation "Implements" ReflectliteType.implements_) Tryz.func284 zK zK zK zK
 have mK:=mtKind
 have mE:=mtElem
 have mI:=mtImpl
 have v128:=vOf128
 have y128:=ty128
 have k128:=kd128
 have k74:=kd74
 have e128:=elm128
 have i74:=imp74
 have l0:=World.block_lt_of_cell? w 1¢0 hg
 have lt:=World.block_lt_of_cell? w t ht0
 have b1:=below_new w (.cells #[.pointer (some t)] 223)
 have s1:=size_alloc w (.cells #[.pointer (some t)] 223)
 have n1:=heap_new w (.cells #[.pointer (some t)] 223)
 have b2:=below_new (w.alloc (.cells #[.pointer (some t)] 223)) (.cells #[.pointer (some 4¢223),zP w§,.int .u64 150] 259)
 have HBB:Hid (yD w ((w.alloc (.cells #[.pointer (some t)] 223)).alloc (.cells #[.pointer (some 4¢223),zP w§,.int .u64 150] 259))):=below2 b1 b2
 have ca:((w.alloc (.cells #[.pointer (some t)] 223)).alloc (.cells #[.pointer (some 4¢223),zP w§,.int .u64 150] 259)).cell? w§¢0=some (.pointer (some t)):=cell_of ((b2.block _ (by omega)).trans n1) 0
 have hg2:((w.alloc (.cells #[.pointer (some t)] 223)).alloc (.cells #[.pointer (some 4¢223),zP w§,.int .u64 150] 259)).cell? 1¢0=some (.iface 283 (.agg #[.pointer (some 4¢85)])):=by
  rw [HBB.out.cell l0]; exact hg
 have n8:=nil128 w§¢0 t ((w.alloc (.cells #[.pointer (some t)] 223)).alloc (.cells #[.pointer (some 4¢223),zP w§,.int .u64 150] 259)) ca
 have cS:=as_own e t w§¢0 old ((w.alloc (.cells #[.pointer (some t)] 223)).alloc (.cells #[.pointer (some 4¢223),zP w§,.int .u64 150] 259)) ca (by rw [HBB.out.cell lt]; exact ht0) (by rw [World.frozen?_alloc_old _ _ t (by rw [s1]; omega),World.frozen?_alloc_old _ _ t (by omega)]; exact hf0)
 clear b1 s1 n1 b2 ca
 go_enter Tryz.func163,Tryz.ntmps163
 go_wp2_with fail
 refine cS.mono ?_
 rintro ev w' ⟨rfl,V,hV,rfl⟩
 have HV:Hid (yD w V):=below2 HBB.out hV
 clear cS hV
 go_wp2_with fail
 go_ret
 exact⟨rfl,V,HV.out,rfl⟩
theorem vOf48 (n:Int) (w:yW):(ReflectliteValue.unpack (.iface 41 (zI n))).run Tryz.prog w=.ok (.agg #[.pointer (some 4¢41),zP w§,.int .u64 130]) (w.alloc (.cells #[zI n] 41)):=by kernel_rfl
theorem ty161 (a : Addr) (w : yW) : (ReflectliteValue.methodAny (ReflectliteValue.valueError "reflectlite.Value.Type" 0) (fun t _ _ _ => ReflectliteType.toType t) #[.agg #[.pointer (some ⟨4, 222, none⟩), .pointer (some a), .int .u64 150]]).run Tryz.prog w = .ok (.iface 283 (.agg #[.pointer (some ⟨4, 222, none⟩)])) w := by kernel_rfl
theorem kd161 (w:yW):((ReflectliteType.abiMethod fun t=>(fun a:Nat=>Value.int IntKind.u8 (a:Int)) <$> Rtype.kind t) #[.pointer (some 4¢222)]).run Tryz.prog w=.ok (zU 22) w:=by kernel_rfl
theorem kd48 (w:yW):((ReflectliteType.abiMethod fun t=>(fun a:Nat=>Value.int IntKind.u8 (a:Int)) <$> Rtype.kind t) #[.pointer (some 4¢41)]).run Tryz.prog w=.ok (zU 2) w:=by kernel_rfl
theorem pt161 (a:Addr) (w:yW):(ReflectliteValue.parts (.agg #[.pointer (some 4¢222),.pointer (some a),.int .u64 150])).run Tryz.prog w=.ok (some (222,a,150)) w:=by kernel_rfl
theorem pt48 (a:Addr) (w:yW):(ReflectliteValue.parts (.agg #[.pointer (some 4¢41),.pointer (some a),.int .u64 130])).run Tryz.prog w=.ok (some (41,a,130)) w:=by kernel_rfl
theorem pt48a (a:Addr) (w:yW):(ReflectliteValue.parts (.agg #[.pointer (some 4¢41),.pointer (some a),.int .u64 386])).run Tryz.prog w=.ok (some (41,a,386)) w:=by kernel_rfl
theorem el161 (w:yW):(Rtype.elem? 222).run Tryz.prog w=.ok (some 41) w:=by kernel_rfl
theorem mk48 (p:Addr) (w:yW):(ReflectliteValue.mk 41 p ReflectliteValue.flagAddr).run Tryz.prog w=.ok (.agg #[.pointer (some 4¢41),.pointer (some p),.int .u64 386]) w:=by kernel_rfl
theorem da48 (w:yW):(Rtype.directlyAssignable 41 41).run Tryz.prog w=.ok true w:=by kernel_rfl
theorem nil161 (a p:Addr) (W:yW) (ha:W.cell? a=some (.pointer (some p))) :
  (ReflectliteValue.method (ReflectliteValue.valueError "reflectlite.Value.IsNil" 0) ReflectliteValue.isNil #[.agg #[.pointer (some ⟨4, 222, none⟩), .pointer (some a), .int .u64 150]]).run Tryz.prog W = .ok (.bool false) W := by
 obtain ⟨g, h1, h2⟩ := rl_parts (ReflectliteValue.valueError "reflectlite.Value.IsNil" 0) ReflectliteValue.isNil (.agg #[.pointer (some ⟨4, 222, none⟩), .pointer (some a), .int .u64 150])
 rw [h1,Sem.run_bind,pt161]
 simp [Result.andThen,h2,ReflectliteValue.isNil,loadVar,isAgg,underlying,Tryz.underlying222,ha]
theorem elv161 (a p:Addr) (W:yW) (ha:W.cell? a=some (.pointer (some p))) :
  (ReflectliteValue.method (ReflectliteValue.valueError "reflectlite.Value.Elem" 0) ReflectliteValue.elem #[.agg #[.pointer (some ⟨4, 222, none⟩), .pointer (some a), .int .u64 150]]).run Tryz.prog W = .ok (.agg #[.pointer (some ⟨4, 41, none⟩), .pointer (some p), .int .u64 386]) W := by
 obtain ⟨g, h1, h2⟩ := rl_parts (ReflectliteValue.valueError "reflectlite.Value.Elem" 0) ReflectliteValue.elem (.agg #[.pointer (some ⟨4, 222, none⟩), .pointer (some a), .int .u64 150])
 rw [h1,Sem.run_bind,pt161]
 simp [Result.andThen,h2,ReflectliteValue.elem,loadVar,isAgg,underlying,Tryz.underlying222,ha,el161,mk48]
theorem set48 (ta b:Addr) (n:Int) (old:Value) (W:yW) (hb:W.cell? b=some (zI n)) (ht:W.cell? ta=some old) (hf:W.frozen? ta=false) :
  (ReflectliteValue.set #[.agg #[.pointer (some 4¢41),.pointer (some ta),.int .u64 386],.agg #[.pointer (some 4¢41),.pointer (some b),.int .u64 130]]).run Tryz.prog W=.ok (.tuple #[]) (W.setCell ta (zI n)):=by
 obtain⟨g,h1,h2⟩:=rlv_set (.agg #[.pointer (some 4¢41),.pointer (some ta),.int .u64 386]) (.agg #[.pointer (some 4¢41),.pointer (some b),.int .u64 130])
 obtain⟨r,h3,h4⟩:=h2 41 ta 386 41 b 130 (by decide)
 rw [h1]
 simp only [Sem.run_bind,pt48a,pt48,Result.andThen,h3]
 simp [loadVar,isAgg,underlying,Tryz.underlying41,hb,Result.andThen,da48,h4,storeVar,Value.cells,storeCells,Addr.add]
 rw [run_store Tryz.prog W ta _ _ (by rfl)]
 simp [ht,hf]
theorem no74_As (v:Value) (w:yW):(Instr.typeAssert (.iface 184 v) 85 288 true).run Tryz.prog w=.ok (.tuple #[.nilIface,.bool false]) w:=run_typeAssert_lacksB Tryz.underlying288 zK zK v 85 w
theorem no48_As (v:Value) (w:yW):(Instr.typeAssert (.iface 41 v) 85 288 true).run Tryz.prog w=.ok (.tuple #[.nilIface,.bool false]) w:=run_typeAssert_lacksB Tryz.underlying288 zK zK v 85 w
theorem is74_Un (v:Value) (w:yW):(Instr.typeAssert (.iface 184 v) 85 291 true).run Tryz.prog w=.ok (.tuple #[.iface 184 v,.bool true]) w:=by kernel_rfl
theorem no48_Un (v:Value) (w:yW):(Instr.typeAssert (.iface 41 v) 85 291 true).run Tryz.prog w=.ok (.tuple #[.nilIface,.bool false]) w:=run_typeAssert_lacksB Tryz.underlying291 zK zK v 85 w
theorem no48_Uns (v:Value) (w:yW):(Instr.typeAssert (.iface 41 v) 85 293 true).run Tryz.prog w=.ok (.tuple #[.nilIface,.bool false]) w:=run_typeAssert_lacksB Tryz.underlying293 zK zK v 85 w
theorem mtUn (p : Value) (w : yW) : (Go.method 443 184 p "Unwrap").run Tryz.prog w = .ok (276, p) w := by kernel_rfl
end Go.Proofs.YtfbjofnaghjmeaaGreatDoor
