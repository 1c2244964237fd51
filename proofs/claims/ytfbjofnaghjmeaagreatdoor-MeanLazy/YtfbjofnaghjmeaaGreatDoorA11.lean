import Derived.Test.YtfbjofnaghjmeaaGreatDoorA9
import Derived.OrdersHeld
import Derived.Deep.RegionHeld
namespace Go.Proofs.YtfbjofnaghjmeaaGreatDoor
open Go.RowKit
set_option linter.unusedVariables false
theorem QeG:(Tryz.prog.info? 129).map (fun i=>(i.zero,i.size,i.bytes))=some (some (.agg zx),2,24):=by kernel_rfl
theorem QeE:(Tryz.prog.info? 121).map (fun i=>(i.zero,i.size,i.bytes))=some (some (.agg (zE 0)),36,320):=by kernel_rfl
def Cl (V:yW) (N i:Nat) (v:Value):Prop:=∃ (cs:Array Value) (T:Nat),V.heap[N]? = (zC cs T)∧cs[i]? = some v
theorem Cl.hid {V:yW}{N i:Nat}{v:Value}(h:Cl V N i v):Hid (Cl V N i v):=h
theorem Cl.blk {V V':yW}{N i:Nat}{v:Value}(h:Cl V N i v) (k:V'.heap[N]? = V.heap[N]?):Cl V' N i v:=by
 obtain⟨cs,T,h1,h2⟩:=h
 exact⟨cs,T,k.trans h1,h2⟩
theorem Cl.lt {V:yW}{N i:Nat}{v:Value}(h:Cl V N i v):N < V§:=by
 obtain⟨cs,T,h1,h2⟩:=h
 exact (zJ h1).1
theorem Cl.cell {V:yW}{N i:Nat}{v:Value}(h:Cl V N i v):V.cell? N¢i=some v:=by
 obtain⟨cs,T,h1,h2⟩:=h
 rw [Qa h1 i];exact h2
theorem Cl.mv {V V':yW}{N i b:Nat}{v:Value}(h:Cl V N i v) (hm:Mv V V' (fun k=>k=b)) (hb:b≠N):Cl V' N i v:=h.blk (hm.block _ h.lt (fun e=>hb e.symm))
theorem Cl.on {V V':yW}{N i:Nat}{v:Value}(h:Cl V N i v) (k:yD V V'):Cl V' N i v:=h.blk (k.block _ h.lt)
def clen (N i:Nat) (w:yW):Nat:=slen ((w.cell? N¢i).getD (.bool false))
theorem Cl.clen {V:yW}{N i:Nat}{a:Option Addr}{n c:Nat}(h:Cl V N i (.slice a n c)):clen N i V=n:=by
 unfold Go.Proofs.YtfbjofnaghjmeaaGreatDoor.clen
 rw [h.cell]
 rfl
theorem QeF:(Tryz.prog.info? 100).map (fun i=>(i.zero,i.size,i.bytes))=some (some (.agg zh),10,104):=by kernel_rfl
theorem QeH:(Tryz.prog.info? 102).map (fun i=>(i.zero,i.size,i.bytes))=some (some (.agg ze),11,104):=by kernel_rfl
theorem Qhh:(Tryz.prog.info? 69).map (fun i=>(i.zero,i.size,i.bytes))=some (some (.agg zm),3,48):=by kernel_rfl
theorem Qdp:(Tryz.prog.info? 123).map (·.size)=some 3:=by kernel_rfl
theorem Qn {w V:yW}(h:yD w V) {R:Nat}(hR:w§≤R) (cs:Array Value):yD w (V.setRow R cs):=by
 have m:Mv w V (fun _=>False):=Mv.ofBelow h
 have hsz:(V.setRow R cs)§=V§:=by unfold World.setRow;simp
 have m2:Mv w (V.setRow R cs) (fun _=>False):=⟨m.os,m.tape,m.output,by rw [hsz];exact m.size,fun k hk hn'=>by
  rw [QV _ _ _ (show k≠R by omega)]
  exact m.block k hk hn'⟩
 exact m2.below (Nat.le_refl _) (fun _ e=>e.elim)
structure XS (w:yW) (Z:Array Value) (T:Nat) (V:yW):Prop where
 B:yD w V
 z:V.heap[w§]? = (zC Z T)
 f:V.heap[w§+1]? = (zC zi 123)
theorem XS.hid {w V:yW}{Z:Array Value}{T:Nat}(h:XS w Z T V):Hid (XS w Z T V):=h
theorem XS.new (w:yW) (Z:Array Value) (T:Nat):XS w Z T ((zA w Z T).alloc (.cells zi 123)):=by
 have b1:=Qb w (.cells Z T)
 have b2:=Qb (zA w Z T) (.cells zi 123)
 have n2:=Qc (zA w Z T) (.cells zi 123)
 have s1:=Qe w (.cells Z T)
 rw [s1] at n2
 exact⟨Qd b1 b2,(b2.block _ zY).trans (Qc w (.cells Z T)),n2⟩
theorem XS.mv {w V V':yW}{Z:Array Value}{T:Nat}(h:XS w Z T V) {F:Nat→Prop}(m:Mv V V' F) (hF:∀ k,F k→w§+1 < k):XS w Z T V':=by
 have hz:=(zJ h.z).1
 have hf:=(zJ h.f).1
 have hs:=h.B.size
 refine⟨?_,(m.block _ hz (fun e=>by have:=hF _ e;omega)).trans h.z,(m.block _ hf (fun e=>by have:=hF _ e;omega)).trans h.f⟩
 have m1:Mv w V (fun k=>w§+1 < k):=Mv.ofBelow h.B
 exact (m1.trans m (fun k e=>.inl (hF k e))).below (Nat.le_refl _) (fun k e=>by omega)
theorem XS.on {w V V':yW}{Z:Array Value}{T:Nat}(h:XS w Z T V) (k:yD V V'):XS w Z T V':=h.mv (F:=fun _=>False) (Mv.ofBelow k) (fun _ e=>e.elim)
theorem Qaf {P:Program}{fn:Func}{p u:Tmp}{ty ty2:TypeId}(h:fn.results=#[.cell p ty,.cell u ty2]) (tmps:Array Value) (w:yW) (g g2:Nat) (t t2:TypeId) (cs cs2:Array Value) (fr fr2:Nat × Nat) (d d2:TypeDesc)
  (hp:tmps.getD p undef=zP g) (hg:w.heap[g]? = some (.cells cs t fr))
  (hu:P.underlying ty=some d) (hd:(match d with | .struct _ | .array _ _=>true | _=>false)=true) (hi:(P.info? ty).map (·.size)=some cs.size)
  (hp2:tmps.getD u undef=zP g2) (hg2:w.heap[g2]? = some (.cells cs2 t2 fr2))
  (hu2:P.underlying ty2=some d2) (hd2:(match d2 with | .struct _ | .array _ _=>true | _=>false)=true) (hi2:(P.info? ty2).map (·.size)=some cs2.size) :
  (results fn tmps).run P w=.ok (.tuple #[.agg cs,.agg cs2]) w:=by
 have hp':tmps[p]?.getD undef=zP g:=by simpa using hp
 have hp2':tmps[u]?.getD undef=zP g2:=by simpa using hp2
 simp [results,h,hp',hp2',asAddr,run_loadVar_row w g t ty cs fr d hg hu hd hi,run_loadVar_row w g2 t2 ty2 cs2 fr2 d2 hg2 hu2 hd2 hi2]
theorem QW (o:Nat):∀ (l:List Value) (k:Nat) (a:Array Value),((l.zipIdx k).foldl (fun cs (q:Value × Nat)=>cs.setIfInBounds (o+q.2) q.1) a).size=a.size
 | [],k,a=>rfl
 | c :: l,k,a=>by
  simp only [List.zipIdx_cons,List.foldl_cons]
  rw [QW o l (k+1)]
  simp
theorem J7 (o:Nat):∀ (l:List Value) (k:Nat) (a:Array Value) (i:Nat),i < a.size→((l.zipIdx k).foldl (fun cs (q:Value × Nat)=>cs.setIfInBounds (o+q.2) q.1) a)[i]? = if o+k≤i∧i < o+k+l.length then l[i - (o+k)]? else a[i]?
 | [],k,a,i,hi=>by
  rw [if_neg (by simp)]
  rfl
 | c :: l,k,a,i,hi=>by
  simp only [List.zipIdx_cons,List.foldl_cons]
  rw [J7 o l (k+1) _ i (by simpa using hi)]
  simp only [List.length_cons]
  by_cases h1:o+(k+1)≤i∧i < o+(k+1)+l.length
  ·rw [if_pos h1,if_pos zY,show i - (o+k)=(i - (o+(k+1)))+1 by omega]
   rfl
  ·rw [if_neg h1,Array.getElem?_setIfInBounds]
   by_cases h2:o+k=i
   ·subst h2
    rw [if_pos rfl,if_pos hi,if_pos zY,Nat.sub_self]
    rfl
   ·rw [if_neg h2,if_neg zY]
theorem JK (o:Nat) (cs a:Array Value):cs.zipIdx.foldl (fun (x:Array Value) (q:Value × Nat)=>x.setIfInBounds (o+q.2) q.1) a=(cs.toList.zipIdx 0).foldl (fun (x:Array Value) (q:Value × Nat)=>x.setIfInBounds (o+q.2) q.1) a:=by
 obtain⟨l⟩:=cs
 rw [← Array.foldl_toList]
 simp
theorem QeQ (n:Nat) (c d a:Array Value) (hc:c.size=n) (hd:d.size=n) (h:a.size=2 * n):d.zipIdx.foldl (fun (x:Array Value) (q:Value × Nat)=>x.setIfInBounds (1 * n+q.2) q.1) (c.zipIdx.foldl (fun (x:Array Value) (q:Value × Nat)=>x.setIfInBounds (0 * n+q.2) q.1) a)=c ++ d:=by
 rw [JK,JK]
 apply Array.ext_getElem?
 intro i
 by_cases hi:i < a.size
 ·rw [J7 (1 * n) _ 0 _ i (by rw [QW];exact hi),J7 (0 * n) _ 0 a i hi]
  simp only [Array.length_toList,hc,hd]
  by_cases h1:i < n
  ·rw [if_neg zY,if_pos zY,Array.getElem?_append_left zY]
   simp
  ·rw [if_pos zY,Array.getElem?_append_right zY]
   simp [hc]
 ·rw [Array.getElem?_eq_none (by rw [QW,QW];omega),Array.getElem?_eq_none (by simp;omega)]
theorem QaN (n:Nat) (c d e a:Array Value) (hc:c.size=n) (hd:d.size=n) (he:e.size=n) (h:a.size=3 * n):e.zipIdx.foldl (fun (x:Array Value) (q:Value × Nat)=>x.setIfInBounds (2 * n+q.2) q.1) (d.zipIdx.foldl (fun (x:Array Value) (q:Value × Nat)=>x.setIfInBounds (1 * n+q.2) q.1) (c.zipIdx.foldl (fun (x:Array Value) (q:Value × Nat)=>x.setIfInBounds (0 * n+q.2) q.1) a))=c ++ d ++ e:=by
 rw [JK,JK,JK]
 apply Array.ext_getElem?
 intro i
 by_cases hi:i < a.size
 ·rw [J7 (2 * n) _ 0 _ i (by rw [QW,QW];exact hi),J7 (1 * n) _ 0 _ i (by rw [QW];exact hi),J7 (0 * n) _ 0 a i hi]
  simp only [Array.length_toList,hc,hd,he]
  by_cases h1:i < n
  ·rw [if_neg zY,if_neg zY,if_pos zY,Array.getElem?_append_left (by simp;omega),Array.getElem?_append_left zY]
   simp
  ·by_cases h2:i < 2 * n
   ·rw [if_neg zY,if_pos zY,Array.getElem?_append_left (by simp;omega),Array.getElem?_append_right zY]
    simp [hc]
   ·rw [if_pos zY,Array.getElem?_append_right (by simp;omega)]
    simp [hc,hd]
    congr 1
    omega
 ·rw [Array.getElem?_eq_none (by rw [QW,QW,QW];omega),Array.getElem?_eq_none (by simp;omega)]
theorem JY {w:yW}{ops:Array Oper}{rest:List Oper}{o:Oper}{a:Act}{Q:Exit→Act→yW→Prop}(hgd:o.guard=none) (t e:TypeId) (x y:Operand) (ho:o.op=.buildSlice t 2 #[(0,x),(1,y)])
  (cs ds:Array Value) (hx:a.eval x=.agg cs) (hy:a.eval y=.agg ds) (n:Nat) (z:Value) (ht:Tryz.prog.underlying t=some (.slice e)) (by_:Nat) (hi:(Tryz.prog.info? e).map (fun i=>(i.zero,i.size,i.bytes))=some (some z,n,by_)) (hz:z.cells.size=n) (hn:cs.size=n) (hm:ds.size=n) (h0:0 < n) (h1:n≤1000)
  (h:wpList zG ops Q rest (a.put o.dst (.slice (some w§¢0) 2 2)) (zA w (cs ++ ds) e)):wpList zG ops Q (o :: rest) a w:=by
 refine wpList_plain hgd fun Kk hK=>?_
 obtain⟨i0,hi0,hz0,hz1,hz2⟩:=info_parts hi
 have hu:=run_underlying ht w
 have hf:Instr.fill (fun i=>some (i * n,n)) ((Array.range (2 * n)).map (z.cells[· % z.cells.size]!)) [(0,.agg cs),(1,.agg ds)]=some (cs ++ ds):=by
  obtain⟨A,hA⟩:∃ A,(Array.range (2 * n)).map (z.cells[· % z.cells.size]!)=A:=jV
  have hAs:A.size=2 * n:=by rw [← hA];simp
  rw [hA]
  have e3:Instr.fill (fun i=>some (i * n,n)) A [(0,.agg cs),(1,.agg ds)]=if (decide (cs.size≠n) || decide (0 * n+cs.size > A.size))=true then none else Instr.fill (fun i=>some (i * n,n)) (cs.zipIdx.foldl (fun (x:Array Value) (q:Value × Nat)=>x.setIfInBounds (0 * n+q.2) q.1) A) [(1,.agg ds)]:=rfl
  rw [e3,if_neg (by simp;omega)]
  obtain⟨B,hB⟩:∃ B,cs.zipIdx.foldl (fun (x:Array Value) (q:Value × Nat)=>x.setIfInBounds (0 * n+q.2) q.1) A=B:=jV
  have hBs:B.size=2 * n:=by rw [← hB,JK,QW];exact hAs
  rw [hB]
  have e4:Instr.fill (fun i=>some (i * n,n)) B [(1,.agg ds)]=if (decide (ds.size≠n) || decide (1 * n+ds.size > B.size))=true then none else some (ds.zipIdx.foldl (fun (x:Array Value) (q:Value × Nat)=>x.setIfInBounds (1 * n+q.2) q.1) B):=rfl
  rw [e4,if_neg (by simp;omega),← hB]
  exact congrArg some (QeQ n cs ds _ hn hm hAs)
 have hr:(Instr.buildSlice t 2 #[(0,.agg cs),(1,.agg ds)]).run zG w=.ok (.slice (some w§¢0) 2 2) (zA w (cs ++ ds) e):=by
  have e1:¬ 2 * n > 16777216:=by omega
  have e2:¬ 2 * n=0:=by omega
  simp [Instr.buildSlice,Sem.run_bind,hu,sizeOf,zeroValue,typeInfo,hi0,hz0,hz1,e1,e2,hf,newRow,newObj]
  rfl
 unfold Oper.wp execOp
 simp only [ho,List.map_toArray,List.map_cons,List.map_nil,hx,hy,Sem.run_bind,hr,Result.andThen_ok]
 exact hK _ _ h
theorem XH {w:yW}{ops:Array Oper}{rest:List Oper}{o:Oper}{a:Act}{Q:Exit→Act→yW→Prop}(hgd:o.guard=none) (t e:TypeId) (x y u:Operand) (ho:o.op=.buildSlice t 3 #[(0,x),(1,y),(2,u)])
  (cs ds es:Array Value) (hx:a.eval x=.agg cs) (hy:a.eval y=.agg ds) (hu3:a.eval u=.agg es) (n:Nat) (z:Value) (ht:Tryz.prog.underlying t=some (.slice e)) (by_:Nat) (hi:(Tryz.prog.info? e).map (fun i=>(i.zero,i.size,i.bytes))=some (some z,n,by_)) (hz:z.cells.size=n) (hn:cs.size=n) (hm:ds.size=n) (hl:es.size=n) (h0:0 < n) (h1:n≤1000)
  (h:wpList zG ops Q rest (a.put o.dst (.slice (some w§¢0) 3 3)) (zA w (cs ++ ds ++ es) e)):wpList zG ops Q (o :: rest) a w:=by
 refine wpList_plain hgd fun Kk hK=>?_
 obtain⟨i0,hi0,hz0,hz1,hz2⟩:=info_parts hi
 have hu:=run_underlying ht w
 have hf:Instr.fill (fun i=>some (i * n,n)) ((Array.range (3 * n)).map (z.cells[· % z.cells.size]!)) [(0,.agg cs),(1,.agg ds),(2,.agg es)]=some (cs ++ ds ++ es):=by
  obtain⟨A,hA⟩:∃ A,(Array.range (3 * n)).map (z.cells[· % z.cells.size]!)=A:=jV
  have hAs:A.size=3 * n:=by rw [← hA];simp
  rw [hA]
  have e3:Instr.fill (fun i=>some (i * n,n)) A [(0,.agg cs),(1,.agg ds),(2,.agg es)]=if (decide (cs.size≠n) || decide (0 * n+cs.size > A.size))=true then none else Instr.fill (fun i=>some (i * n,n)) (cs.zipIdx.foldl (fun (x:Array Value) (q:Value × Nat)=>x.setIfInBounds (0 * n+q.2) q.1) A) [(1,.agg ds),(2,.agg es)]:=rfl
  rw [e3,if_neg (by simp;omega)]
  obtain⟨B,hB⟩:∃ B,cs.zipIdx.foldl (fun (x:Array Value) (q:Value × Nat)=>x.setIfInBounds (0 * n+q.2) q.1) A=B:=jV
  have hBs:B.size=3 * n:=by rw [← hB,JK,QW];exact hAs
  rw [hB]
  have e4:Instr.fill (fun i=>some (i * n,n)) B [(1,.agg ds),(2,.agg es)]=if (decide (ds.size≠n) || decide (1 * n+ds.size > B.size))=true then none else Instr.fill (fun i=>some (i * n,n)) (ds.zipIdx.foldl (fun (x:Array Value) (q:Value × Nat)=>x.setIfInBounds (1 * n+q.2) q.1) B) [(2,.agg es)]:=rfl
  rw [e4,if_neg (by simp;omega)]
  obtain⟨C,hC⟩:∃ C,ds.zipIdx.foldl (fun (x:Array Value) (q:Value × Nat)=>x.setIfInBounds (1 * n+q.2) q.1) B=C:=jV
  have hCs:C.size=3 * n:=by rw [← hC,JK,QW];exact hBs
  rw [hC]
  have e5:Instr.fill (fun i=>some (i * n,n)) C [(2,.agg es)]=if (decide (es.size≠n) || decide (2 * n+es.size > C.size))=true then none else some (es.zipIdx.foldl (fun (x:Array Value) (q:Value × Nat)=>x.setIfInBounds (2 * n+q.2) q.1) C):=rfl
  rw [e5,if_neg (by simp;omega),← hC,← hB]
  exact congrArg some (QaN n cs ds es _ hn hm hl hAs)
 have hr:(Instr.buildSlice t 3 #[(0,.agg cs),(1,.agg ds),(2,.agg es)]).run zG w=.ok (.slice (some w§¢0) 3 3) (zA w (cs ++ ds ++ es) e):=by
  have e1:¬ 3 * n > 16777216:=by omega
  have e2:¬ 3 * n=0:=by omega
  simp [Instr.buildSlice,Sem.run_bind,hu,sizeOf,zeroValue,typeInfo,hi0,hz0,hz1,e1,e2,hf,newRow,newObj]
  rfl
 unfold Oper.wp execOp
 simp only [ho,List.map_toArray,List.map_cons,List.map_nil,hx,hy,hu3,Sem.run_bind,hr,Result.andThen_ok]
 exact hK _ _ h
structure Bx (W v:yW) (T:TypeId) (Z:Array Value) (c:Fin 3→Array Value) (b s:Fin 3→Bool) (u:Fin 3→Value):Prop where
 B:yD W v
 M:∀ k,b k=true→∃ p,u k=zP p∧W§≤p∧v.heap[p]? = (zC (if s k then c k else Z) T)
 D:∀ k j,k≠j→b k=true→b j=true→u k≠u j
 O:∀ k,s k=true→b k=true
def upd {α:Type}(f:Fin 3→α) (k:Fin 3) (x:α):Fin 3→α:=fun j=>if j=k then x else f j
theorem Xa {α:Type}(f:Fin 3→α) (k:Fin 3) (x:α):upd f k x k=x:=if_pos rfl
theorem JR {α:Type}(f:Fin 3→α) {k j:Fin 3}(x:α) (h:j≠k):upd f k x j=f j:=if_neg h
theorem Bx.make {W v:yW}{T:TypeId}{Z:Array Value}{c:Fin 3→Array Value}{b s:Fin 3→Bool}{u:Fin 3→Value}(h:Bx W v T Z c b s u) (k:Fin 3) (hk:b k=false) :
  Bx W (zA v Z T) T Z c (upd b k true) s (upd u k (zP v§)):=by
 have hs:s k=false:=by
  cases e:s k with
  | false=>rfl
  | true=>have:=h.O k e;rw [hk] at this;exact this.symm
 refine⟨Qd h.B (Qb _ _),fun j hj=>?_,fun i j hij hi hj=>?_,fun j hj=>?_⟩
 ·by_cases e:j=k
  ·subst e
   rw [Xa,hs]
   exact⟨_,rfl,h.B.size,Qc _ _⟩
  ·rw [JR _ _ e] at hj ⊢
   obtain⟨p,h1,h2,h3⟩:=h.M j hj
   exact⟨p,h1,h2,((Qb v (.cells Z T)).block p (zJ h3).1).trans h3⟩
 ·have far:∀ j,b j=true→u j≠zP v§:=fun j hj e=>by
   obtain⟨p,h1,h2,h3⟩:=h.M j hj
   have:=(zJ h3).1
   rw [h1] at e
   injection e with e
   injection e with e
   injection e with e
   omega
  by_cases ei:i=k
  ·have ej:j≠k:=fun e=>hij (ei.trans e.symm)
   rw [JR _ _ ej] at hj ⊢
   rw [ei,Xa]
   exact fun e=>far j hj e.symm
  ·rw [JR _ _ ei] at hi ⊢
   by_cases ej:j=k
   ·rw [ej,Xa]
    exact far i hi
   ·rw [JR _ _ ej] at hj ⊢
    exact h.D i j hij hi hj
 ·by_cases e:j=k
  ·rw [e,Xa]
  ·rw [JR _ _ e]
   exact h.O j hj
theorem Bx.fill {W v:yW}{T:TypeId}{Z:Array Value}{c:Fin 3→Array Value}{b s:Fin 3→Bool}{u:Fin 3→Value}(h:Bx W v T Z c b s u) (k:Fin 3) {p:Nat}(hb:b k=true) (hu:u k=zP p) (hp:W§≤p) {old:Array Value}(ho:v.heap[p]? = (zC old T)) :
  Bx W (v.setRow p (c k)) T Z c b (upd s k true) u:=by
 refine⟨Qn h.B hp _,fun j hj=>?_,h.D,fun j hj=>?_⟩
 ·by_cases e:j=k
  ·subst e
   rw [Xa]
   exact⟨p,hu,hp,setRow_heap _ _ _ _ _ _ ho⟩
  ·rw [JR _ _ e]
   obtain⟨q,h1,h2,h3⟩:=h.M j hj
   refine⟨q,h1,h2,(setRow_other _ _ _ _ fun e2=>?_).trans h3⟩
   exact h.D j k e hj hb (by rw [h1,hu,e2])
 ·by_cases e:j=k
  ·rw [e];exact hb
  ·rw [JR _ _ e] at hj
   exact h.O j hj
def cntF (b s:Fin 3→Bool):Nat:=(if b 0 then 0 else 1)+(if b 1 then 0 else 1)+(if b 2 then 0 else 1)+(if s 0 then 0 else 1)+(if s 1 then 0 else 1)+(if s 2 then 0 else 1)
theorem fin3 (k:Fin 3):k=0∨k=1∨k=2:=by
 obtain⟨k,hk⟩:=k
 rcases k with _ | _ | _ | k
 ·exact .inl rfl
 ·exact .inr (.inl rfl)
 ·exact .inr (.inr rfl)
 ·omega
theorem cnt_b (b s:Fin 3→Bool) (k:Fin 3) (h:b k=false):cntF (upd b k true) s+1=cntF b s:=by
 rcases fin3 k with rfl | rfl | rfl <;> simp [cntF,upd,h] <;> omega
theorem Qhk (b s:Fin 3→Bool) (k:Fin 3) (h:s k=false):cntF b (upd s k true)+1=cntF b s:=by
 rcases fin3 k with rfl | rfl | rfl <;> simp [cntF,upd,h] <;> omega
theorem boxes3 {P:Program}{md:Region.Mode}{ops:Array Oper}{Q:Exit→Act→yW→Prop}{W:yW}(T:TypeId) (Z:Array Value) (c:Fin 3→Array Value)
  (L:(Fin 3→Bool)→(Fin 3→Bool)→Array Bool) (A S:Fin 3→Nat) (oA oS:Fin 3→Oper) (mk:(Fin 3→Value)→Act) (x y:Fin 3→Operand)
  (hA:∀ k,ops[A k]? = some (oA k)) (hS:∀ k,ops[S k]? = some (oS k)) (gA:∀ k,(oA k).guard=none) (gS:∀ k,(oS k).guard=none)
  (eA:∀ k e w,(execOp e (oA k)).run P w=.ok (.value (zP w§)) (zA w Z T))
  (eS:∀ k,(oS k).op=.store T (x k) (y k)) (ex:∀ k u,(mk u).eval (x k)=u k) (ey:∀ k u,(mk u).eval (y k)=.agg (c k))
  (pA:∀ k u v,(mk u).put (oA k).dst v=mk (upd u k v)) (pS:∀ k u v,(mk u).put (oS k).dst v=mk u)
  (lA:∀ k b s,(L b s).setIfInBounds (A k) true=L (upd b k true) s) (lS:∀ k b s,(L b s).setIfInBounds (S k) true=L b (upd s k true))
  (hr:∀ b s i,(∀ k,s k=true→b k=true)→i ∈ Region.ready md ops (L b s)→∃ k,(i=A k∧b k=false)∨(i=S k∧s k=false∧b k=true))
  (he:∀ b s,(∀ k,s k=true→b k=true)→Region.ready md ops (L b s) = []→∀ k,s k=true)
  (hc:∀ k,(P.info? T).map (·.size)=some (c k).size) (hz:∀ k,Z.size=(c k).size) (h1:∀ k,(c k).all (·.oneCell')=true)
  (hQ:∀ u v,Bx W v T Z c (fun _=>true) (fun _=>true) u→Q .normal (mk u) v) :
  ∀ (fuel:Nat) (b s:Fin 3→Bool) (u:Fin 3→Value) (v:yW),cntF b s≤fuel→Bx W v T Z c b s u→wpAnyH P md ops Q (fun v=>yD W v) fuel (L b s) (mk u) v:=by
 intro fuel
 have fin:∀ (b s:Fin 3→Bool) (u:Fin 3→Value) (v:yW),(∀ k,s k=true)→Bx W v T Z c b s u→Q .normal (mk u) v:=fun b s u v hs h=>by
  have hb:b=fun _=>true:=funext fun k=>h.O k (hs k)
  have hs':s=fun _=>true:=funext hs
  subst hb
  subst hs'
  exact hQ u v h
 induction fuel with
 | zero =>
  intro b s u v hn h
  have hs:∀ k,s k=true:=fun k=>by
   cases e:s k with
   | true=>rfl
   | false=>have:=Qhk b s k e;omega
  refine⟨?_,fin b s u v hs h⟩
  cases e:Region.ready md ops (L b s) with
  | nil=>rfl
  | cons i l =>
   obtain⟨k,h1 | h1⟩:=hr b s i h.O (by rw [e];exact List.mem_cons_self)
   ·have:=h.O k (hs k);rw [h1.2] at this;cases this
   ·have:=hs k;rw [h1.2.1] at this;cases this
 | succ fuel ih =>
  intro b s u v hn h
  refine⟨fun e=>fin b s u v (he b s h.O e) h,fun i hi=>?_⟩
  obtain⟨k,⟨rfl,hk⟩ | ⟨rfl,hk,hb⟩⟩:=hr b s i h.O hi
  ·unfold wpOp
   rw [hA k]
   simp only [Region.wanted,gA k,if_true]
   refine .inl ?_
   unfold Oper.wp
   rw [eA k]
   show _∧_
   rw [pA,lA]
   have h':=h.make k hk
   exact⟨h'.B,ih _ _ _ _ (by have:=cnt_b b s k hk;omega) h'⟩
  ·unfold wpOp
   rw [hS k]
   simp only [Region.wanted,gS k,if_true]
   refine .inl ?_
   obtain⟨p,h2,h3,h4⟩:=h.M k hb
   have h4':v.heap[p]? = (zC Z T):=by rw [h4,hk];rfl
   refine wp_store_row T (x k) (y k) (eS k) p (c k) ((ex k u).trans h2) (ey k u) T Z h4' (hc k) (hz k) (h1 k) ?_
   rw [pS,lS]
   have h':=h.fill k hb h2 h3 h4'
   exact⟨h'.B,ih _ _ _ _ (by have:=Qhk b s k hk;omega) h'⟩
def rd9 (ops:Array Oper) (b0 b1 b2 s0 s1 s2:Bool):List Nat:=Region.ready .any ops #[true,true,true,true,true,true,true,true,true,b0,b1,b2,s0,s1,s2]
def ok9 (ops:Array Oper) (b0 b1 b2 s0 s1 s2:Bool):Bool :=
 (s0 && !b0) || (s1 && !b1) || (s2 && !b2) || ((rd9 ops b0 b1 b2 s0 s1 s2).all (fun i=>(i == 9 && !b0) || (i == 10 && !b1) || (i == 11 && !b2) || (i == 12 && !s0 && b0) || (i == 13 && !s1 && b1) || (i == 14 && !s2 && b2)) && (!(rd9 ops b0 b1 b2 s0 s1 s2).isEmpty || (s0 && s1 && s2)))
def chk9 (ops:Array Oper):Bool:=[false,true].all fun b0=>[false,true].all fun b1=>[false,true].all fun b2=>[false,true].all fun s0=>[false,true].all fun s1=>[false,true].all fun s2=>ok9 ops b0 b1 b2 s0 s1 s2
theorem QbJ {ops:Array Oper}(h:chk9 ops=true) (b0 b1 b2 s0 s1 s2:Bool):ok9 ops b0 b1 b2 s0 s1 s2=true:=by
 have mem:∀ b:Bool,b ∈ [false,true]:=by decide
 simp only [chk9,List.all_eq_true] at h
 exact h b0 (mem _) b1 (mem _) b2 (mem _) s0 (mem _) s1 (mem _) s2 (mem _)
theorem boxes9 {P:Program}{ops:Array Oper}{Q:Exit→Act→yW→Prop}{W v:yW}(T:TypeId) (Z:Array Value) (c:Fin 3→Array Value)
  (mk:(Fin 3→Value)→Act) (x y:Fin 3→Operand) (hchk:chk9 ops=true)
  (hA:∀ k:Fin 3,∃ o,ops[9+k.val]? = some o∧o.guard=none∧(∀ e w,(execOp e o).run P w=.ok (.value (zP w§)) (zA w Z T))∧∀ u v,(mk u).put o.dst v=mk (upd u k v))
  (hS:∀ k:Fin 3,∃ o,ops[12+k.val]? = some o∧o.guard=none∧o.op=.store T (x k) (y k)∧∀ u v,(mk u).put o.dst v=mk u)
  (ex:∀ k u,(mk u).eval (x k)=u k) (ey:∀ k u,(mk u).eval (y k)=.agg (c k))
  (hc:∀ k,(P.info? T).map (·.size)=some (c k).size) (hz:∀ k,Z.size=(c k).size) (h1:∀ k,(c k).all (·.oneCell')=true)
  (hv:yD W v) (u:Fin 3→Value)
  (hQ:∀ u v,Bx W v T Z c (fun _=>true) (fun _=>true) u→Q .normal (mk u) v) :
  wpAnyH P .any ops Q (fun v=>yD W v) 6 #[true,true,true,true,true,true,true,true,true,false,false,false,false,false,false] (mk u) v:=by
 have hr:∀ (b s:Fin 3→Bool) (i:Nat),(∀ k,s k=true→b k=true)→i ∈ Region.ready .any ops #[true,true,true,true,true,true,true,true,true,b 0,b 1,b 2,s 0,s 1,s 2]→∃ k:Fin 3,(i=9+k.val∧b k=false)∨(i=12+k.val∧s k=false∧b k=true):=fun b s i ho hi=>by
  have h:=QbJ hchk (b 0) (b 1) (b 2) (s 0) (s 1) (s 2)
  have q0:=ho 0
  have q1:=ho 1
  have q2:=ho 2
  have n0:(s 0 && !b 0)=false:=by cases h:s 0 <;> simp_all
  have n1:(s 1 && !b 1)=false:=by cases h:s 1 <;> simp_all
  have n2:(s 2 && !b 2)=false:=by cases h:s 2 <;> simp_all
  unfold ok9 at h
  rw [n0,n1,n2] at h
  simp only [Bool.false_or,Bool.and_eq_true,List.all_eq_true] at h
  have h2:=h.1 i hi
  simp only [Bool.or_eq_true,Bool.and_eq_true,beq_iff_eq,Bool.not_eq_true'] at h2
  rcases h2 with ((((h2 | h2) | h2) | h2) | h2) | h2
  ·exact⟨0,.inl h2⟩
  ·exact⟨1,.inl h2⟩
  ·exact⟨2,.inl h2⟩
  ·exact⟨0,.inr ⟨h2.1.1,h2.1.2,h2.2⟩⟩
  ·exact⟨1,.inr ⟨h2.1.1,h2.1.2,h2.2⟩⟩
  ·exact⟨2,.inr ⟨h2.1.1,h2.1.2,h2.2⟩⟩
 have he:∀ (b s:Fin 3→Bool),(∀ k,s k=true→b k=true)→Region.ready .any ops #[true,true,true,true,true,true,true,true,true,b 0,b 1,b 2,s 0,s 1,s 2] = []→∀ k,s k=true:=fun b s ho hi=>by
  have h:=QbJ hchk (b 0) (b 1) (b 2) (s 0) (s 1) (s 2)
  have q0:=ho 0
  have q1:=ho 1
  have q2:=ho 2
  have n0:(s 0 && !b 0)=false:=by cases h:s 0 <;> simp_all
  have n1:(s 1 && !b 1)=false:=by cases h:s 1 <;> simp_all
  have n2:(s 2 && !b 2)=false:=by cases h:s 2 <;> simp_all
  unfold ok9 at h
  rw [n0,n1,n2] at h
  simp only [Bool.false_or,Bool.and_eq_true] at h
  have h2:=h.2
  rw [show rd9 ops (b 0) (b 1) (b 2) (s 0) (s 1) (s 2) = [] from hi] at h2
  simp only [List.isEmpty_nil,Bool.not_true,Bool.false_or,Bool.and_eq_true] at h2
  intro k
  rcases fin3 k with rfl | rfl | rfl
  ·exact h2.1.1
  ·exact h2.1.2
  ·exact h2.2
 have pA:=fun k=>Classical.choose_spec (hA k)
 have pS:=fun k=>Classical.choose_spec (hS k)
 exact boxes3 T Z c (fun b s=>#[true,true,true,true,true,true,true,true,true,b 0,b 1,b 2,s 0,s 1,s 2]) (fun k=>9+k.val) (fun k=>12+k.val) (fun k=>Classical.choose (hA k)) (fun k=>Classical.choose (hS k)) mk x y (fun k=>(pA k).1) (fun k=>(pS k).1) (fun k=>(pA k).2.1) (fun k=>(pS k).2.1) (fun k=>(pA k).2.2.1) (fun k=>(pS k).2.2.1) ex ey (fun k=>(pA k).2.2.2) (fun k=>(pS k).2.2.2)
  (fun k b s=>by rcases fin3 k with rfl | rfl | rfl <;> rfl) (fun k b s=>by rcases fin3 k with rfl | rfl | rfl <;> rfl) hr he hc hz h1 hQ 6 (fun _=>false) (fun _=>false) u v (by decide)
  ⟨hv,fun k h=>(by cases h),fun k j _ h=>(by cases h),fun k h=>(by cases h)⟩
end Go.Proofs.YtfbjofnaghjmeaaGreatDoor
