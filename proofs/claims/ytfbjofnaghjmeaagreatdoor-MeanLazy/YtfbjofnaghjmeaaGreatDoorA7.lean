import Derived.Test.YtfbjofnaghjmeaaGreatDoorA3
import Derived.Defers
import Derived.Recover
import Derived.Laws.Pointers
import Derived.LaidEql
import Derived.Stop.Asserts
import Derived.RowKitTokens
import Derived.Laws.Bits64b
import Derived.Laws.BitsLemmas
import Derived.Laws.Closers25b
namespace Go.Proofs.YtfbjofnaghjmeaaGreatDoor
open Go.Proofs.Tryz
open Go.RowKit
structure RgT (t:Tk):Prop where
 x1:t.x.size≤140737488355328
 y0:0≤t.ty
 y1:t.ty≤255
 n0:-9223372036854775808≤t.n
 n1:t.n≤jX
 p0:-9223372036854775808≤t.p
 p1:t.p≤jX
theorem RgT.val {t:Tk}(h:RgT t):Rg ⟨1,0,(valT t).1,(valT t).2,0,gE,t.p⟩:=by
 have:=h.y0;have:=h.y1;have:=h.n0;have:=h.n1;have:=h.p0;have:=h.p1
 have hv:0≤(valT t).1∧(valT t).1≤255∧-9223372036854775808≤(valT t).2∧(valT t).2≤jX:=by
  unfold valT
  split
  ·simp
  split
  ·simp
  split
  ·simp
  split
  ·simp
  exact⟨h.y0,h.y1,h.n0,h.n1⟩
 constructor <;> first | omega | (show (0:Nat)≤_;omega) | (simp only;omega) | simp
theorem info38:(Tryz.prog.info? 38).map (fun i=>(i.zero,i.size,i.bytes))=some (some (.agg zd),8,72):=by kernel_rfl
def nd0:Nd:=.mk ⟨0,0,0,0,0,gE,0⟩ none 0 []
def ndF (A:Nat→Nd) (j:Nat):Value:=(A (j / 8)).vals.getD (j % 8) undef
def ldF (L:List Nd):Nat→Nd:=fun i=>L.getD i nd0
theorem ldF_lt {L:List Nd}{y:Nd}{i:Nat}(h:i < L.length):ldF (L ++ [y]) i=ldF L i:=by
 unfold ldF
 simp [List.getD,List.getElem?_append_left h]
theorem ldF_at (L:List Nd) (y:Nd):ldF (L ++ [y]) L.length=y:=by
 unfold ldF
 simp [List.getD]
def RowN (w:yW) (v:Value) (L:List Nd):Prop:=Row w 38 8 v L.length (ndF (ldF L))
theorem Qei (y:Nd):∀ j,j < 8→(y.vals).toList[j]? = some (ndF (fun _=>y) j):=by
 intro j hj
 match j,hj with
 | 0,_=>rfl
 | 1,_=>rfl
 | 2,_=>rfl
 | 3,_=>rfl
 | 4,_=>rfl
 | 5,_=>rfl
 | 6,_=>rfl
 | 7,_=>rfl
theorem RowN.snoc {w':yW}{L:List Nd}{y:Nd}{g cap:Nat}(h2:w'.ownsRow 0 38 8 (.slice (some g¢0) (L.length+1) cap) (L.length+1) ((List.range (L.length * 8)).map (ndF (ldF L)) ++ (y.vals).toList)):RowN w' (.slice (some g¢0) (L.length+1) cap) (L ++ [y]):=by
 have hr:=Row.snoc (x:=ndF (fun _=>y)) h2 rfl (fun j hj=>Qei y j hj)
 unfold RowN
 rw [List.length_append,List.length_singleton]
 refine hr.congr fun j hj=>?_
 by_cases h:j < L.length * 8
 ·simp only [h,if_true]
  unfold ndF
  rw [ldF_lt zY]
 ·have e:j / 8=L.length:=by omega
  simp only [h,if_false]
  unfold ndF
  rw [e,ldF_at,show (j - L.length * 8) % 8=j % 8 by omega]
theorem Qau (w0:yW) (y:Nd):∀ j u,(y.vals).toList[j]? = some u→(zA w0 (y.vals) 38).cell? ((w0§¢0:Addr).add j)=some u:=World.news_of_block (Qc w0 _)
theorem Qcf (y:Nd):∀ u ∈ (y.vals).toList,u.oneCell'=true:=by
 intro u hu
 simp [Nd.vals,hdA] at hu
 rcases hu with rfl | rfl | rfl | rfl | rfl | rfl | rfl | rfl <;> rfl
theorem Qia (A:Nat→Nd) (j i:Nat) (hi:i < 8):ndF A (j * 8+i)=(A j).vals.getD i undef:=by
 unfold ndF
 rw [show (j * 8+i) / 8=j by omega,show (j * 8+i) % 8=i by omega]
theorem RowN.lies {w:yW}{v:Value}{L:List Nd}(h:RowN w v L):(v=zO∧L = [])∨∃ g cap,v=.slice (some g¢0) L.length cap∧L.length≤cap∧cap≤jX∧∀ j,j < L.length→NdAt w g (0+j * 8) (ldF L j):=by
 have h':=h
 rcases h.2 with ⟨rfl,e⟩ | ⟨g,cap,cur,rfl,_,_,hc1,hc2,_⟩
 ·left
  exact⟨rfl,List.length_eq_zero_iff.1 e⟩
 ·right
  refine⟨g,cap,rfl,hc1,hc2,fun j hj=>?_⟩
  rw [Nat.zero_add]
  have c:=fun i (hi:i < 8)=>(Row.cell h' (j:=j * 8+i) zY).trans (congrArg some (Qia (ldF L) j i hi))
  exact⟨c 0 zY,c 1 zY,c 2 zY,c 3 zY,c 4 zY,c 5 zY,c 6 zY,c 7 zY⟩
theorem Qgl {L:List Nd}{i:Nat}(h:i < L.length):ldF L i=L[i]:=by
 unfold ldF
 rw [List.getD_eq_getElem?_getD,List.getElem?_eq_getElem h];rfl
def rdT (s:yB):List Tk:=if tksE s=0 then tksL s else allL s
theorem Hz:∀ l:List UInt8,0≤nbTy l∧nbTy l≤4
 | []=>by simp [nbTy]
 | c :: _=>by
  unfold nbTy
  repeat' split
  all_goals omega
theorem lx_rg {l:List UInt8}{k:Int}{n:Nat}{ty v:Int}(h:lx l=some (k,n,ty,v)):0≤ty∧ty≤4∧0≤v∧v≤jX:=by
 unfold lx at h
 split at h
 ·split at h
  ·cases h
  ·cases h;simp
 ·split at h
  ·split at h
   ·cases h
   ·split at h
    ·cases h
    ·rename_i hn
     split at h
     ·cases h
     ·cases h
      have:=Hz (l.drop ‹Nat›)
      refine⟨?_,?_,by omega,by omega⟩
      ·exact (Hz _).1
      ·exact (Hz _).2
  ·split at h
   ·cases h
   ·cases h;simp
theorem Qao {s:yB}{f:Nat}(hs:s.size≤4096) (hf:f≤s.size) (h:oneE s f=0):RgT (oneT s f):=by
 obtain⟨q0,q1,q2,_⟩:=P6 s f hf h
 have hT:0≤(oneT s f).ty∧(oneT s f).ty≤4∧0≤(oneT s f).n∧(oneT s f).n≤jX:=by
  by_cases hp:oneP s f=s.size
  ·unfold oneT
   rw [if_pos hp]
   simp
  ·obtain⟨e1,e2⟩:=Qd4 s f hf hp
   rw [e2] at h
   rw [e1]
   unfold lxE at h
   unfold tkOf
   cases hx:lx (rest s (oneP s f)) with
   | none=>rw [hx] at h;simp at h;split at h <;> first | omega | (split at h <;> omega)
   | some q =>
    obtain⟨k,n,ty,v⟩:=q
    exact lx_rg hx
 exact⟨by omega,by omega,by omega,by omega,by omega,by rw [q0];omega,by rw [q0];omega⟩
theorem beg_rg {s:yB}(hs:s.size≤4096):∀ (d f:Nat),s.size - f≤d→f≤s.size→∀ t ∈ (begO s f).1,RgT t:=by
 intro d
 induction d with
 | zero =>
  intro f h1 h2 t ht
  by_cases h:oneE s f=0
  ·by_cases hk:(oneT s f).k=0
   ·rw [Um h hk] at ht
    obtain rfl:=List.mem_singleton.1 ht
    exact Qao hs h2 h
   ·obtain⟨a1,a2,_,_⟩:=Xq h2 h hk
    omega
  ·rw [Un h] at ht
   simp at ht
 | succ d ih =>
  intro f h1 h2 t ht
  by_cases h:oneE s f=0
  ·by_cases hk:(oneT s f).k=0
   ·rw [Um h hk] at ht
    obtain rfl:=List.mem_singleton.1 ht
    exact Qao hs h2 h
   ·obtain⟨a1,a2,_,a4⟩:=Xq h2 h hk
    rw [a4] at ht
    rcases List.mem_cons.1 ht with rfl | ht
    ·exact Qao hs h2 h
    ·exact ih _ zY a2 t ht
  ·rw [Un h] at ht
   simp at ht
theorem QhQ (s:yB):∀ t ∈ rdT s,RgT t:=by
 intro t ht
 unfold rdT at ht
 by_cases hs:s.size > 4096
 ·obtain⟨h1,_,h3⟩:=PD hs
  rw [if_neg (by rw [h1];decide)] at ht
  unfold allL at ht
  rw [if_pos hs] at ht
  simp at ht
 ·have hb:=beg_rg (s:=s) zY s.size 0 zY zY
  by_cases h0:tksE s=0
  ·rw [if_pos h0] at ht
   unfold tksL at ht
   rw [if_pos h0] at ht
   exact hb t ht
  ·rw [if_neg h0] at ht
   unfold allL at ht
   rw [if_neg hs] at ht
   unfold allF at ht
   split at ht
   ·exact hb t (List.dropLast_subset _ ht)
   ·exact hb t ht
open Go.Extern.Stop Go.Stop Go.Extern
theorem Qc2 (t:Addr) (w:yW):(ReflectliteValue.unpack (.iface 223 (.pointer (some t)))).run zG w=.ok (.agg #[.pointer (some 4¢223),zP w§,.int .u64 150]) (zA w #[.pointer (some t)] 223):=by kernel_rfl
theorem Qhr (t:Addr) (w:yW):(ReflectliteValue.unpack (.iface 222 (.pointer (some t)))).run zG w=.ok (.agg #[.pointer (some 4¢222),zP w§,.int .u64 150]) (zA w #[.pointer (some t)] 222):=by kernel_rfl
theorem vOf74 (t:Addr) (w:yW):(ReflectliteValue.unpack (.iface 184 (.pointer (some t)))).run zG w=.ok (.agg #[.pointer (some 4¢184),zP w§,.int .u64 150]) (zA w #[.pointer (some t)] 184):=by kernel_rfl
theorem Qa8 (v:Value) (w:yW):(ReflectliteType.typeOf #[.iface 184 v]).run zG w=.ok (.iface 283 (.agg #[.pointer (some 4¢184)])) w:=by kernel_rfl
theorem Qa9 (v:Value) (w:yW):(ReflectliteType.typeOf #[.iface 41 v]).run zG w=.ok (.iface 283 (.agg #[.pointer (some 4¢41)])) w:=by kernel_rfl
theorem Qfh (w : yW) : (ReflectliteType.relation "AssignableTo" ReflectliteType.assignableTo #[.agg #[.pointer (some ⟨4, 184, none⟩)], .iface 283 (.agg #[.pointer (some ⟨4, 184, none⟩)])]).run zG w = .ok (.bool true) w := by kernel_rfl
theorem Vt (w : yW) : (ReflectliteType.relation "AssignableTo" ReflectliteType.assignableTo #[.agg #[.pointer (some ⟨4, 184, none⟩)], .iface 283 (.agg #[.pointer (some ⟨4, 41, none⟩)])]).run zG w = .ok (.bool false) w := by kernel_rfl
theorem Vu (w : yW) : (ReflectliteType.relation "AssignableTo" ReflectliteType.assignableTo #[.agg #[.pointer (some ⟨4, 41, none⟩)], .iface 283 (.agg #[.pointer (some ⟨4, 41, none⟩)])]).run zG w = .ok (.bool true) w := by kernel_rfl
theorem Qfi (w : yW) : (ReflectliteType.relation "AssignableTo" ReflectliteType.assignableTo #[.agg #[.pointer (some ⟨4, 41, none⟩)], .iface 283 (.agg #[.pointer (some ⟨4, 184, none⟩)])]).run zG w = .ok (.bool false) w := by kernel_rfl
theorem Qhi (w : yW) : (ReflectliteType.relation "Implements" ReflectliteType.implements_ #[.agg #[.pointer (some ⟨4, 184, none⟩)], .iface 283 (.agg #[.pointer (some ⟨4, 85, none⟩)])]).run zG w = .ok (.bool true) w := by kernel_rfl
theorem imp48 (w : yW) : (ReflectliteType.relation "Implements" ReflectliteType.implements_ #[.agg #[.pointer (some ⟨4, 41, none⟩)], .iface 283 (.agg #[.pointer (some ⟨4, 85, none⟩)])]).run zG w = .ok (.bool true) w := by kernel_rfl
theorem Qe0 (w:yW):(ReflectliteType.method ReflectliteType.elem #[.agg #[.pointer (some 4¢223)]]).run zG w=.ok (.iface 283 (.agg #[.pointer (some 4¢184)])) w:=by kernel_rfl
theorem elm161 (w:yW):(ReflectliteType.method ReflectliteType.elem #[.agg #[.pointer (some 4¢222)]]).run zG w=.ok (.iface 283 (.agg #[.pointer (some 4¢41)])) w:=by kernel_rfl
theorem Qax (h : Value) (w : yW) : (Go.method 443 283 (.agg #[h]) "Kind").run zG w = .ok (271, h) w := by kernel_rfl
theorem Qaz (h : Value) (w : yW) : (Go.method 443 283 (.agg #[h]) "Elem").run zG w = .ok (283, .agg #[h]) w := by kernel_rfl
theorem Qay (h : Value) (w : yW) : (Go.method 443 283 (.agg #[h]) "Implements").run zG w = .ok (284, .agg #[h]) w := by kernel_rfl
theorem VV (h : Value) (w : yW) : (Go.method 443 283 (.agg #[h]) "AssignableTo").run zG w = .ok (281, .agg #[h]) w := by kernel_rfl
theorem Qg0 (a : Addr) (w : yW) : (ReflectliteValue.methodAny (ReflectliteValue.valueError "reflectlite.Value.Type" 0) (fun t _ _ _ => ReflectliteType.toType t) #[.agg #[.pointer (some ⟨4, 223, none⟩), .pointer (some a), .int .u64 150]]).run zG w = .ok (.iface 283 (.agg #[.pointer (some ⟨4, 223, none⟩)])) w := by kernel_rfl
theorem Qhg (w:yW):((ReflectliteType.abiMethod fun t=>(fun a:Nat=>Value.int IntKind.u8 (a:Int)) <$> Rtype.kind t) #[.pointer (some 4¢223)]).run zG w=.ok (zU 22) w:=by kernel_rfl
theorem kd74 (w:yW):((ReflectliteType.abiMethod fun t=>(fun a:Nat=>Value.int IntKind.u8 (a:Int)) <$> Rtype.kind t) #[.pointer (some 4¢184)]).run zG w=.ok (zU 22) w:=by kernel_rfl
theorem Qg5 (a:Addr) (w:yW):(ReflectliteValue.parts (.agg #[.pointer (some 4¢223),.pointer (some a),.int .u64 150])).run zG w=.ok (some (223,a,150)) w:=by kernel_rfl
theorem pt74 (a:Addr) (w:yW):(ReflectliteValue.parts (.agg #[.pointer (some 4¢184),.pointer (some a),.int .u64 150])).run zG w=.ok (some (184,a,150)) w:=by kernel_rfl
theorem pt74a (a:Addr) (w:yW):(ReflectliteValue.parts (.agg #[.pointer (some 4¢184),.pointer (some a),.int .u64 406])).run zG w=.ok (some (184,a,406)) w:=by kernel_rfl
theorem el128 (w:yW):(Rtype.elem? 223).run zG w=.ok (some 184) w:=by kernel_rfl
theorem mk74 (p:Addr) (w:yW):(ReflectliteValue.mk 184 p ReflectliteValue.flagAddr).run zG w=.ok (.agg #[.pointer (some 4¢184),.pointer (some p),.int .u64 406]) w:=by kernel_rfl
theorem da74 (w:yW):(Rtype.directlyAssignable 184 184).run zG w=.ok true w:=by kernel_rfl
theorem X3 (z:Sem Value) (f:TypeId→Addr→Nat→Nat→Sem Value) (v:Value):∃ g:Option (TypeId × Addr × Nat)→Sem Value,ReflectliteValue.method z f #[v]=(ReflectliteValue.parts v >>= g)∧∀ t a fl,g (some (t,a,fl))=f t a fl (fl % 32):=⟨_,rfl,fun _ _ _=>rfl⟩
theorem Qeg (a p:Addr) (W:yW) (ha:W.cell? a=some (.pointer (some p))) :
  (ReflectliteValue.method (ReflectliteValue.valueError "reflectlite.Value.IsNil" 0) ReflectliteValue.isNil #[.agg #[.pointer (some ⟨4, 223, none⟩), .pointer (some a), .int .u64 150]]).run zG W = .ok (.bool false) W := by
 obtain ⟨g, h1, h2⟩ := X3 (ReflectliteValue.valueError "reflectlite.Value.IsNil" 0) ReflectliteValue.isNil (.agg #[.pointer (some ⟨4, 223, none⟩), .pointer (some a), .int .u64 150])
 rw [h1,Sem.run_bind,Qg5]
 simp [Result.andThen,h2,ReflectliteValue.isNil,loadVar,isAgg,underlying,underlying223,ha]
theorem elv128 (a p:Addr) (W:yW) (ha:W.cell? a=some (.pointer (some p))) :
  (ReflectliteValue.method (ReflectliteValue.valueError "reflectlite.Value.Elem" 0) ReflectliteValue.elem #[.agg #[.pointer (some ⟨4, 223, none⟩), .pointer (some a), .int .u64 150]]).run zG W = .ok (.agg #[.pointer (some ⟨4, 184, none⟩), .pointer (some p), .int .u64 406]) W := by
 obtain ⟨g, h1, h2⟩ := X3 (ReflectliteValue.valueError "reflectlite.Value.Elem" 0) ReflectliteValue.elem (.agg #[.pointer (some ⟨4, 223, none⟩), .pointer (some a), .int .u64 150])
 rw [h1,Sem.run_bind,Qg5]
 simp [Result.andThen,h2,ReflectliteValue.elem,loadVar,isAgg,underlying,underlying223,ha,el128,mk74]
theorem Qbd (v x:Value):∃ g:Option (TypeId × Addr × Nat)→Option (TypeId × Addr × Nat)→Sem Value,ReflectliteValue.set #[v,x]=(ReflectliteValue.parts v >>= fun p=>ReflectliteValue.parts x >>= fun q=>g p q)∧∀ dst a fl src b k,fl / ReflectliteValue.flagAddr % 2=1→∃ r:Value→Bool→Sem Value,g (some (dst,a,fl)) (some (src,b,k))=(loadVar src b >>= fun val=>Rtype.directlyAssignable dst src >>= r val)∧∀ val,r val true=(storeVar dst a val >>= fun _=>pure (.tuple #[])):=by
 refine⟨_,rfl,fun dst a fl src b k h=>?_⟩
 have h':(fl / ReflectliteValue.flagAddr % 2 == 0)=false:=by rw [h];rfl
 simp only [h']
 exact⟨_,rfl,fun _=>rfl⟩
theorem set74 (ta b e:Addr) (old:Value) (W:yW) (hb:W.cell? b=some (.pointer (some e))) (ht:W.cell? ta=some old) (hf:W.frozen? ta=false) :
  (ReflectliteValue.set #[.agg #[.pointer (some 4¢184),.pointer (some ta),.int .u64 406],.agg #[.pointer (some 4¢184),.pointer (some b),.int .u64 150]]).run zG W=.ok (.tuple #[]) (W.setCell ta (.pointer (some e))):=by
 obtain⟨g,h1,h2⟩:=Qbd (.agg #[.pointer (some 4¢184),.pointer (some ta),.int .u64 406]) (.agg #[.pointer (some 4¢184),.pointer (some b),.int .u64 150])
 obtain⟨r,h3,h4⟩:=h2 184 ta 406 184 b 150 (by decide)
 rw [h1]
 simp only [Sem.run_bind,pt74a,pt74,Result.andThen,h3]
 simp [loadVar,isAgg,underlying,underlying184,hb,Result.andThen,da74,h4,storeVar,Value.cells,storeCells,Addr.add]
 rw [run_store zG W ta _ _ (by rfl)]
 simp [ht,hf]
set_option maxRecDepth 100000
theorem Kr {w:yW}{b:Nat}{K:PK}{t:Tk}{ts:List Tk}(h:Lv w b K (t :: ts)) (x:yB) (hx:t.x=x→t.k=1∨t.k=4) :
  Calls zG 137 #[zP b,.string x] w fun e w'=>e=.returned (.bool (decide (t.x=x)))∧yD w w':=by
 have cN:=QM h
 clear h
 unfold tkA at cN
 by_cases e:t.x=x
 ·rw [decide_eq_true e]
  rcases hx e with hk | hk
  ·subst e
   rw [hk] at cN
   clear hx hk
   go_enter func137,ntmps137
   go_wp2_with fail
   refine cN.mono ?_
   rintro e w1 ⟨rfl,hb⟩
   have HB:=zH hb
   clear cN hb
   go_wp2
   go_ret
   exact⟨rfl,Qd HB.out (Qb _ _)⟩
  ·subst e
   rw [hk] at cN
   clear hx hk
   go_enter func137,ntmps137
   go_wp2_with fail
   refine cN.mono ?_
   rintro e w1 ⟨rfl,hb⟩
   have HB:=zH hb
   clear cN hb
   go_wp2
   go_ret
   exact⟨rfl,Qd HB.out (Qb _ _)⟩
 ·have hs:=Qhw e
  rw [decide_eq_false e]
  clear hx e
  go_enter func137,ntmps137
  go_wp2_with fail
  refine cN.mono ?_
  rintro e w1 ⟨rfl,hb⟩
  have HB:=zH hb
  clear cN hb
  go_wp2
  go_ret
  exact⟨rfl,Qd HB.out (Qb _ _)⟩
def fnd (y:yB):List yB→Nat→Int
 | [],_=>-1
 | x :: xs,i=>if y=x then (i:Int) else fnd y xs (i+1)
theorem QeT (y:yB):∀ (L:List yB) (k:Nat),(∀ j (h:j < L.length),y≠L[j])→fnd y L k = -1:=by
 intro L
 induction L with
 | nil=>intro k _;rfl
 | cons x xs ih =>
  intro k h
  have h0:=h 0 (by simp)
  simp only [List.getElem_cons_zero] at h0
  rw [fnd,if_neg h0]
  exact ih (k+1) (fun j hj=>by have:=h (j+1) (by simpa using hj);simpa using this)
theorem fnd_at (y:yB):∀ (L:List yB) (k i:Nat) (hi:i < L.length),(∀ j (h:j < L.length),j < i→y≠L[j])→y=L[i]→fnd y L k=((k+i:Nat):Int):=by
 intro L
 induction L with
 | nil=>intro k i hi;simp at hi
 | cons x xs ih =>
  intro k i hi h he
  cases i with
  | zero =>
   simp only [List.getElem_cons_zero] at he
   rw [fnd,if_pos he]
   simp
  | succ i =>
   have h0:=h 0 (by simp) zY
   simp only [List.getElem_cons_zero] at h0
   rw [fnd,if_neg h0,ih (k+1) i (by simpa using hi) (fun j hj hji=>by have:=h (j+1) (by simpa using hj) zY;simpa using this) (by simpa using he)]
   congr 1
   omega
def SLs (w:yW) (A:Nat) (L:List yB):Prop:=∀ j (hj:j < L.length),zQ w A¢j (.string L[j])
theorem SLs.on {w w':yW}{A:Nat}{L:List yB}(h:SLs w A L) (k:yD w w'):SLs w' A L:=fun j hj =>
 (World.cell?_of_block (k.block A (World.block_lt_of_cell? w _ (h j hj)))).trans (h j hj)
theorem Qfo {w:yW}{b:Nat}{K:PK}{t0:Tk}{ts:List Tk}(h:Lv w b K (t0 :: ts)) {A:Nat}{L:List yB}{c:Nat}(hL:SLs w A L) (hn:L.length≤1000) (hx:∀ x ∈ L,t0.x=x→t0.k=1∨t0.k=4) :
  Calls zG 174 #[zP b,.slice (some A¢0) L.length c] w fun e w'=>e=.returned (zI (fnd t0.x L 0))∧yD w w':=by
 have HH:=h.hid
 have HL:Hid (SLs w A L):=hL
 have HX:=hx
 clear h hL hx
 go_enter func174,ntmps174
 go_wp2_with fail
 go_loopw [5,6] (fun t _ wr=>∃ i:Nat,i≤L.length∧t=zI i∧Hid (yD w wr)∧Hid (∀ j (h:j < L.length),j < i→t0.x≠L[j])) (fun t _ _=>L.length - (intOf t).toNat)
 case atStart=>exact⟨0,by omega,rfl,Below.refl _ _,fun j _ hj=>by omega⟩
 case round =>
  obtain⟨i,hi,rfl,HR,HJ⟩:=hrel
  by_cases hlt:i < L.length
  ·have hlt':(i:Int) < (L.length:Int):=by omega
   have cs:=(HL.out.on HR.out) i hlt
   have cI:=Kr (HH.out.on HR.out) L[i] (HX L[i] (List.getElem_mem hlt))
   have hmx:(i:Int)+1≤jX:=by omega
   obtain⟨x,ex⟩:∃ x,L[i]=x:=jV
   have HEX:Hid (L[i]=x):=ex
   rw [ex] at cs cI
   clear ex
   by_cases he:t0.x=x
   ·rw [decide_eq_true he] at cI
    have HE:Hid (t0.x=x):=he
    clear he
    go_wp2_with fail
    refine cI.mono ?_
    rintro e w1 ⟨rfl,hb⟩
    have HB1:=zH (Qd HR.out hb)
    clear cI hb cs
    go_wp2
    go_ret
    exact⟨by show Ending.returned (zI (i:Int))=_;rw [fnd_at t0.x L 0 i hlt HJ.out (by rw [HEX.out,HE.out])];simp,HB1.out⟩
   ·rw [decide_eq_false he] at cI
    have HE:Hid (¬ t0.x=x):=he
    clear he
    go_wp2_with fail
    refine cI.mono ?_
    rintro e w1 ⟨rfl,hb⟩
    have HB1:=zH (Qd HR.out hb)
    clear cI hb cs
    go_wp2_with fail
    exact⟨⟨i+1,hlt,rfl,HB1,fun j hj hji=>by
     by_cases e:j=i
     ·subst e;rw [HEX.out];exact HE.out
     ·exact HJ.out j hj zY⟩,by simp only [intOf];omega⟩
  ·obtain rfl:i=L.length:=by omega
   have hnot:¬ (L.length:Int) < (L.length:Int):=by omega
   go_wp2
   go_ret
   exact⟨by show Ending.returned (zI (-1))=_;rw [QeT t0.x L 0 (fun j hj=>HJ.out j hj hj)],HR.out⟩
theorem Lv.at' {w:yW}{b:Nat}{K:PK}{t:Tk}{ts:List Tk}(h:Lv w b K (t :: ts)):∃ i:Nat,zQ w b¢3 (zI i)∧zS w b¢3∧(i:Int)+1≤jX ∧
  Lv (w.setCell b¢3 (zI ((i:Int)+1))) b K ts∧Mv w (w.setCell b¢3 (zI ((i:Int)+1))) (fun k=>k=b)∧(∀ k,k≠b→(w.setCell b¢3 (zI ((i:Int)+1))).heap[k]? = w.heap[k]?)∧(w.setCell b¢3 (zI ((i:Int)+1)))§=w§:=by
 obtain⟨i,p,u,h1,h2⟩:=h
 have hi:i < K.T.length:=by
  have:=congrArg List.length h2
  simp at this
  omega
 have ets:ts=K.T.drop (i+1):=by
  have:=congrArg List.tail h2
  simpa using this
 have hm:=h1.m
 have hb:(w.setCell b¢3 (zI ((i:Int)+1))).heap[b]? = (zC #[.slice K.a K.T.length K.c,zI K.be,zI K.ba,zI ((i:Int)+1),zI 0,zI p,.bool u] 168):=Qp _ h1.h
 refine⟨i,Qa h1.h 3,Qf h1.h 3,by omega,⟨i+1,p,u,?_,ets⟩,Mv.setCell (F:=fun k=>k=b) (a:=b¢3) (Mv.refl _ _) (.inl rfl) _,fun k hk=>Below.heap_setCell _ _ _ _ hk,by simp [World.setCell]⟩
 exact h1.new (fun c hc _=>Below.heap_setCell _ _ _ _ hc) hi h1.z (by rw [hb];simp)
theorem VL {w:yW}{b:Nat}{K:PK}{t:Tk}{ts:List Tk}(h:Lv w b K (t :: ts)) (x:yB) (hx:t.x=x→t.k=1∨t.k=4) :
  Calls zG 135 #[zP b,.string x] w fun e w'=>(∃ p,e=.returned (zI p)∧(t.x=x→p=t.p))∧(if t.x=x then Lv w' b K ts else Dd w' b K (.tok 130 t.p))∧Mv w w' (fun k=>k=b):=by
 have cI:=Kr h x hx
 have HH:=h.hid
 clear h hx
 by_cases e:t.x=x
 ·rw [decide_eq_true e] at cI
  simp only [e,if_true]
  clear e
  go_enter func135,ntmps135
  go_wp2_with fail
  refine cI.mono ?_
  rintro e w1 ⟨rfl,hb⟩
  have HB1:=zH hb
  have cN:=QM (HH.out.on hb)
  have hf:=fun v=>Q6 t v
  clear cI hb
  go_wp2_with fail
  refine cN.mono ?_
  rintro e w2 ⟨rfl,hb⟩
  have HB2:=zH (Qd HB1.out hb)
  obtain⟨i,c3,f3,hmx,hL,hM,_,_⟩:=(HH.out.on HB2.out).at'
  have HL:=hL.hid
  have HM:=zH hM
  clear cN hb hL hM
  go_wp2
  go_ret
  exact⟨⟨t.p,rfl,fun _=>rfl⟩,HL.out,(Mv.ofBelow HB2.out).trans HM.out (fun k e=>.inl e)⟩
 ·rw [decide_eq_false e] at cI
  simp only [e,if_false,false_implies]
  clear e
  go_enter func135,ntmps135
  go_wp2_with fail
  refine cI.mono ?_
  rintro e w1 ⟨rfl,hb⟩
  have HB1:=zH hb
  have cN:=FG (HH.out.on hb) 130 (by decide)
  clear cI hb
  go_wp2_with fail
  refine cN.mono ?_
  rintro e w2 ⟨rfl,hd,hm⟩
  have HD:=hd.hid
  have HM:=zH hm
  clear cN hd hm
  go_wp2
  go_ret
  exact⟨⟨0,rfl,trivial⟩,HD.out,(Mv.ofBelow HB1.out).trans HM.out (fun k e=>.inl e)⟩
theorem QcF {w:yW}{b:Nat}{K:PK}{t:Tk}{ts:List Tk}(h:Lv w b K (t :: ts)) (d:Nat) (hd:d < 24) :
  Calls zG 219 #[zP b,zI d] w fun e w'=>e=.returned (.bool true)∧w'=w:=by
 obtain⟨i,p,u,h1,h2⟩:=h
 have cO:=XB h1
 have h3:¬ (24:Int) < (d:Int)+1:=by omega
 have h4:decide ((24:Int) < (d:Int)+1)=false:=decide_eq_false h3
 have h5:(d:Int)+1≤jX:=by omega
 clear h1 h2
 go_enter func219,ntmps219
 go_wp2_with fail
 refine cO.mono ?_
 rintro e w1 ⟨rfl,rfl⟩
 go_wp2
 go_ret
 exact⟨rfl,rfl⟩
set_option linter.unusedVariables false
def Lw (B b:Nat) (K:PK):Prop:=b < B∧∀ j,j < K.T.length→∀ G o,K.a=some G¢o→G < B
theorem Pr.lw {w:yW}{b:Nat}{K:PK}{i:Nat}{e p:Int}{t:Bool}(h:Pr w b K i e p t):Lw w§ b K:=⟨h.lt,fun j hj G o e=>by
 obtain⟨G',o',e',hn,ht⟩:=h.r j hj
 rw [e] at e'
 cases e'
 exact ht.lt⟩
theorem Pr.off {w w':yW}{b:Nat}{K:PK}{i:Nat}{e p:Int}{t:Bool}(h:Pr w b K i e p t) {B:Nat}(hB:Lw B b K) (o:∀ k,k < B→w'.heap[k]? = w.heap[k]?):Pr w' b K i e p t :=
 ⟨(o b hB.1).trans h.h,h.l,h.m,h.z,fun j hj=>by
  obtain⟨G,o',ea,hn,ht⟩:=h.r j hj
  exact⟨G,o',ea,hn,ht.blk (o G (hB.2 j hj G o' ea))⟩⟩
theorem Lv.lw {w:yW}{b:Nat}{K:PK}{ts:List Tk}(h:Lv w b K ts):Lw w§ b K:=by
 obtain⟨i,p,t,h1,h2⟩:=h
 exact h1.lw
theorem Lv.off {w w':yW}{b:Nat}{K:PK}{ts:List Tk}(h:Lv w b K ts) {B:Nat}(hB:Lw B b K) (o:∀ k,k < B→w'.heap[k]? = w.heap[k]?):Lv w' b K ts:=by
 obtain⟨i,p,t,h1,h2⟩:=h
 exact⟨i,p,t,h1.off hB o,h2⟩
theorem Lw.mono {B B' b:Nat}{K:PK}(h:Lw B b K) (k:B≤B'):Lw B' b K:=⟨Nat.lt_of_lt_of_le h.1 k,fun j hj G o e=>Nat.lt_of_lt_of_le (h.2 j hj G o e) k⟩
structure TkOk (t:Tk):Prop where
 r:RgT t
structure KOk (K:PK):Prop where
 t:∀ t ∈ K.T,TkOk t
 n:K.T.length≤4097
theorem Lv.mem {w:yW}{b:Nat}{K:PK}{ts:List Tk}(h:Lv w b K ts):∀ t ∈ ts,t ∈ K.T:=by
 obtain⟨i,p,u,h1,rfl⟩:=h
 exact fun t ht=>List.mem_of_mem_drop ht
theorem Lv.len {w:yW}{b:Nat}{K:PK}{ts:List Tk}(h:Lv w b K ts):ts.length≤K.T.length:=by
 obtain⟨i,p,u,h1,rfl⟩:=h
 simp
theorem Lv.ok {w:yW}{b:Nat}{K:PK}{t:Tk}{ts:List Tk}(h:Lv w b K (t :: ts)) (hK:KOk K):TkOk t:=hK.t t (h.mem t (by simp))
def Gd (t:Tk):Prop:=Good t∨(t.k=0∧t.x=⟨#[]⟩∧t.ty=0∧t.n=0)
theorem Qap {s:yB}{f:Nat}(hf:f≤s.size) (h:oneE s f=0):Gd (oneT s f):=by
 by_cases hp:oneP s f=s.size
 ·rw [(Qd8 hp).2];exact .inr ⟨rfl,rfl,rfl,rfl⟩
 ·exact .inl (Qd5 hf h hp).1
theorem Qfg {s:yB}:∀ (d f:Nat),s.size - f≤d→f≤s.size→(∀ t ∈ (begO s f).1,Gd t)∧(begO s f).1.length≤s.size - f+1:=by
 intro d
 induction d with
 | zero =>
  intro f h1 h2
  by_cases h:oneE s f=0
  ·by_cases hk:(oneT s f).k=0
   ·rw [Um h hk]
    refine⟨fun t ht=>?_,by simp⟩
    obtain rfl:=List.mem_singleton.1 ht
    exact Qap h2 h
   ·obtain⟨a1,a2,_,_⟩:=Xq h2 h hk
    omega
  ·rw [Un h]
   exact⟨fun t ht=>by simp at ht,by simp⟩
 | succ d ih =>
  intro f h1 h2
  by_cases h:oneE s f=0
  ·by_cases hk:(oneT s f).k=0
   ·rw [Um h hk]
    refine⟨fun t ht=>?_,by simp⟩
    obtain rfl:=List.mem_singleton.1 ht
    exact Qap h2 h
   ·obtain⟨a1,a2,_,a4⟩:=Xq h2 h hk
    rw [a4]
    obtain⟨b1,b2⟩:=ih _ zY a2
    refine⟨fun t ht=>?_,by simp only [List.length_cons];omega⟩
    rcases List.mem_cons.1 ht with rfl | ht
    ·exact Qap h2 h
    ·exact b1 t ht
  ·rw [Un h]
   exact⟨fun t ht=>by simp at ht,by simp⟩
theorem Hp {s:yB}(hs:s.size≤4096):rdT s=(begO s 0).1:=by
 have h1:tksE s=(begO s 0).2.1:=if_neg zY
 unfold rdT
 by_cases h:tksE s=0
 ·rw [if_pos h]
  unfold tksL
  rw [if_pos h]
 ·rw [if_neg h]
  unfold allL allF
  rw [if_neg zY,if_neg (by rw [← h1];exact h)]
theorem PV {s:yB}(hs:s.size > 4096):rdT s = []∧tksE s=110∧tksB s=0:=by
 obtain⟨h1,_,h3⟩:=PD hs
 refine⟨?_,h1,?_⟩
 ·unfold rdT
  rw [if_neg (by rw [h1];decide)]
  unfold allL
  rw [if_pos hs]
 ·unfold tksB
  rw [if_neg (by rw [h1];decide),if_pos hs]
theorem QhR (s:yB):∀ t ∈ rdT s,Gd t:=by
 by_cases hs:s.size≤4096
 ·rw [Hp hs]
  exact (Qfg s.size 0 zY zY).1
 ·rw [(PV zY).1]
  exact fun t ht=>by simp at ht
theorem Qf1 (s:yB):(rdT s).length≤4097:=by
 by_cases hs:s.size≤4096
 ·rw [Hp hs]
  have:=(Qfg (s:=s) s.size 0 zY zY).2
  omega
 ·rw [(PV zY).1]
  simp
section
variable {e : Tk} (hk : e.k = 0) (hx : e.x = ⟨#[]⟩) (hy : e.ty = 0)
include hx in
include hx in
include hx in
include hx in
include hx in
include hx in
include hx in
include hx in
include hk hx hy in
include hk hx hy in
include hk hx hy in
include hk hx hy in
include hk hx hy in
include hk hx hy in
end
structure KG (K:PK):Prop where
 k:KOk K
 g:∀ t ∈ K.T,Gd t
theorem Uc {t:Tk}(h:Gd t) {x:yB}(hx:(lx x.data.toList).map (·.1)=some 1∨(lx x.data.toList).map (·.1)=some 4):t.x=x→t.k=1∨t.k=4:=by
 rintro rfl
 rcases h with h | ⟨_,h2,_⟩
 ·rw [h.lk] at hx
  simp only [Option.map_some,Option.some.injEq] at hx
  exact hx
 ·exfalso
  rw [h2] at hx
  rcases hx with hx | hx <;> exact absurd hx (by decide +kernel)
theorem Lv.gd {w:yW}{b:Nat}{K:PK}{t:Tk}{ts:List Tk}(h:Lv w b K (t :: ts)) (hK:KG K):Gd t:=hK.g t (h.mem t (by simp))
namespace Fx
def fitB (x:Int):Bool:=decide (-9223372036854775808≤x∧x≤jX)
def fitN (x:Int):Int:=if fitB x=true then x else 0
theorem KH {x:Int}(h1:-9223372036854775808≤x) (h2:x≤jX):fitB x=true:=by
 unfold fitB;exact decide_eq_true ⟨h1,h2⟩
theorem JV {x:Int}(h:x < -9223372036854775808∨jX < x):fitB x=false:=by
 unfold fitB;apply decide_eq_false;omega
theorem fitB_iff {x:Int}:fitB x=true ↔ (-9223372036854775808≤x∧x≤jX):=by
 unfold fitB;exact decide_eq_true_iff
theorem fitN_true {x:Int}(h:fitB x=true):fitN x=x:=by unfold fitN;rw [if_pos h]
theorem fitN_false {x:Int}(h:fitB x=false):fitN x=0:=by unfold fitN;rw [if_neg (by rw [h];decide)]
def cmpN (a b:Int):Int:=if a < b then -1 else if b < a then 1 else 0
theorem QgH {a b:Int}(h:a < b):cmpN a b = -1:=by unfold cmpN;rw [if_pos h]
theorem QgI {a b:Int}(h:b < a):cmpN a b=1:=by unfold cmpN;rw [if_neg zY,if_pos h]
theorem QgJ {a b:Int}(h:a=b):cmpN a b=0:=by unfold cmpN;rw [if_neg zY,if_neg zY]
def byN (a b:Int):Int:=if b=0 then 0 else fitN (a.tdiv b)
def byB (a b:Int):Bool:=if b=0 then false else fitB (a.tdiv b)
def U6 (a b:Int):Int:=if b=0 then 0 else a.tmod b
def U7 (b:Int):Bool:=if b=0 then false else true
theorem byN_0 (a:Int) {b:Int}(h:b=0):byN a b=0:=by unfold byN;rw [if_pos h]
theorem byB_0 (a:Int) {b:Int}(h:b=0):byB a b=false:=by unfold byB;rw [if_pos h]
theorem byN_1 (a:Int) {b:Int}(h:b≠0):byN a b=fitN (a.tdiv b):=by unfold byN;rw [if_neg h]
theorem byB_1 (a:Int) {b:Int}(h:b≠0):byB a b=fitB (a.tdiv b):=by unfold byB;rw [if_neg h]
theorem QfW (a:Int) {b:Int}(h:b=0):U6 a b=0:=by unfold U6;rw [if_pos h]
theorem QfX {b:Int}(h:b=0):U7 b=false:=by unfold U7;rw [if_pos h]
theorem restN_1 (a:Int) {b:Int}(h:b≠0):U6 a b=a.tmod b:=by unfold U6;rw [if_neg h]
theorem restB_1 {b:Int}(h:b≠0):U7 b=true:=by unfold U7;rw [if_neg h]
theorem VK {a b:Int}(a1:-9223372036854775808≤a) (a2:a≤jX) (h0:b≠0) (h1:b≠-1):fitB (a.tdiv b)=true:=by
 by_cases h2:b=1
 ·subst h2;rw [Int.tdiv_one];exact KH a1 a2
 ·have h3:2≤b.natAbs:=by omega
  have h4:(a.tdiv b).natAbs≤a.natAbs / 2:=by rw [Int.natAbs_tdiv];exact Nat.div_le_div_left h3 (by decide)
  apply KH <;> omega
theorem tmod_bound {a b:Int}(h0:b≠0):(a.tmod b).natAbs < b.natAbs:=by
 rw [Int.natAbs_tmod];exact Nat.mod_lt _ zY
end Fx
namespace Fx
theorem UH (r:BitVec 64):IntKind.i64.wrap (r.toNat:Int) < 0 ↔ r.msb=true:=by
 rw [IntKind.wrap_i64,BitVec.msb_eq_decide,decide_eq_true_iff]
 have:=r.isLt
 omega
theorem XD (x:Int) (h1:-9223372036854775808≤x) (h2:x≤jX):(BitVec.ofInt 64 x).msb=true ↔ x < 0:=by
 rw [BitVec.msb_eq_decide,decide_eq_true_iff,BitVec.toNat_ofInt]
 omega
theorem QgX (x y:Int) (h1:-9223372036854775808≤x) (h2:x≤jX) (h3:-9223372036854775808≤y) (h4:y≤jX) :
  bits BinOp.and IntKind.i64 x y < 0 ↔ (x < 0∧y < 0):=by
 have e:bits BinOp.and IntKind.i64 x y=IntKind.i64.wrap ((BitVec.ofInt 64 x &&& BitVec.ofInt 64 y).toNat:Int):=rfl
 rw [e,UH,BitVec.msb_and,Bool.and_eq_true,XD x h1 h2,XD y h3 h4]
theorem Qa0 (x y:Int) (h1:-9223372036854775808≤x) (h2:x≤jX) (h3:-9223372036854775808≤y) (h4:y≤jX) :
  bits BinOp.xor IntKind.i64 x y < 0 ↔ ¬ (x < 0 ↔ y < 0):=by
 have e:bits BinOp.xor IntKind.i64 x y=IntKind.i64.wrap ((BitVec.ofInt 64 x ^^^ BitVec.ofInt 64 y).toNat:Int):=rfl
 rw [e,UH,BitVec.msb_xor]
 have hx:=XD x h1 h2
 have hy:=XD y h3 h4
 cases h:(BitVec.ofInt 64 x).msb <;> cases h':(BitVec.ofInt 64 y).msb <;> rw [h] at hx <;> rw [h'] at hy <;> simp_all
theorem Vx (a b c d:Int) (ha1:-9223372036854775808≤a) (ha2:a≤jX) (hb1:-9223372036854775808≤b) (hb2:b≤jX)
  (hc1:-9223372036854775808≤c) (hc2:c≤jX) (hd1:-9223372036854775808≤d) (hd2:d≤jX) :
  bits BinOp.and IntKind.i64 (bits BinOp.xor IntKind.i64 a b) (bits BinOp.xor IntKind.i64 c d) < 0 ↔ (¬ (a < 0 ↔ b < 0)∧¬ (c < 0 ↔ d < 0)):=by
 rw [QgX _ _ (bits_lo_i64 _ _ _) (bits_hi_i64 _ _ _) (bits_lo_i64 _ _ _) (bits_hi_i64 _ _ _),Qa0 a b ha1 ha2 hb1 hb2,Qa0 c d hc1 hc2 hd1 hd2]
theorem wrap64_lo (n:Int):-9223372036854775808≤wrap64 n:=by unfold wrap64;omega
theorem wrap64_hi (n:Int):wrap64 n≤jX:=by unfold wrap64;omega
end Fx
namespace Fx
set_option maxHeartbeats 400000
theorem ret1 {k:IntKind}{a b:Int}(h:a=b):Ending.returned (.int k a)=.returned (.int k b):=by rw [h]
theorem ret2 {k:IntKind}{a b:Int}{p q:Bool}(h:a=b) (h':p=q):Ending.returned (.tuple #[.int k a,.bool p])=.returned (.tuple #[.int k b,.bool q]):=by rw [h,h']
theorem JZ (a:Int) (h1:-9223372036854775808≤a) (h2:a≤jX) (w:yW) :
  Calls zG 42 #[zI a] w fun e w'=>e=.returned (.int .u64 (a.natAbs:Int))∧w'=w:=by
 by_cases h:a < 0
 ·go_enter func42,ntmps42
  go_wp2
  go_ret
  exact⟨ret1 (by simp only [IntKind.wrap_u64];omega),rfl⟩
 ·have h:0≤a:=by omega
  go_enter func42,ntmps42
  go_wp2
  go_ret
  exact⟨ret1 zY,rfl⟩
theorem He (a b:Int) (a1:-9223372036854775808≤a) (a2:a≤jX) (b1:-9223372036854775808≤b) (b2:b≤jX) :
  bits BinOp.and IntKind.i64 (bits BinOp.xor IntKind.i64 a (wrap64 (a+b))) (bits BinOp.xor IntKind.i64 b (wrap64 (a+b))) < 0 ↔ fitB (a+b)=false:=by
 rw [Vx a (wrap64 (a+b)) b (wrap64 (a+b)) a1 a2 (wrap64_lo _) (wrap64_hi _) b1 b2 (wrap64_lo _) (wrap64_hi _)]
 constructor
 ·intro h;apply JV;unfold wrap64 at h;omega
 ·intro h
  have h':¬ (-9223372036854775808≤a+b∧a+b≤jX):=by rw [← fitB_iff,h];decide
  unfold wrap64;omega
theorem VM (a b:Int) (a1:-9223372036854775808≤a) (a2:a≤jX) (b1:-9223372036854775808≤b) (b2:b≤jX) :
  bits BinOp.and IntKind.i64 (bits BinOp.xor IntKind.i64 a b) (bits BinOp.xor IntKind.i64 a (wrap64 (a - b))) < 0 ↔ fitB (a - b)=false:=by
 rw [Vx a b a (wrap64 (a - b)) a1 a2 b1 b2 a1 a2 (wrap64_lo _) (wrap64_hi _)]
 constructor
 ·intro h;apply JV;unfold wrap64 at h;omega
 ·intro h
  have h':¬ (-9223372036854775808≤a - b∧a - b≤jX):=by rw [← fitB_iff,h];decide
  unfold wrap64;omega
theorem Xv {n:Int}(h:fitB n=true):wrap64 n=fitN n:=by
 rw [fitN_true h];rw [fitB_iff] at h;unfold wrap64;omega
theorem Xj {b:Bool}(h:¬ b=false):b=true:=by cases b <;> simp_all
theorem add_any (a b:Int) (a1:-9223372036854775808≤a) (a2:a≤jX) (b1:-9223372036854775808≤b) (b2:b≤jX) (w:yW) :
  Calls zG 15 #[zI a,zI b] w fun e w'=>e=.returned (.tuple #[zI (fitN (a+b)),.bool (fitB (a+b))])∧w'=w:=by
 go_enter func15,ntmps15
 go_wp2
 ·have h:=(He a b a1 a2 b1 b2).1 (by assumption)
  go_ret2
  exact⟨ret2 (fitN_false h).symm h.symm,rfl⟩
 ·have h:fitB (a+b)=true:=Xj (fun h=>by have:=(He a b a1 a2 b1 b2).2 h;omega)
  go_ret2
  exact⟨ret2 (Xv h) h.symm,rfl⟩
theorem sub_any (a b:Int) (a1:-9223372036854775808≤a) (a2:a≤jX) (b1:-9223372036854775808≤b) (b2:b≤jX) (w:yW) :
  Calls zG 16 #[zI a,zI b] w fun e w'=>e=.returned (.tuple #[zI (fitN (a - b)),.bool (fitB (a - b))])∧w'=w:=by
 go_enter func16,ntmps16
 go_wp2
 ·have h:=(VM a b a1 a2 b1 b2).1 (by assumption)
  go_ret2
  exact⟨ret2 (fitN_false h).symm h.symm,rfl⟩
 ·have h:fitB (a - b)=true:=Xj (fun h=>by have:=(VM a b a1 a2 b1 b2).2 h;omega)
  go_ret2
  exact⟨ret2 (Xv h) h.symm,rfl⟩
theorem neg_any (a:Int) (a1:-9223372036854775808≤a) (a2:a≤jX) (w:yW) :
  Calls zG 44 #[zI a] w fun e w'=>e=.returned (.tuple #[zI (fitN (-a)),.bool (fitB (-a))])∧w'=w:=by
 by_cases h:a = -9223372036854775808
 ·have h':(a == -9223372036854775808)=true:=by simp [h]
  have hb:Hid (fitB (-a)=false):=JV zY
  clear h
  go_enter func44,ntmps44
  go_wp2
  go_ret2
  exact⟨ret2 (fitN_false hb.out).symm hb.out.symm,rfl⟩
 ·have h':(a == -9223372036854775808)=false:=by simp [h]
  have hb:Hid (fitB (-a)=true):=KH zY zY
  clear h
  go_enter func44,ntmps44
  go_wp2
  go_ret2
  exact⟨ret2 (Xv hb.out) hb.out.symm,rfl⟩
theorem cmp_any (a b:Int) (w:yW) :
  Calls zG 167 #[zI a,zI b] w fun e w'=>e=.returned (zI (cmpN a b))∧w'=w:=by
 go_enter func167,ntmps167
 go_wp2
 ·go_ret
  exact⟨ret1 (QgH zY).symm,rfl⟩
 ·go_ret
  exact⟨ret1 (QgI zY).symm,rfl⟩
 ·go_ret
  exact⟨ret1 (QgJ zY).symm,rfl⟩
def XI (m:Nat) (p:Bool):Int:=if p=true then -(m:Int) else m
theorem UR (m:Nat):XI m false=m:=rfl
theorem UQ (m:Nat):XI m true = -(m:Int):=rfl
theorem FW (m:Nat) (p:Bool) (h:m < 18446744073709551616) (w:yW) :
  Calls zG 43 #[.int .u64 m,.bool p] w fun e w'=>e=.returned (.tuple #[zI (fitN (XI m p)),.bool (fitB (XI m p))])∧w'=w:=by
 cases p
 ·by_cases hm:(m:Int) < 9223372036854775808
  ·have hb:Hid (fitB (XI m false)=true):=KH (by simp only [UR];omega) (by simp only [UR];omega)
   go_enter func43,ntmps43
   go_wp2
   go_ret2
   exact⟨ret2 (by rw [fitN_true hb.out,UR]) hb.out.symm,rfl⟩
  ·have hb:Hid (fitB (XI m false)=false):=JV (by simp only [UR];omega)
   go_enter func43,ntmps43
   go_wp2
   go_ret2
   exact⟨ret2 (fitN_false hb.out).symm hb.out.symm,rfl⟩
 ·by_cases hm:(m:Int)≤9223372036854775808
  ·have hb:Hid (fitB (XI m true)=true):=KH (by simp only [UQ];omega) (by simp only [UQ];omega)
   go_enter func43,ntmps43
   go_wp2
   go_ret2
   exact⟨ret2 (by rw [fitN_true hb.out,UQ,IntKind.wrap_u64];unfold wrap64;omega) hb.out.symm,rfl⟩
  ·have hb:Hid (fitB (XI m true)=false):=JV (by simp only [UQ];omega)
   go_enter func43,ntmps43
   go_wp2
   go_ret2
   exact⟨ret2 (fitN_false hb.out).symm hb.out.symm,rfl⟩
theorem div_any (a b:Int) (a1:-9223372036854775808≤a) (a2:a≤jX) (w:yW) :
  Calls zG 18 #[zI a,zI b] w fun e w'=>e=.returned (.tuple #[zI (byN a b),.bool (byB a b)])∧w'=w:=by
 by_cases h0:b=0
 ·have h':(b == 0)=true:=by simp [h0]
  have hn:Hid (b=0):=h0
  clear h0
  go_enter func18,ntmps18
  go_wp2
  go_ret2
  exact⟨ret2 (byN_0 a hn.out).symm (byB_0 a hn.out).symm,rfl⟩
 ·have h':(b == 0)=false:=by simp [h0]
  by_cases h1:b = -1
  ·have h'':(b == -1)=true:=by simp [h1]
   have hn:Hid (byN a b=fitN (-a)∧byB a b=fitB (-a)):=⟨by rw [byN_1 a h0,h1,Int.tdiv_neg,Int.tdiv_one],by rw [byB_1 a h0,h1,Int.tdiv_neg,Int.tdiv_one]⟩
   clear h0 h1
   go_enter func18,ntmps18
   go_wp2_with fail
   refine (neg_any a a1 a2 _).mono ?_
   rintro e w' ⟨rfl,rfl⟩
   go_wp2
   go_ret2
   exact⟨ret2 hn.out.1.symm hn.out.2.symm,rfl⟩
  ·have h'':(b == -1)=false:=by simp [h1]
   have hn:Hid (byN a b=fitN (a.tdiv b)∧byB a b=true):=⟨byN_1 a h0,by rw [byB_1 a h0];exact VK a1 a2 h0 h1⟩
   have hf:=zH (VK a1 a2 h0 h1)
   clear h1
   go_enter func18,ntmps18
   go_wp2
   go_ret2
   exact⟨ret2 (by rw [hn.out.1];exact Xv hf.out) hn.out.2.symm,rfl⟩
theorem mod_any (a b:Int) (w:yW) :
  Calls zG 19 #[zI a,zI b] w fun e w'=>e=.returned (.tuple #[zI (U6 a b),.bool (U7 b)])∧w'=w:=by
 by_cases h0:b=0
 ·have h':(b == 0)=true:=by simp [h0]
  have hn:Hid (b=0):=h0
  clear h0
  go_enter func19,ntmps19
  go_wp2
  go_ret2
  exact⟨ret2 (QfW a hn.out).symm (QfX hn.out).symm,rfl⟩
 ·have h':(b == 0)=false:=by simp [h0]
  by_cases h1:b = -1
  ·have h'':(b == -1)=true:=by simp [h1]
   have hn:Hid (U6 a b=0∧U7 b=true):=⟨by rw [restN_1 a h0,h1];have:=tmod_bound (a:=a) (b:=-1) (by decide);omega,restB_1 h0⟩
   clear h0 h1
   go_enter func19,ntmps19
   go_wp2
   go_ret2
   exact⟨ret2 hn.out.1.symm hn.out.2.symm,rfl⟩
  ·have h'':(b == -1)=false:=by simp [h1]
   have hn:Hid (U6 a b=a.tmod b∧U7 b=true):=⟨restN_1 a h0,restB_1 h0⟩
   clear h1
   go_enter func19,ntmps19
   go_wp2
   go_ret2
   exact⟨ret2 (by rw [hn.out.1]) hn.out.2.symm,rfl⟩
end Fx
namespace Fx
set_option maxHeartbeats 1000000
theorem ret2n {k:IntKind}{a b c d:Int}(h:a=b) (h':c=d):Ending.returned (.tuple #[.int k a,.int k c])=.returned (.tuple #[.int k b,.int k d]):=by rw [h,h']
theorem QdP (x y:Nat) (hx:x < 18446744073709551616) (hy:y < 18446744073709551616) :
  ∃ A X Y L:Nat,(x / 4294967296) * (y / 4294967296)=A∧(x / 4294967296) * (y % 4294967296)=X∧(x % 4294967296) * (y / 4294967296)=Y∧(x % 4294967296) * (y % 4294967296)=L ∧
   A≤18446744065119617025∧X≤18446744065119617025∧Y≤18446744065119617025∧L≤18446744065119617025∧x * y=A * 18446744073709551616+(X+Y) * 4294967296+L:=by
 have top:∀ a b:Nat,a≤4294967295→b≤4294967295→a * b≤18446744065119617025:=fun a b ha hb=>Nat.mul_le_mul ha hb
 refine⟨_,_,_,_,rfl,rfl,rfl,rfl,top _ _ zY zY,top _ _ zY zY,top _ _ zY zY,top _ _ zY zY,?_⟩
 obtain⟨a,ha⟩:∃ a,x / 4294967296=a:=jV
 obtain⟨b,hb⟩:∃ b,x % 4294967296=b:=jV
 obtain⟨c,hc⟩:∃ c,y / 4294967296=c:=jV
 obtain⟨d,hd⟩:∃ d,y % 4294967296=d:=jV
 have ex:x=a * 4294967296+b:=by omega
 have ey:y=c * 4294967296+d:=by omega
 rw [ha,hb,hc,hd,ex,ey]
 have e1:(a * 4294967296+b) * (c * 4294967296+d)=(a * 4294967296) * (c * 4294967296)+(a * 4294967296) * d+(b * (c * 4294967296)+b * d):=by
  rw [Nat.add_mul,Nat.mul_add,Nat.mul_add]
 have e2:(a * 4294967296) * (c * 4294967296)=a * c * 18446744073709551616:=by rw [Nat.mul_mul_mul_comm]
 have e3:(a * 4294967296) * d=a * d * 4294967296:=Nat.mul_right_comm _ _ _
 have e4:b * (c * 4294967296)=b * c * 4294967296:=(Nat.mul_assoc _ _ _).symm
 rw [e1,e2,e3,e4]
 generalize a * c=p
 generalize a * d=q
 generalize b * c=r
 generalize b * d=t
 omega
theorem Vk (a:Int) (h0:0≤a) (h1:a≤18446744073709551615):bits .and .u64 a 4294967295=a % 4294967296:=by
 obtain⟨n,rfl⟩:=Int.eq_ofNat_of_zero_le h0
 rw [show (4294967295:Int)=((4294967295:Nat):Int) from rfl,bits_and_u64_nat n 4294967295 zY (by decide),show (4294967295:Nat)=2 ^ 32 - 1 from rfl,Nat.and_two_pow_sub_one_eq_mod]
 exact Int.natCast_emod n (2 ^ 32)
theorem Xu (a b m:Nat) (p q:Int) (hp:p=(a:Int)) (hq:q=(b:Int)) (h:a * b=m) (hm:m≤18446744065119617025):IntKind.u64.wrap (p * q)=(m:Int):=by
 subst hp;subst hq
 rw [← Int.natCast_mul,h,IntKind.wrap_u64]
 omega
theorem VU (x y:Nat) (hx:x < 18446744073709551616) (hy:y < 18446744073709551616) (w:yW) :
  Calls zG 41 #[.int .u64 x,.int .u64 y] w fun e w'=>e=.returned (.tuple #[.int .u64 ((x * y / 18446744073709551616:Nat):Int),.int .u64 ((x * y % 18446744073709551616:Nat):Int)])∧w'=w:=by
 obtain⟨A,X,Y,L,eA,eX,eY,eL,bA,bX,bY,bL,e⟩:=QdP x y hx hy
 have k1:=Vk (x:Int) zY zY
 have k2:=Vk (y:Int) zY zY
 have k3:=Vk ((X:Int)+(L:Int) / 4294967296) zY zY
 have kA:=Xu (x / 4294967296) (y / 4294967296) A ((x:Int) / 4294967296) ((y:Int) / 4294967296) zY zY eA bA
 have kX:=Xu (x / 4294967296) (y % 4294967296) X ((x:Int) / 4294967296) ((y:Int) % 4294967296) zY zY eX bX
 have kY:=Xu (x % 4294967296) (y / 4294967296) Y ((x:Int) % 4294967296) ((y:Int) / 4294967296) zY zY eY bY
 have kL:=Xu (x % 4294967296) (y % 4294967296) L ((x:Int) % 4294967296) ((y:Int) % 4294967296) zY zY eL bL
 have HE:=zH e
 have HL:Hid (IntKind.u64.wrap ((x:Int) * (y:Int))=((x * y % 18446744073709551616:Nat):Int)):=by
  show IntKind.u64.wrap ((x:Int) * (y:Int))=((x * y % 18446744073709551616:Nat):Int)
  rw [← Int.natCast_mul,IntKind.wrap_u64];omega
 clear eA eX eY eL e
 go_enter func41,ntmps41
 go_wp2
 go_ret2
 refine⟨ret2n ?_ HL.out,rfl⟩
 rw [HE.out]
 omega
theorem Qdq (a b:Int) (h:(a.natAbs * b.natAbs:Nat)=(a * b).natAbs) (p:Bool) (hp:p=(!(decide (a < 0) == decide (b < 0)))):XI (a.natAbs * b.natAbs) p=a * b:=by
 subst hp
 unfold XI
 rw [h]
 by_cases ha:a < 0 <;> by_cases hb:b < 0
 ·have:=Int.mul_nonneg_of_nonpos_of_nonpos (a:=a) (b:=b) zY zY
  simp [ha,hb];omega
 ·have:=Int.mul_nonpos_of_nonpos_of_nonneg (a:=a) (b:=b) zY zY
  simp [ha,hb];omega
 ·have:=Int.mul_nonpos_of_nonneg_of_nonpos (a:=a) (b:=b) zY zY
  simp [ha,hb];omega
 ·have:=Int.mul_nonneg (a:=a) (b:=b) zY zY
  simp [ha,hb];omega
theorem mul_any (a b:Int) (a1:-9223372036854775808≤a) (a2:a≤jX) (b1:-9223372036854775808≤b) (b2:b≤jX) (w:yW) :
  Calls zG 17 #[zI a,zI b] w fun e w'=>e=.returned (.tuple #[zI (fitN (a * b)),.bool (fitB (a * b))])∧w'=w:=by
 have hab:a.natAbs * b.natAbs=(a * b).natAbs:=(Int.natAbs_mul a b).symm
 by_cases hh:a.natAbs * b.natAbs < 18446744073709551616
 ·have e1:Hid (a.natAbs * b.natAbs / 18446744073709551616=0):=Nat.div_eq_of_lt hh
  have e2:=zH (Nat.mod_eq_of_lt hh)
  have e3:=zH (Qdq a b hab)
  clear hab
  go_enter func17,ntmps17
  go_wp2_with fail
  refine (JZ a a1 a2 _).mono ?_
  rintro e w' ⟨rfl,rfl⟩
  go_wp2_with fail
  refine (JZ b b1 b2 _).mono ?_
  rintro e w' ⟨rfl,rfl⟩
  go_wp2_with fail
  refine (VU _ _ zY zY _).mono ?_
  rintro e w' ⟨rfl,rfl⟩
  rw [e1.out,e2.out]
  go_wp2_with fail
  refine (FW _ _ hh _).mono ?_
  rintro e w' ⟨rfl,rfl⟩
  rw [e3.out _ rfl]
  go_wp2
  go_ret2
  exact⟨rfl,rfl⟩
 ·have e1:Hid (∃ k:Nat,0 < k∧a.natAbs * b.natAbs / 18446744073709551616=k):=⟨_,by omega,rfl⟩
  have hb:Hid (fitB (a * b)=false):=JV zY
  clear hab
  go_enter func17,ntmps17
  go_wp2_with fail
  refine (JZ a a1 a2 _).mono ?_
  rintro e w' ⟨rfl,rfl⟩
  go_wp2_with fail
  refine (JZ b b1 b2 _).mono ?_
  rintro e w' ⟨rfl,rfl⟩
  go_wp2_with fail
  refine (VU _ _ zY zY _).mono ?_
  rintro e w' ⟨rfl,rfl⟩
  obtain⟨k,hk,hk'⟩:=e1.out
  rw [hk']
  have hk2:((k:Int) != 0)=true:=by simp;omega
  clear hk'
  go_wp2
  go_ret2
  exact⟨ret2 (fitN_false hb.out).symm hb.out.symm,rfl⟩
end Fx
end Go.Proofs.YtfbjofnaghjmeaaGreatDoor
