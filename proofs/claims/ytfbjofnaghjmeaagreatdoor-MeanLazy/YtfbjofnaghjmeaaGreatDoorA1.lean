import Derived.Test.YtfbjofnaghjmeaaGreatDoorA0
import Derived.Test.YtfbjofnaghjmeaaGreatDoorProg
import Derived.WalkKit
import Derived.ProofKit
import Derived.Outline
import Derived.Below
import Derived.Deep.QuietTactic
import Derived.BigQuiet
import Derived.Laws.Rows
import Derived.Deep.DeepCutAuto
import Derived.Deep.CutRange
import Derived.OwnWalk
import Derived.WalkSmall
namespace Go.Proofs.YtfbjofnaghjmeaaGreatDoor
open Go.RowKit
def letB (c:UInt8):Bool:=decide (97≤c.toNat∧c.toNat≤122)
def digB (c:UInt8):Bool:=decide (48≤c.toNat∧c.toNat≤57)
def upB (c:UInt8):Bool:=decide (65≤c.toNat∧c.toNat≤90)
def goB (c:UInt8):Bool:=letB c || digB c || decide (c.toNat=95)
def Jj (c:UInt8):Bool:=decide (c.toNat=32) || decide (c.toNat=9) || decide (c.toNat=10) || decide (c.toNat=13)
def remB (r:Bool) (c:UInt8):Bool:=if c.toNat=35 then true else if c.toNat=10 then false else r
def ov:List UInt8→Bool→Nat
 | [],_=>0
 | c :: l,r=>if remB r c=false∧Jj c=false then 0 else ov l (remB r c)+1
theorem Qd0:∀ (l:List UInt8) (r:Bool),ov l r≤l.length
 | [],_=>Nat.le_refl _
 | c :: l,r=>by
  have:=Qd0 l (remB r c)
  unfold ov
  split
  ·exact Nat.zero_le _
  ·simp only [List.length_cons];omega
def lead (p:UInt8→Bool):List UInt8→Nat
 | []=>0
 | c :: l=>if p c=true then lead p l+1 else 0
theorem KV (p:UInt8→Bool):∀ l:List UInt8,lead p l≤l.length
 | []=>Nat.le_refl _
 | c :: l=>by
  have:=KV p l
  unfold lead
  split
  ·simp only [List.length_cons];omega
  ·exact Nat.zero_le _
def nmS:List UInt8→Nat→Nat→Option (Nat × Nat)
 | [],n,k=>some (n,k)
 | c :: l,n,k=>if digB c=true then (if n > 922337203685477580 then none else nmS l (10 * n+(c.toNat - 48)) (k+1)) else some (n,k)
def Kt:List yB:=[⟨#[97,98,115]⟩,Z1,⟨#[97,115]⟩,⟨#[97,115,107]⟩,⟨#[97,116]⟩,⟨#[98,105,100]⟩,Zq,Zj,Z2,⟨#[100,111]⟩,⟨#[102,97,108,115,101]⟩,Zr,Z3,Z4,Zl,Zm,Zs,⟨#[108,97,115,116]⟩,Zt,Zx,⟨#[109,97,120]⟩,⟨#[109,105,110]⟩,⟨#[110,111,119]⟩,⟨#[111,102]⟩,⟨#[111,112,101,110]⟩,Zu,Zn,Zo,Zb,⟨#[115,101,108,108]⟩,Z5,Zv,Za,Zc,Zw,Z0,Zp,⟨#[116,111]⟩,⟨#[116,114,117,101]⟩,⟨#[118,111,108,117,109,101]⟩,Zd]
def XT:List yB:=[⟨#[61,61]⟩,⟨#[33,61]⟩,⟨#[60,61]⟩,⟨#[62,61]⟩,Z7,Zk,Zg,Ze,⟨#[40]⟩,⟨#[41]⟩,Z8,Z9,⟨#[63]⟩,⟨#[58]⟩,Zh,⟨#[33]⟩,⟨#[60]⟩,⟨#[62]⟩,⟨#[43]⟩,Zi,⟨#[42]⟩,⟨#[47]⟩,⟨#[37]⟩]
def wd (i:Nat):yB:=Kt.getD i ⟨#[]⟩
def mk (i:Nat):yB:=XT.getD i ⟨#[]⟩
def isW (x:yB):Bool:=Kt.any (fun y=>y.data.toList == x.data.toList)
structure Tk where
 k:Int
 x:yB
 ty:Int
 n:Int
 p:Int
def tkA (t:Tk):Array Value:=#[zU t.k,.string t.x,zU t.ty,zI t.n,zI t.p]
def tk0:Tk:=⟨0,⟨#[]⟩,0,0,0⟩
def rest (s:yB) (a:Nat):List UInt8:=s.data.toList.drop a
theorem H9 (s:yB):s.data.toList.length=s.size:=by
 cases s;simp [ByteArray.size]
theorem QY (s:yB) (i:Nat) (h:i < s.size):rest s i=s[i] :: rest s (i+1):=by
 unfold rest
 rw [List.drop_eq_getElem_cons (by rw [H9];exact h)]
 rfl
theorem Jt (s:yB) (i:Nat) (h:s.size≤i):rest s i = []:=List.drop_eq_nil_of_le (by rw [H9];exact h)
theorem Jl (s:yB) (a:Nat):(rest s a).length=s.size - a:=by unfold rest;rw [List.length_drop,H9]
theorem Qe (w:yW) (o:Obj):(w.alloc o)§=w§+1:=by simp
theorem Qc (w:yW) (o:Obj):(w.alloc o).heap[w§]? = some o:=by
 show (w.heap.push o)[w§]? = _
 simp
theorem Qb (w:yW) (o:Obj):yD w (w.alloc o):=(Below.refl _ w).alloc (Nat.le_refl _) o
theorem Jd (w:yW) (a:Array Value) (t:TypeId) (j:Nat):(zA w a t).cell? w§¢j=a[j]?:=by
 unfold World.cell? World.alloc;simp
theorem retI {a b:Int}(h:a=b):Ending.returned (zI a)=.returned (zI b):=by rw [h]
theorem retB {a b:Bool}(h:a=b):Ending.returned (.bool a)=.returned (.bool b):=by rw [h]
theorem Xc {a b:yB}(h:a.data.toList=b.data.toList):a=b:=by
 cases a;cases b
 simp at h
 rw [h]
theorem K0 (c:UInt8):(c.toNat:Int)≤255:=by have:=c.toNat_lt;omega
theorem X6 {c:UInt8}{l:List UInt8}{r:Bool}(h1:remB r c=false) (h2:Jj c=false):ov (c :: l) r=0:=by unfold ov;rw [if_pos ⟨h1,h2⟩]
theorem XL {c:UInt8}{l:List UInt8}{r:Bool}(h:¬ (remB r c=false∧Jj c=false)):ov (c :: l) r=ov l (remB r c)+1:=by rw [ov,if_neg h]
def Ut:Array Value:=(Kt.map Value.string).toArray
def UD:Array Value:=(XT.map Value.string).toArray
theorem FJ (w:yW) (j:Nat) (h:j < 41):(zA w Ut 9).cell? w§¢j=some (.string (wd j)):=by
 rw [Jd]
 unfold Ut wd
 have hl:j < Kt.length:=h
 simp [List.getElem?_map,List.getElem?_eq_getElem hl,List.getD]
theorem U0 {a b:yB}(h:¬ a=b):(a.toList == b.toList)=false:=by
 rw [ByteArray.toList_eq,ByteArray.toList_eq]
 exact beq_false_of_ne (fun h'=>h (Xc h'))
theorem Qbs {s:yB}{i:Nat}(h:i < 41) (e:wd i=s):isW s=true:=by
 unfold isW
 rw [List.any_eq_true]
 have hl:i < Kt.length:=h
 refine⟨Kt[i],List.getElem_mem hl,?_⟩
 have:wd i=Kt[i]:=by unfold wd;simp [List.getD,hl]
 rw [← this,e]
 simp
theorem QeA {s:yB}(h:∀ j,j < 41→¬ wd j=s):isW s=false:=by
 unfold isW
 rw [List.any_eq_false]
 intro x hx e
 obtain⟨i,hi,rfl⟩:=List.mem_iff_getElem.1 hx
 refine h i hi ?_
 have e2:wd i=Kt[i]:=by unfold wd;simp [List.getD,hi]
 rw [e2]
 exact Xc (by simpa using e)
theorem Qi {P:Program}{fn:Func}{p u:Tmp}{ty:TypeId}(h:fn.results=#[.cell p ty,.tmp u]) (tmps:Array Value) (w:yW) (g:Nat) (t:TypeId) (cs:Array Value) (fr:Nat × Nat) (d:TypeDesc)
  (hp:tmps.getD p undef=zP g) (hg:w.heap[g]? = some (.cells cs t fr))
  (hu:P.underlying ty=some d) (hd:(match d with | .struct _ | .array _ _=>true | _=>false)=true) (hi:(P.info? ty).map (·.size)=some cs.size) :
  (results fn tmps).run P w=.ok (.tuple #[.agg cs,tmps.getD u undef]) w:=by
 have hp':tmps[p]?.getD undef=zP g:=by simpa using hp
 simp [results,h,hp',asAddr,run_loadVar_row w g t ty cs fr d hg hu hd hi]
theorem Jc {P:Program}{fn:Func}{p u v:Tmp}{ty:TypeId}(h:fn.results=#[.cell p ty,.tmp u,.tmp v]) (tmps:Array Value) (w:yW) (g:Nat) (t:TypeId) (cs:Array Value) (fr:Nat × Nat) (d:TypeDesc)
  (hp:tmps.getD p undef=zP g) (hg:w.heap[g]? = some (.cells cs t fr))
  (hu:P.underlying ty=some d) (hd:(match d with | .struct _ | .array _ _=>true | _=>false)=true) (hi:(P.info? ty).map (·.size)=some cs.size) :
  (results fn tmps).run P w=.ok (.tuple #[.agg cs,tmps.getD u undef,tmps.getD v undef]) w:=by
 have hp':tmps[p]?.getD undef=zP g:=by simpa using hp
 simp [results,h,hp',asAddr,run_loadVar_row w g t ty cs fr d hg hu hd hi]
theorem Qk (w:yW) (X Y:Obj):yD w ((w.alloc X).alloc Y):=(Qb w X).alloc (by rw [Qe];omega) Y
theorem Qz {w:yW}{o:Obj}{k:Nat}{x:Option Obj}(h:w.heap[k]? = x) (hk:k < w§):(w.alloc o).heap[k]? = x:=(Below.heap_alloc _ _ _ hk).trans h
theorem Qa {w:yW}{g:Nat}{cs:Array Value}{t:TypeId}{fr:Nat × Nat}(h:w.heap[g]? = some (.cells cs t fr)) (j:Nat):w.cell? g¢j=cs[j]?:=by
 unfold World.cell?;rw [h];simp
theorem Qf {w:yW}{g:Nat}{cs:Array Value}{t:TypeId}(h:w.heap[g]? = (zC cs t)) (j:Nat):zS w g¢j:=by
 unfold World.frozen?;rw [h];simp
theorem Qp {w:yW}{g j:Nat}{cs:Array Value}{t:TypeId}{fr:Nat × Nat}(v:Value) (h:w.heap[g]? = some (.cells cs t fr)):(w.setCell g¢j v).heap[g]? = some (.cells (cs.setIfInBounds j v) t fr):=by
 have hg:g < w§:=(zJ h).1
 have hv:w.heap[g]=.cells cs t fr:=(zJ h).2
 unfold World.setCell
 simp [hg,Array.getElem_modify,hv]
def TkH (w:yW) (b:Nat) (t:Tk):Prop:=w.heap[b]? = (zC (tkA t) 233)
theorem TkH.lt {w:yW}{b:Nat}{t:Tk}(h:TkH w b t):b < w§:=(zJ h).1
theorem TkH.onto {w w':yW}{b:Nat}{t:Tk}(h:TkH w b t) (k:yD w w'):TkH w' b t:=(k.block b h.lt).trans h
theorem TkH.hid {w:yW}{b:Nat}{t:Tk}(h:TkH w b t):Hid (TkH w b t):=h
theorem TkH.cells {w:yW}{b:Nat}{t:Tk}(h:TkH w b t):zQ w b¢0 (zU t.k)∧zQ w b¢1 (.string t.x)∧zQ w b¢2 (zU t.ty)∧zQ w b¢3 (zI t.n)∧zQ w b¢4 (zI t.p):=⟨Qa h 0,Qa h 1,Qa h 2,Qa h 3,Qa h 4⟩
theorem TkH.froz {w:yW}{b:Nat}{t:Tk}(h:TkH w b t):zS w b¢0∧zS w b¢1∧zS w b¢2∧zS w b¢3∧zS w b¢4:=⟨Qf h 0,Qf h 1,Qf h 2,Qf h 3,Qf h 4⟩
theorem TkH.put {w:yW}{b:Nat}{t:Tk}(h:TkH w b t) (u:Tk):TkH (((((w.setCell b¢0 (zU u.k)).setCell b¢1 (.string u.x)).setCell b¢2 (zU u.ty)).setCell b¢3 (zI u.n)).setCell b¢4 (zI u.p)) b u :=
 Qp _ (Qp _ (Qp _ (Qp _ (Qp _ h))))
theorem Qu {B:Nat}{w v:yW}{b:Nat}(h:Below B w v) (hb:B≤b) (v0 v1 v2 v3 v4:Value):Below B w (((((v.setCell b¢0 v0).setCell b¢1 v1).setCell b¢2 v2).setCell b¢3 v3).setCell b¢4 v4) :=
 ((((h.setCell (p:=b¢0) hb v0).setCell (p:=b¢1) hb v1).setCell (p:=b¢2) hb v2).setCell (p:=b¢3) hb v3).setCell (p:=b¢4) hb v4
def nmT (s:yB) (a:Nat):Tk:=if lead goB (rest s a) > 16 then tk0 else ⟨if isW (s.extract a (a+lead goB (rest s a)))=true then 1 else 2,s.extract a (a+lead goB (rest s a)),0,0,a⟩
def nmE (s:yB) (a:Nat):Int:=if lead goB (rest s a) > 16 then 112 else 0
def mkB (s:yB) (a i:Nat):Bool:=decide (a+(mk i).size≤s.size) && ((s.extract a (a+(mk i).size)).data.toList == (mk i).data.toList)
def mkO (s:yB) (a:Nat):Option Nat:=(List.range 23).find? (mkB s a)
def mkT (s:yB) (a:Nat):Tk:=match mkO s a with | none=>tk0 | some i=>⟨4,mk i,0,0,a⟩
def mkE (s:yB) (a:Nat):Int:=match mkO s a with | none=>111 | some _=>0
theorem Qen {s:yB}{a i:Nat}(hi:i < 23) (h:∀ j,j < i→mkB s a j=false) (hm:mkB s a i=true):mkO s a=some i:=by
 unfold mkO
 rw [List.find?_range_eq_some]
 exact⟨hm,by simpa using hi,fun j hj=>by rw [h j hj];rfl⟩
theorem Qeo {s:yB}{a:Nat}(h:∀ j,j < 23→mkB s a j=false):mkO s a=none:=by
 unfold mkO
 rw [List.find?_eq_none]
 intro x hx
 rw [h x (by simpa using hx)]
 decide
theorem QaF (w:yW) (j:Nat) (h:j < 23):(zA w UD 9).cell? w§¢j=some (.string (mk j)):=by
 rw [Jd]
 unfold UD mk
 have hl:j < XT.length:=h
 simp [List.getElem?_map,List.getElem?_eq_getElem hl,List.getD]
theorem Qgb (i:Nat):(mk i).size≤2:=by
 unfold mk
 by_cases h:i < 23
 ·have:∀ x ∈ XT,x.size≤2:=by decide
  have hl:i < XT.length:=h
  rw [List.getD,List.getElem?_eq_getElem hl]
  exact this _ (List.getElem_mem hl)
 ·rw [List.getD,List.getElem?_eq_none (by show 23≤i;omega)]
  decide
theorem XV {B:Nat}{w w':yW}(h:Below B w w') (n:Nat):Below B w (w'.drewN n):=⟨h.os,h.tape,h.output,h.size,h.block⟩
theorem TkH.drewN {w:yW}{b:Nat}{t:Tk}(h:TkH w b t) (n:Nat):TkH (w.drewN n) b t:=h
set_option linter.unusedSimpArgs false
def nbTy:List UInt8→Int
 | []=>1
 | c :: _=>if c.toNat=113 then 2 else if c.toNat=112 then 3 else if c.toNat=116 then 4 else 1
def badH:List UInt8→Bool
 | []=>false
 | c :: _=>goB c || upB c
def hd0 (l:List UInt8):Bool:=match l with | []=>false | c :: _=>decide (c.toNat=48)
def nbO (s:yB) (a:Nat):Option (Nat × Nat × Int) :=
 match nmS (rest s a) 0 0 with
 | none=>none
 | some (n,d) =>
  if n > jX∨(d > 1∧hd0 (rest s a)=true) then none
  else if badH (rest s (if nbTy (rest s (a+d))=1 then a+d else a+d+1))=true then none
  else some (n,if nbTy (rest s (a+d))=1 then a+d else a+d+1,nbTy (rest s (a+d)))
def nbT (s:yB) (a:Nat):Tk:=match nbO s a with | none=>tk0 | some (n,e,ty)=>⟨3,s.extract a e,ty,n,a⟩
def nbE (s:yB) (a:Nat):Int:=match nbO s a with | none=>113 | some _=>0
theorem Kq {s:yB}{a:Nat}(h:nbO s a=none):Hid (nbT s a=tk0∧nbE s a=113):=by show _∧_;unfold nbT nbE;rw [h];exact⟨rfl,rfl⟩
theorem JT {s:yB}{a n e:Nat}{ty:Int}(h:nbO s a=some (n,e,ty)):Hid (nbT s a=⟨3,s.extract a e,ty,n,a⟩∧nbE s a=0):=by show _∧_;unfold nbT nbE;rw [h];exact⟨rfl,rfl⟩
theorem QZ {s:yB}{a i n:Nat}(h:nmS (rest s a) 0 0=some (n,i - a)) (hi:a≤i):nbO s a=if n > jX∨(i - a > 1∧hd0 (rest s a)=true) then none else if badH (rest s (if nbTy (rest s i)=1 then i else i+1))=true then none else some (n,if nbTy (rest s i)=1 then i else i+1,nbTy (rest s i)):=by
 unfold nbO
 rw [h]
 simp only [show a+(i - a)=i by omega]
theorem QC (w:yW) (X Y:Obj):((w.alloc X).alloc Y).heap[w§]? = some X:=Qz (Qc w X) (by rw [Qe];omega)
def oneP (s:yB) (f:Nat):Nat:=f+ov (rest s f) false
def hdB (p:UInt8→Bool):List UInt8→Bool
 | []=>false
 | c :: _=>p c
def oneT (s:yB) (f:Nat):Tk :=
 if oneP s f=s.size then ⟨0,⟨#[]⟩,0,0,oneP s f⟩
 else if hdB letB (rest s (oneP s f))=true then nmT s (oneP s f)
 else if hdB digB (rest s (oneP s f))=true then nbT s (oneP s f) else mkT s (oneP s f)
def oneE (s:yB) (f:Nat):Int :=
 if oneP s f=s.size then 0
 else if hdB letB (rest s (oneP s f))=true then nmE s (oneP s f)
 else if hdB digB (rest s (oneP s f))=true then nbE s (oneP s f) else mkE s (oneP s f)
def oneB (s:yB) (f:Nat):Int:=if oneE s f=0 then 0 else oneP s f
def oneV (s:yB) (f:Nat):Value:=.tuple #[.agg (tkA (oneT s f)),zI (oneE s f),zI (oneB s f)]
theorem XC (s:yB) (f:Nat) (hf:f≤s.size):oneP s f≤s.size:=by
 unfold oneP
 have:=Qd0 (rest s f) false
 rw [Jl] at this
 omega
theorem X8:∀ (l:List UInt8) (n k n' k':Nat),nmS l n k=some (n',k')→k≤k'∧k'≤k+l.length∧(hdB digB l=true→k < k')
 | [],n,k,n',k',h=>by
  simp only [nmS,Option.some.injEq,Prod.mk.injEq] at h
  obtain⟨_,rfl⟩:=h
  exact⟨Nat.le_refl _,Nat.le_add_right _ _,fun h=>by simp [hdB] at h⟩
 | c :: l,n,k,n',k',h=>by
  unfold nmS at h
  by_cases hg:digB c=true
  ·rw [if_pos hg] at h
   by_cases hn:n > 922337203685477580
   ·rw [if_pos hn] at h;exact absurd h (by simp)
   ·rw [if_neg hn] at h
    have:=X8 l _ _ _ _ h
    refine⟨by omega,by simp only [List.length_cons];omega,fun _=>by omega⟩
  ·rw [if_neg hg] at h
   simp only [Option.some.injEq,Prod.mk.injEq] at h
   obtain⟨_,rfl⟩:=h
   exact⟨Nat.le_refl _,Nat.le_add_right _ _,fun h=>absurd h hg⟩
theorem let_go {c:UInt8}(h:letB c=true):goB c=true:=by
 unfold goB;simp [h]
theorem Ub {p:UInt8→Bool}{l:List UInt8}(h:hdB p l=true):0 < lead p l:=by
 cases l with
 | nil=>simp [hdB] at h
 | cons c l=>unfold lead;rw [if_pos (show p c=true from h)];omega
theorem QeJ {l:List UInt8}(h:hdB letB l=true):hdB goB l=true:=by
 cases l with
 | nil=>simp [hdB] at h
 | cons c l=>exact let_go h
theorem Ue (s:yB) (a b:Nat) (h:b≤s.size):(s.extract a b).size=b - a:=by
 rw [ByteArray.size_extract];omega
theorem Qem (i:Nat) (h:i < 23):0 < (mk i).size:=by
 have:∀ x ∈ XT,0 < x.size:=by decide
 have hl:i < XT.length:=h
 unfold mk
 rw [List.getD_eq_getElem?_getD,List.getElem?_eq_getElem hl]
 exact this _ (List.getElem_mem hl)
theorem Fa {s:yB}{a:Nat}(h:¬ nbTy (rest s a)=1):a < s.size:=by
 by_cases ha:a < s.size
 ·exact ha
 ·exfalso
  apply h
  have:rest s a = []:=by
   apply List.eq_nil_of_length_eq_zero
   rw [Jl];omega
  rw [this];rfl
theorem P6 (s:yB) (f:Nat) (hf:f≤s.size) (h:oneE s f=0) :
  (oneT s f).p=(oneP s f:Nat)∧f≤oneP s f∧oneP s f+(oneT s f).x.size≤s.size∧((oneT s f).k≠0→0 < (oneT s f).x.size):=by
 have hP:=XC s f hf
 have hfP:f≤oneP s f:=by unfold oneP;omega
 unfold oneE at h
 unfold oneT
 generalize oneP s f=d at *
 by_cases h0:d=s.size
 ·rw [if_pos h0]
  exact⟨rfl,hfP,(show d+0≤s.size from hP),fun h=>absurd rfl h⟩
 rw [if_neg h0] at h ⊢
 by_cases hl:hdB letB (rest s d)=true
 ·rw [if_pos hl] at h ⊢
  unfold nmE at h
  unfold nmT
  by_cases hk:lead goB (rest s d) > 16
  ·rw [if_pos hk] at h;exact absurd h (by decide)
  ·rw [if_neg hk]
   have hL:=KV goB (rest s d)
   rw [Jl] at hL
   have h1:=Ub (QeJ hl)
   have e:=Ue s d (d+lead goB (rest s d)) zY
   refine⟨rfl,hfP,?_,fun _=>?_⟩
   ·show d+(s.extract d _).size≤_
    rw [e];omega
   ·show 0 < (s.extract d _).size
    rw [e];omega
 rw [if_neg hl] at h ⊢
 by_cases hg:hdB digB (rest s d)=true
 ·rw [if_pos hg] at h ⊢
  unfold nbE at h
  unfold nbT
  cases ho:nbO s d with
  | none=>rw [ho] at h;exact absurd h (by decide)
  | some q =>
   obtain⟨n,e,ty⟩:=q
   have he:d < e∧e≤s.size:=by
    unfold nbO at ho
    cases hm:nmS (rest s d) 0 0 with
    | none=>rw [hm] at ho;exact absurd ho (by simp)
    | some q =>
     obtain⟨n2,k2⟩:=q
     have:=X8 _ _ _ _ _ hm
     rw [Jl] at this
     have h3:=this.2.2 hg
     rw [hm] at ho
     simp only at ho
     obtain⟨E,hE⟩:∃ E,(if nbTy (rest s (d+k2))=1 then d+k2 else d+k2+1)=E:=jV
     rw [hE] at ho
     have hE2:d < E∧E≤s.size:=by
      by_cases ht:nbTy (rest s (d+k2))=1
      ·rw [if_pos ht] at hE;omega
      ·rw [if_neg ht] at hE
       have:=Fa ht
       omega
     split at ho
     ·exact absurd ho (by simp)
     ·split at ho
      ·exact absurd ho (by simp)
      ·simp only [Option.some.injEq,Prod.mk.injEq] at ho
       obtain⟨_,ho,_⟩:=ho
       rw [← ho];exact hE2
   have ee:=Ue s d e he.2
   refine⟨rfl,hfP,?_,fun _=>?_⟩
   ·show d+(s.extract d _).size≤_
    rw [ee];omega
   ·show 0 < (s.extract d _).size
    rw [ee];omega
 rw [if_neg hg] at h ⊢
 unfold mkE at h
 unfold mkT
 cases ho:mkO s d with
 | none=>rw [ho] at h;exact absurd h (by decide)
 | some i =>
  unfold mkO at ho
  rw [List.find?_range_eq_some] at ho
  obtain⟨hm,hi,_⟩:=ho
  have hi':i < 23:=by simpa using hi
  unfold mkB at hm
  rw [Bool.and_eq_true] at hm
  exact⟨rfl,hfP,of_decide_eq_true hm.1,fun _=>Qem i hi'⟩
def Row (w:yW) (e:TypeId) (s:Nat) (v:Value) (n:Nat) (f:Nat→Value):Prop:=w.ownsRow 0 e s v n ((List.range (n * s)).map f)
theorem VD (m j:Nat) (f:Nat→Value) (u:Value):((List.range m).map f).set j u=(List.range m).map (fun i=>if i=j then u else f i):=by
 apply List.ext_getElem?
 intro i
 rw [List.getElem?_set,List.getElem?_map,List.getElem?_map,List.length_map,List.length_range]
 by_cases hi:i < m
 ·rw [List.getElem?_range hi]
  by_cases hj:j=i
  ·subst hj;simp [hi]
  ·rw [if_neg hj]
   show some (f i)=some (if i=j then u else f i)
   rw [if_neg (fun h=>hj h.symm)]
 ·rw [List.getElem?_eq_none (by simpa using hi)]
  by_cases hj:j=i
  ·subst hj;simp [hi]
  ·simp [hj]
section
variable {w : yW} {e : TypeId} {s n cap : Nat} {g : Nat} {f f' : Nat → Value} {v : Value}
theorem Row.cell (h:Row w e s (.slice (some g¢0) n cap) n f) {j:Nat}(hj:j < n * s):zQ w g¢j (f j):=by
 rw [World.ownsRow.cellAt h j hj,List.getElem?_map,List.getElem?_range hj];rfl
theorem Row.frozen (h:Row w e s (.slice (some g¢0) n cap) n f) (j:Nat):zS w g¢j:=World.ownsRow.frozenAt h j
theorem Row.set (h:Row w e s (.slice (some g¢0) n cap) n f) (j:Nat) (u:Value):Row (w.setCell g¢j u) e s (.slice (some g¢0) n cap) n (fun i=>if i=j then u else f i):=by
 have:=(World.ownsRow.stored h j u).1
 rwa [VD] at this
theorem Row.congr (h:Row w e s v n f) (he:∀ j,j < n * s→f j=f' j):Row w e s v n f':=by
 unfold Row at h ⊢
 have:(List.range (n * s)).map f=(List.range (n * s)).map f':=List.map_congr_left (fun j hj=>he j (by simpa using hj))
 rwa [this] at h
theorem Row.kept {w':yW}{row:Option Nat}(h:Row w e s v n f) (hg:w.grownBy w' row) (hne:v.ownBlock=none∨v.ownBlock≠row):Row w' e s v n f:=World.ownsRow.kept h hg hne
theorem Row.lt (h:Row w e s v n f):∀ k,v.ownBlock=some k→k < w§:=fun k hk=>(World.ownsRow.lt h k hk).2
theorem Row.nil (w:yW) (e:TypeId) (s:Nat) (f:Nat→Value):Row w e s (zO) 0 f:=by
 have:=World.ownsRow_nil w 0 e s
 simpa [Row] using this
theorem Row.kind (h:Row w e s v n f):∀ k,v.ownBlock=some k→∃ c fz,w.heap[k]? = some (.cells c e fz):=by
 intro k hk
 rcases h.2 with ⟨rfl,_⟩ | ⟨g',cap',cur,rfl,_,hg,_⟩
 ·simp [Value.ownBlock] at hk
 ·simp [Value.ownBlock] at hk
  subst hk
  exact⟨_,_,hg⟩
theorem Row.of_block {w':yW}(h:Row w e s v n f) (hb:∀ k,v.ownBlock=some k→w'.heap[k]? = w.heap[k]?):Row w' e s v n f:=by
 refine⟨h.1,?_⟩
 rcases h.2 with h' | ⟨g',cap',cur,rfl,h1,hg,h2⟩
 ·exact .inl h'
 ·exact .inr ⟨g',cap',cur,rfl,h1,(hb g' rfl).trans hg,h2⟩
theorem Row.alloc (h:Row w e s v n f) (o:Obj):Row (w.alloc o) e s v n f:=World.ownsRow.alloc h o
theorem Row.form (h:Row w e s v n f):∃ ao c,v=.slice ao n c∧(0 < n→∃ g,ao=some g¢0)∧((ao=none∧n=0∧c=0)∨∃ g,ao=some g¢0):=by
 rcases h.2 with ⟨rfl,rfl⟩ | ⟨g',cap',cur,rfl,_⟩
 ·exact⟨none,0,rfl,fun h=>by omega,.inl ⟨rfl,rfl,rfl⟩⟩
 ·exact⟨_,_,rfl,fun _=>⟨g',rfl⟩,.inr ⟨g',rfl⟩⟩
theorem Row.apart {e':TypeId}{s' n':Nat}{v':Value}(h:Row w e s v n f) (h':Row w e' s' v' n' f') (hne:e≠e'):∀ k,v.ownBlock=some k→v'.ownBlock≠some k:=by
 intro k hk hk'
 obtain⟨c,fz,h1⟩:=h.kind k hk
 obtain⟨c',fz',h2⟩:=h'.kind k hk'
 rw [h1] at h2
 simp at h2
 exact hne h2.2.1
theorem Row.snoc {v':Value}{news:List Value}{x:Nat→Value}(h:w.ownsRow 0 e s v' (n+1) ((List.range (n * s)).map f ++ news)) (hl:news.length=s) (hx:∀ j,j < s→news[j]? = some (x j)) :
  Row w e s v' (n+1) (fun j=>if j < n * s then f j else x (j - n * s)):=by
 unfold Row
 have:(List.range ((n+1) * s)).map (fun j=>if j < n * s then f j else x (j - n * s))=(List.range (n * s)).map f ++ news:=by
  apply List.ext_getElem?
  intro j
  have hm:(n+1) * s=n * s+s:=by rw [Nat.add_mul,Nat.one_mul]
  by_cases h1:j < n * s
  ·rw [List.getElem?_append_left (by simpa using h1),List.getElem?_map,List.getElem?_map,List.getElem?_range zY,List.getElem?_range h1]
   simp [h1]
  ·rw [List.getElem?_append_right (by simpa using Nat.le_of_not_lt h1),List.length_map,List.length_range]
   by_cases h2:j < (n+1) * s
   ·rw [List.getElem?_map,List.getElem?_range h2,hx _ zY]
    simp [h1]
   ·rw [List.getElem?_eq_none (by simpa using Nat.le_of_not_lt h2),List.getElem?_eq_none zY]
 rw [this];exact h
theorem Row.pop (h:Row w e s (.slice (some g¢0) (n+1) cap) (n+1) f):Row w e s (.slice (some g¢0) n cap) n f:=by
 unfold Row at h ⊢
 refine ownsRow_pop (last:=(List.range s).map (fun i=>f (n * s+i))) (by simp) ?_
 have:(List.range ((n+1) * s)).map f=(List.range (n * s)).map f ++ (List.range s).map (fun i=>f (n * s+i)):=by
  rw [Nat.add_mul,Nat.one_mul,List.range_add,List.map_append,List.map_map];rfl
 rwa [this] at h
end
open Go
set_option linter.unusedVariables false
theorem hd {p:Prop} (h:p):Hid p:=h
theorem zH {p:Prop} (h:p):Hid p:=h
theorem cl2 {w:yW} {g:Nat} {a0 a1:Value} {t:TypeId} {fr:Nat × Nat} (h:w.heap[g]?=some (.cells #[a0,a1] t fr)):w.cell? g¢0=some a0∧w.cell? g¢1=some a1:=⟨Qa h 0,Qa h 1⟩
theorem cl3 {w:yW} {g:Nat} {a0 a1 a2:Value} {t:TypeId} {fr:Nat × Nat} (h:w.heap[g]?=some (.cells #[a0,a1,a2] t fr)):w.cell? g¢0=some a0∧w.cell? g¢1=some a1∧w.cell? g¢2=some a2:=⟨Qa h 0,Qa h 1,Qa h 2⟩
theorem cl4 {w:yW} {g:Nat} {a0 a1 a2 a3:Value} {t:TypeId} {fr:Nat × Nat} (h:w.heap[g]?=some (.cells #[a0,a1,a2,a3] t fr)):w.cell? g¢0=some a0∧w.cell? g¢1=some a1∧w.cell? g¢2=some a2∧w.cell? g¢3=some a3:=⟨Qa h 0,Qa h 1,Qa h 2,Qa h 3⟩
theorem cl5 {w:yW} {g:Nat} {a0 a1 a2 a3 a4:Value} {t:TypeId} {fr:Nat × Nat} (h:w.heap[g]?=some (.cells #[a0,a1,a2,a3,a4] t fr)):w.cell? g¢0=some a0∧w.cell? g¢1=some a1∧w.cell? g¢2=some a2∧w.cell? g¢3=some a3∧w.cell? g¢4=some a4:=⟨Qa h 0,Qa h 1,Qa h 2,Qa h 3,Qa h 4⟩
theorem cl6 {w:yW} {g:Nat} {a0 a1 a2 a3 a4 a5:Value} {t:TypeId} {fr:Nat × Nat} (h:w.heap[g]?=some (.cells #[a0,a1,a2,a3,a4,a5] t fr)):w.cell? g¢0=some a0∧w.cell? g¢1=some a1∧w.cell? g¢2=some a2∧w.cell? g¢3=some a3∧w.cell? g¢4=some a4∧w.cell? g¢5=some a5:=⟨Qa h 0,Qa h 1,Qa h 2,Qa h 3,Qa h 4,Qa h 5⟩
theorem cl7 {w:yW} {g:Nat} {a0 a1 a2 a3 a4 a5 a6:Value} {t:TypeId} {fr:Nat × Nat} (h:w.heap[g]?=some (.cells #[a0,a1,a2,a3,a4,a5,a6] t fr)):w.cell? g¢0=some a0∧w.cell? g¢1=some a1∧w.cell? g¢2=some a2∧w.cell? g¢3=some a3∧w.cell? g¢4=some a4∧w.cell? g¢5=some a5∧w.cell? g¢6=some a6:=⟨Qa h 0,Qa h 1,Qa h 2,Qa h 3,Qa h 4,Qa h 5,Qa h 6⟩
theorem cl8 {w:yW} {g:Nat} {a0 a1 a2 a3 a4 a5 a6 a7:Value} {t:TypeId} {fr:Nat × Nat} (h:w.heap[g]?=some (.cells #[a0,a1,a2,a3,a4,a5,a6,a7] t fr)):w.cell? g¢0=some a0∧w.cell? g¢1=some a1∧w.cell? g¢2=some a2∧w.cell? g¢3=some a3∧w.cell? g¢4=some a4∧w.cell? g¢5=some a5∧w.cell? g¢6=some a6∧w.cell? g¢7=some a7:=⟨Qa h 0,Qa h 1,Qa h 2,Qa h 3,Qa h 4,Qa h 5,Qa h 6,Qa h 7⟩
theorem cl9 {w:yW} {g:Nat} {a0 a1 a2 a3 a4 a5 a6 a7 a8:Value} {t:TypeId} {fr:Nat × Nat} (h:w.heap[g]?=some (.cells #[a0,a1,a2,a3,a4,a5,a6,a7,a8] t fr)):w.cell? g¢0=some a0∧w.cell? g¢1=some a1∧w.cell? g¢2=some a2∧w.cell? g¢3=some a3∧w.cell? g¢4=some a4∧w.cell? g¢5=some a5∧w.cell? g¢6=some a6∧w.cell? g¢7=some a7∧w.cell? g¢8=some a8:=⟨Qa h 0,Qa h 1,Qa h 2,Qa h 3,Qa h 4,Qa h 5,Qa h 6,Qa h 7,Qa h 8⟩
theorem cl10 {w:yW} {g:Nat} {a0 a1 a2 a3 a4 a5 a6 a7 a8 a9:Value} {t:TypeId} {fr:Nat × Nat} (h:w.heap[g]?=some (.cells #[a0,a1,a2,a3,a4,a5,a6,a7,a8,a9] t fr)):w.cell? g¢0=some a0∧w.cell? g¢1=some a1∧w.cell? g¢2=some a2∧w.cell? g¢3=some a3∧w.cell? g¢4=some a4∧w.cell? g¢5=some a5∧w.cell? g¢6=some a6∧w.cell? g¢7=some a7∧w.cell? g¢8=some a8∧w.cell? g¢9=some a9:=⟨Qa h 0,Qa h 1,Qa h 2,Qa h 3,Qa h 4,Qa h 5,Qa h 6,Qa h 7,Qa h 8,Qa h 9⟩
theorem cl11 {w:yW} {g:Nat} {a0 a1 a2 a3 a4 a5 a6 a7 a8 a9 a10:Value} {t:TypeId} {fr:Nat × Nat} (h:w.heap[g]?=some (.cells #[a0,a1,a2,a3,a4,a5,a6,a7,a8,a9,a10] t fr)):w.cell? g¢0=some a0∧w.cell? g¢1=some a1∧w.cell? g¢2=some a2∧w.cell? g¢3=some a3∧w.cell? g¢4=some a4∧w.cell? g¢5=some a5∧w.cell? g¢6=some a6∧w.cell? g¢7=some a7∧w.cell? g¢8=some a8∧w.cell? g¢9=some a9∧w.cell? g¢10=some a10:=⟨Qa h 0,Qa h 1,Qa h 2,Qa h 3,Qa h 4,Qa h 5,Qa h 6,Qa h 7,Qa h 8,Qa h 9,Qa h 10⟩
theorem fz2 {w:yW} {g:Nat} {cs:Array Value} {t:TypeId} (h:w.heap[g]?=(zC cs t)):zS w g¢0∧zS w g¢1:=⟨Qf h 0,Qf h 1⟩
theorem fz3 {w:yW} {g:Nat} {cs:Array Value} {t:TypeId} (h:w.heap[g]?=(zC cs t)):zS w g¢0∧zS w g¢1∧zS w g¢2:=⟨Qf h 0,Qf h 1,Qf h 2⟩
theorem fz4 {w:yW} {g:Nat} {cs:Array Value} {t:TypeId} (h:w.heap[g]?=(zC cs t)):zS w g¢0∧zS w g¢1∧zS w g¢2∧zS w g¢3:=⟨Qf h 0,Qf h 1,Qf h 2,Qf h 3⟩
theorem fz5 {w:yW} {g:Nat} {cs:Array Value} {t:TypeId} (h:w.heap[g]?=(zC cs t)):zS w g¢0∧zS w g¢1∧zS w g¢2∧zS w g¢3∧zS w g¢4:=⟨Qf h 0,Qf h 1,Qf h 2,Qf h 3,Qf h 4⟩
theorem fz6 {w:yW} {g:Nat} {cs:Array Value} {t:TypeId} (h:w.heap[g]?=(zC cs t)):zS w g¢0∧zS w g¢1∧zS w g¢2∧zS w g¢3∧zS w g¢4∧zS w g¢5:=⟨Qf h 0,Qf h 1,Qf h 2,Qf h 3,Qf h 4,Qf h 5⟩
theorem fz7 {w:yW} {g:Nat} {cs:Array Value} {t:TypeId} (h:w.heap[g]?=(zC cs t)):zS w g¢0∧zS w g¢1∧zS w g¢2∧zS w g¢3∧zS w g¢4∧zS w g¢5∧zS w g¢6:=⟨Qf h 0,Qf h 1,Qf h 2,Qf h 3,Qf h 4,Qf h 5,Qf h 6⟩
theorem fz8 {w:yW} {g:Nat} {cs:Array Value} {t:TypeId} (h:w.heap[g]?=(zC cs t)):zS w g¢0∧zS w g¢1∧zS w g¢2∧zS w g¢3∧zS w g¢4∧zS w g¢5∧zS w g¢6∧zS w g¢7:=⟨Qf h 0,Qf h 1,Qf h 2,Qf h 3,Qf h 4,Qf h 5,Qf h 6,Qf h 7⟩
theorem fz9 {w:yW} {g:Nat} {cs:Array Value} {t:TypeId} (h:w.heap[g]?=(zC cs t)):zS w g¢0∧zS w g¢1∧zS w g¢2∧zS w g¢3∧zS w g¢4∧zS w g¢5∧zS w g¢6∧zS w g¢7∧zS w g¢8:=⟨Qf h 0,Qf h 1,Qf h 2,Qf h 3,Qf h 4,Qf h 5,Qf h 6,Qf h 7,Qf h 8⟩
theorem fz10 {w:yW} {g:Nat} {cs:Array Value} {t:TypeId} (h:w.heap[g]?=(zC cs t)):zS w g¢0∧zS w g¢1∧zS w g¢2∧zS w g¢3∧zS w g¢4∧zS w g¢5∧zS w g¢6∧zS w g¢7∧zS w g¢8∧zS w g¢9:=⟨Qf h 0,Qf h 1,Qf h 2,Qf h 3,Qf h 4,Qf h 5,Qf h 6,Qf h 7,Qf h 8,Qf h 9⟩
theorem fz11 {w:yW} {g:Nat} {cs:Array Value} {t:TypeId} (h:w.heap[g]?=(zC cs t)):zS w g¢0∧zS w g¢1∧zS w g¢2∧zS w g¢3∧zS w g¢4∧zS w g¢5∧zS w g¢6∧zS w g¢7∧zS w g¢8∧zS w g¢9∧zS w g¢10:=⟨Qf h 0,Qf h 1,Qf h 2,Qf h 3,Qf h 4,Qf h 5,Qf h 6,Qf h 7,Qf h 8,Qf h 9,Qf h 10⟩
end Go.Proofs.YtfbjofnaghjmeaaGreatDoor
