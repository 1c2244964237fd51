import Derived.Test.YtfbjofnaghjmeaaGreatDoorA0
import Derived.Test.YtfbjofnaghjmeaaGreatDoorProg
import Derived.WalkKit
import Derived.ProofKit
import Derived.Outline
import Derived.Below
import Derived.Deep.QuietTactic
import Derived.BigQuiet
import Derived.Laws.Rows
import Derived.Deep.DeepCutAuto
import Derived.Deep.CutRange
import Derived.OwnWalk
import Derived.WalkSmall
import Derived.Deep.AppendLies
import Derived.Deep.RegionLaw
import Derived.Lib.Bytealg
import Derived.LaidLaws
import Derived.WalkMore
import Derived.Deep.RegionHeld3
namespace Go.Proofs.YtfbjofnaghjmeaaGreatDoor
open Go.RowKit
def letB (c:UInt8):Bool:=decide (97≤c.toNat∧c.toNat≤122)
def digB (c:UInt8):Bool:=decide (48≤c.toNat∧c.toNat≤57)
def upB (c:UInt8):Bool:=decide (65≤c.toNat∧c.toNat≤90)
def goB (c:UInt8):Bool:=letB c || digB c || decide (c.toNat=95)
def blankB (c:UInt8):Bool:=decide (c.toNat=32) || decide (c.toNat=9) || decide (c.toNat=10) || decide (c.toNat=13)
def remB (r:Bool) (c:UInt8):Bool:=if c.toNat=35 then true else if c.toNat=10 then false else r
def ov:List UInt8→Bool→Nat
 | [],_=>0
 | c :: l,r=>if remB r c=false∧blankB c=false then 0 else ov l (remB r c)+1
theorem ov_le:∀ (l:List UInt8) (r:Bool),ov l r≤l.length
 | [],_=>Nat.le_refl _
 | c :: l,r=>by
  have:=ov_le l (remB r c)
  unfold ov
  split
  ·exact Nat.zero_le _
  ·simp only [List.length_cons]; omega
def lead (p:UInt8→Bool):List UInt8→Nat
 | []=>0
 | c :: l=>if p c=true then lead p l+1 else 0
theorem lead_le (p:UInt8→Bool):∀ l:List UInt8,lead p l≤l.length
 | []=>Nat.le_refl _
 | c :: l=>by
  have:=lead_le p l
  unfold lead
  split
  ·simp only [List.length_cons]; omega
  ·exact Nat.zero_le _
def nmS:List UInt8→Nat→Nat→Option (Nat × Nat)
 | [],n,k=>some (n,k)
 | c :: l,n,k=>if digB c=true then (if n > 922337203685477580 then none else nmS l (10 * n+(c.toNat - 48)) (k+1)) else some (n,k)
def wordsL:List yB:=[⟨#[97,98,115]⟩,Z1,⟨#[97,115]⟩,⟨#[97,115,107]⟩,⟨#[97,116]⟩,⟨#[98,105,100]⟩,Zr,Zk,Z2,⟨#[100,111]⟩,⟨#[102,97,108,115,101]⟩,Zs,Z3,Z4,Zm,Zn,Zt,⟨#[108,97,115,116]⟩,Zu,Zy,⟨#[109,97,120]⟩,⟨#[109,105,110]⟩,⟨#[110,111,119]⟩,⟨#[111,102]⟩,⟨#[111,112,101,110]⟩,Zv,Zo,Zp,Zb,⟨#[115,101,108,108]⟩,Z5,Zw,Za,Zc,Zx,Z0,Zq,⟨#[116,111]⟩,⟨#[116,114,117,101]⟩,⟨#[118,111,108,117,109,101]⟩,Zd]
def marksL:List yB:=[⟨#[61,61]⟩,⟨#[33,61]⟩,⟨#[60,61]⟩,⟨#[62,61]⟩,Z7,Zf,Zg,Ze,⟨#[40]⟩,⟨#[41]⟩,Z8,Z9,Zh,⟨#[58]⟩,Zi,⟨#[33]⟩,⟨#[60]⟩,⟨#[62]⟩,⟨#[43]⟩,Zj,⟨#[42]⟩,⟨#[47]⟩,⟨#[37]⟩]
def wd (i:Nat):yB:=wordsL.getD i ⟨#[]⟩
def mk (i:Nat):yB:=marksL.getD i ⟨#[]⟩
def isW (x:yB):Bool:=wordsL.any (fun y=>y.data.toList == x.data.toList)
structure Tk where
 k:Int
 x:yB
 ty:Int
 n:Int
 p:Int
def tkA (t:Tk):Array Value:=#[zU t.k,.string t.x,zU t.ty,zI t.n,zI t.p]
def tk0:Tk:=⟨0,⟨#[]⟩,0,0,0⟩
def rest (s:yB) (a:Nat):List UInt8:=s.data.toList.drop a
theorem len_of (s:yB):s.data.toList.length=s.size:=by
 cases s; simp [ByteArray.size]
theorem rest_at (s:yB) (i:Nat) (h:i < s.size):rest s i=s[i] :: rest s (i+1):=by
 unfold rest
 rw [List.drop_eq_getElem_cons (by rw [len_of]; exact h)]
 rfl
theorem rest_end (s:yB) (i:Nat) (h:s.size≤i):rest s i = []:=List.drop_eq_nil_of_le (by rw [len_of]; exact h)
theorem rest_len (s:yB) (a:Nat):(rest s a).length=s.size - a:=by unfold rest; rw [List.length_drop,len_of]
theorem size_alloc (w:yW) (o:Obj):(w.alloc o)§=w§+1:=by simp
theorem heap_new (w:yW) (o:Obj):(w.alloc o).heap[w§]? = some o:=by
 show (w.heap.push o)[w§]? = _
 simp
theorem below_new (w:yW) (o:Obj):yD w (w.alloc o):=(Below.refl _ w).alloc (Nat.le_refl _) o
theorem cell_alloc (w:yW) (a:Array Value) (t:TypeId) (j:Nat):(w.alloc (.cells a t)).cell? w§¢j=a[j]?:=by
 unfold World.cell? World.alloc; simp
theorem retI {a b:Int}(h:a=b):Ending.returned (zI a)=.returned (zI b):=by rw [h]
theorem retB {a b:Bool}(h:a=b):Ending.returned (.bool a)=.returned (.bool b):=by rw [h]
theorem str_eq {a b:yB}(h:a.data.toList=b.data.toList):a=b:=by
 cases a; cases b
 simp at h
 rw [h]
theorem byte_lt (c:UInt8):(c.toNat:Int)≤255:=by have:=c.toNat_lt; omega
theorem ov_stop {c:UInt8}{l:List UInt8}{r:Bool}(h1:remB r c=false) (h2:blankB c=false):ov (c :: l) r=0:=by unfold ov; rw [if_pos ⟨h1,h2⟩]
theorem ov_go {c:UInt8}{l:List UInt8}{r:Bool}(h:¬ (remB r c=false∧blankB c=false)):ov (c :: l) r=ov l (remB r c)+1:=by rw [ov,if_neg h]
def wordsV:Array Value:=(wordsL.map Value.string).toArray
def marksV:Array Value:=(marksL.map Value.string).toArray
theorem words_cell (w:yW) (j:Nat) (h:j < 41):(w.alloc (.cells wordsV 9)).cell? w§¢j=some (.string (wd j)):=by
 rw [cell_alloc]
 unfold wordsV wd
 have hl:j < wordsL.length:=h
 simp [List.getElem?_map,List.getElem?_eq_getElem hl,List.getD]
theorem seq_ne {a b:yB}(h:¬ a=b):(a.toList == b.toList)=false:=by
 rw [ByteArray.toList_eq,ByteArray.toList_eq]
 exact beq_false_of_ne (fun h'=>h (str_eq h'))
theorem isW_yes {s:yB}{i:Nat}(h:i < 41) (e:wd i=s):isW s=true:=by
 unfold isW
 rw [List.any_eq_true]
 have hl:i < wordsL.length:=h
 refine⟨wordsL[i],List.getElem_mem hl,?_⟩
 have:wd i=wordsL[i]:=by unfold wd; simp [List.getD,hl]
 rw [← this,e]
 simp
theorem isW_no {s:yB}(h:∀ j,j < 41→¬ wd j=s):isW s=false:=by
 unfold isW
 rw [List.any_eq_false]
 intro x hx e
 obtain⟨i,hi,rfl⟩:=List.mem_iff_getElem.1 hx
 refine h i hi ?_
 have e2:wd i=wordsL[i]:=by unfold wd; simp [List.getD,hi]
 rw [e2]
 exact str_eq (by simpa using e)
theorem results_two {P:Program}{fn:Func}{p u:Tmp}{ty:TypeId}(h:fn.results=#[.cell p ty,.tmp u]) (tmps:Array Value) (w:yW) (g:Nat) (t:TypeId) (cs:Array Value) (fr:Nat × Nat) (d:TypeDesc)
  (hp:tmps.getD p undef=zP g) (hg:w.heap[g]? = some (.cells cs t fr))
  (hu:P.underlying ty=some d) (hd:(match d with | .struct _ | .array _ _=>true | _=>false)=true) (hi:(P.info? ty).map (·.size)=some cs.size) :
  (results fn tmps).run P w=.ok (.tuple #[.agg cs,tmps.getD u undef]) w:=by
 have hp':tmps[p]?.getD undef=zP g:=by simpa using hp
 simp [results,h,hp',asAddr,run_loadVar_row w g t ty cs fr d hg hu hd hi]
theorem results_three {P:Program}{fn:Func}{p u v:Tmp}{ty:TypeId}(h:fn.results=#[.cell p ty,.tmp u,.tmp v]) (tmps:Array Value) (w:yW) (g:Nat) (t:TypeId) (cs:Array Value) (fr:Nat × Nat) (d:TypeDesc)
  (hp:tmps.getD p undef=zP g) (hg:w.heap[g]? = some (.cells cs t fr))
  (hu:P.underlying ty=some d) (hd:(match d with | .struct _ | .array _ _=>true | _=>false)=true) (hi:(P.info? ty).map (·.size)=some cs.size) :
  (results fn tmps).run P w=.ok (.tuple #[.agg cs,tmps.getD u undef,tmps.getD v undef]) w:=by
 have hp':tmps[p]?.getD undef=zP g:=by simpa using hp
 simp [results,h,hp',asAddr,run_loadVar_row w g t ty cs fr d hg hu hd hi]
theorem below_two (w:yW) (X Y:Obj):yD w ((w.alloc X).alloc Y):=(below_new w X).alloc (by rw [size_alloc]; omega) Y
theorem heap_old {w:yW}{o:Obj}{k:Nat}{x:Option Obj}(h:w.heap[k]? = x) (hk:k < w§):(w.alloc o).heap[k]? = x:=(Below.heap_alloc _ _ _ hk).trans h
theorem cell_of {w:yW}{g:Nat}{cs:Array Value}{t:TypeId}{fr:Nat × Nat}(h:w.heap[g]? = some (.cells cs t fr)) (j:Nat):w.cell? g¢j=cs[j]?:=by
 unfold World.cell?; rw [h]; simp
theorem frozen_of {w:yW}{g:Nat}{cs:Array Value}{t:TypeId}(h:w.heap[g]? = (zC cs t)) (j:Nat):w.frozen? g¢j=false:=by
 unfold World.frozen?; rw [h]; simp
theorem heap_set {w:yW}{g j:Nat}{cs:Array Value}{t:TypeId}{fr:Nat × Nat}(v:Value) (h:w.heap[g]? = some (.cells cs t fr)):(w.setCell g¢j v).heap[g]? = some (.cells (cs.setIfInBounds j v) t fr):=by
 have hg:g < w§:=(zJ h).1
 have hv:w.heap[g]=.cells cs t fr:=(zJ h).2
 unfold World.setCell
 simp [hg,Array.getElem_modify,hv]
def TkH (w:yW) (b:Nat) (t:Tk):Prop:=w.heap[b]? = (zC (tkA t) 233)
theorem TkH.lt {w:yW}{b:Nat}{t:Tk}(h:TkH w b t):b < w§:=(zJ h).1
theorem TkH.onto {w w':yW}{b:Nat}{t:Tk}(h:TkH w b t) (k:yD w w'):TkH w' b t:=(k.block b h.lt).trans h
theorem TkH.hid {w:yW}{b:Nat}{t:Tk}(h:TkH w b t):Hid (TkH w b t):=h
theorem TkH.cells {w:yW}{b:Nat}{t:Tk}(h:TkH w b t):w.cell? b¢0=some (zU t.k)∧w.cell? b¢1=some (.string t.x)∧w.cell? b¢2=some (zU t.ty)∧w.cell? b¢3=some (zI t.n)∧w.cell? b¢4=some (zI t.p):=⟨cell_of h 0,cell_of h 1,cell_of h 2,cell_of h 3,cell_of h 4⟩
theorem TkH.froz {w:yW}{b:Nat}{t:Tk}(h:TkH w b t):w.frozen? b¢0=false∧w.frozen? b¢1=false∧w.frozen? b¢2=false∧w.frozen? b¢3=false∧w.frozen? b¢4=false:=⟨frozen_of h 0,frozen_of h 1,frozen_of h 2,frozen_of h 3,frozen_of h 4⟩
theorem TkH.put {w:yW}{b:Nat}{t:Tk}(h:TkH w b t) (u:Tk):TkH (((((w.setCell b¢0 (zU u.k)).setCell b¢1 (.string u.x)).setCell b¢2 (zU u.ty)).setCell b¢3 (zI u.n)).setCell b¢4 (zI u.p)) b u :=
 heap_set _ (heap_set _ (heap_set _ (heap_set _ (heap_set _ h))))
theorem below_put {B:Nat}{w v:yW}{b:Nat}(h:Below B w v) (hb:B≤b) (v0 v1 v2 v3 v4:Value):Below B w (((((v.setCell b¢0 v0).setCell b¢1 v1).setCell b¢2 v2).setCell b¢3 v3).setCell b¢4 v4) :=
 ((((h.setCell (p:=b¢0) hb v0).setCell (p:=b¢1) hb v1).setCell (p:=b¢2) hb v2).setCell (p:=b¢3) hb v3).setCell (p:=b¢4) hb v4
def nmT (s:yB) (a:Nat):Tk:=if lead goB (rest s a) > 16 then tk0 else ⟨if isW (s.extract a (a+lead goB (rest s a)))=true then 1 else 2,s.extract a (a+lead goB (rest s a)),0,0,a⟩
def nmE (s:yB) (a:Nat):Int:=if lead goB (rest s a) > 16 then 112 else 0
def mkB (s:yB) (a i:Nat):Bool:=decide (a+(mk i).size≤s.size) && ((s.extract a (a+(mk i).size)).data.toList == (mk i).data.toList)
def mkO (s:yB) (a:Nat):Option Nat:=(List.range 23).find? (mkB s a)
def mkT (s:yB) (a:Nat):Tk:=match mkO s a with | none=>tk0 | some i=>⟨4,mk i,0,0,a⟩
def mkE (s:yB) (a:Nat):Int:=match mkO s a with | none=>111 | some _=>0
theorem mkO_some {s:yB}{a i:Nat}(hi:i < 23) (h:∀ j,j < i→mkB s a j=false) (hm:mkB s a i=true):mkO s a=some i:=by
 unfold mkO
 rw [List.find?_range_eq_some]
 exact⟨hm,by simpa using hi,fun j hj=>by rw [h j hj]; rfl⟩
theorem mkO_none {s:yB}{a:Nat}(h:∀ j,j < 23→mkB s a j=false):mkO s a=none:=by
 unfold mkO
 rw [List.find?_eq_none]
 intro x hx
 rw [h x (by simpa using hx)]
 decide
theorem marks_cell (w:yW) (j:Nat) (h:j < 23):(w.alloc (.cells marksV 9)).cell? w§¢j=some (.string (mk j)):=by
 rw [cell_alloc]
 unfold marksV mk
 have hl:j < marksL.length:=h
 simp [List.getElem?_map,List.getElem?_eq_getElem hl,List.getD]
theorem mk_size (i:Nat):(mk i).size≤2:=by
 unfold mk
 by_cases h:i < 23
 ·have:∀ x ∈ marksL,x.size≤2:=by decide
  have hl:i < marksL.length:=h
  rw [List.getD,List.getElem?_eq_getElem hl]
  exact this _ (List.getElem_mem hl)
 ·rw [List.getD,List.getElem?_eq_none (by show 23≤i; omega)]
  decide
theorem below_drew {B:Nat}{w w':yW}(h:Below B w w') (n:Nat):Below B w (w'.drewN n):=⟨h.os,h.tape,h.output,h.size,h.block⟩
theorem TkH.drewN {w:yW}{b:Nat}{t:Tk}(h:TkH w b t) (n:Nat):TkH (w.drewN n) b t:=h
set_option linter.unusedSimpArgs false
def nbTy:List UInt8→Int
 | []=>1
 | c :: _=>if c.toNat=113 then 2 else if c.toNat=112 then 3 else if c.toNat=116 then 4 else 1
def badH:List UInt8→Bool
 | []=>false
 | c :: _=>goB c || upB c
def hd0 (l:List UInt8):Bool:=match l with | []=>false | c :: _=>decide (c.toNat=48)
def nbO (s:yB) (a:Nat):Option (Nat × Nat × Int) :=
 match nmS (rest s a) 0 0 with
 | none=>none
 | some (n,d) =>
  if n > 9223372036854775807∨(d > 1∧hd0 (rest s a)=true) then none
  else if badH (rest s (if nbTy (rest s (a+d))=1 then a+d else a+d+1))=true then none
  else some (n,if nbTy (rest s (a+d))=1 then a+d else a+d+1,nbTy (rest s (a+d)))
def nbT (s:yB) (a:Nat):Tk:=match nbO s a with | none=>tk0 | some (n,e,ty)=>⟨3,s.extract a e,ty,n,a⟩
def nbE (s:yB) (a:Nat):Int:=match nbO s a with | none=>113 | some _=>0
theorem nb_no {s:yB}{a:Nat}(h:nbO s a=none):Hid (nbT s a=tk0∧nbE s a=113):=by show _∧_; unfold nbT nbE; rw [h]; exact⟨rfl,rfl⟩
theorem nb_yes {s:yB}{a n e:Nat}{ty:Int}(h:nbO s a=some (n,e,ty)):Hid (nbT s a=⟨3,s.extract a e,ty,n,a⟩∧nbE s a=0):=by show _∧_; unfold nbT nbE; rw [h]; exact⟨rfl,rfl⟩
theorem nbO_of {s:yB}{a i n:Nat}(h:nmS (rest s a) 0 0=some (n,i - a)) (hi:a≤i):nbO s a=if n > 9223372036854775807∨(i - a > 1∧hd0 (rest s a)=true) then none else if badH (rest s (if nbTy (rest s i)=1 then i else i+1))=true then none else some (n,if nbTy (rest s i)=1 then i else i+1,nbTy (rest s i)):=by
 unfold nbO
 rw [h]
 simp only [show a+(i - a)=i by omega]
theorem heap_fst (w:yW) (X Y:Obj):((w.alloc X).alloc Y).heap[w§]? = some X:=heap_old (heap_new w X) (by rw [size_alloc]; omega)
def oneP (s:yB) (f:Nat):Nat:=f+ov (rest s f) false
def hdB (p:UInt8→Bool):List UInt8→Bool
 | []=>false
 | c :: _=>p c
def oneT (s:yB) (f:Nat):Tk :=
 if oneP s f=s.size then ⟨0,⟨#[]⟩,0,0,oneP s f⟩
 else if hdB letB (rest s (oneP s f))=true then nmT s (oneP s f)
 else if hdB digB (rest s (oneP s f))=true then nbT s (oneP s f) else mkT s (oneP s f)
def oneE (s:yB) (f:Nat):Int :=
 if oneP s f=s.size then 0
 else if hdB letB (rest s (oneP s f))=true then nmE s (oneP s f)
 else if hdB digB (rest s (oneP s f))=true then nbE s (oneP s f) else mkE s (oneP s f)
def oneB (s:yB) (f:Nat):Int:=if oneE s f=0 then 0 else oneP s f
def oneV (s:yB) (f:Nat):Value:=.tuple #[.agg (tkA (oneT s f)),zI (oneE s f),zI (oneB s f)]
theorem oneP_le (s:yB) (f:Nat) (hf:f≤s.size):oneP s f≤s.size:=by
 unfold oneP
 have:=ov_le (rest s f) false
 rw [rest_len] at this
 omega
theorem nmS_len:∀ (l:List UInt8) (n k n' k':Nat),nmS l n k=some (n',k')→k≤k'∧k'≤k+l.length∧(hdB digB l=true→k < k')
 | [],n,k,n',k',h=>by
  simp only [nmS,Option.some.injEq,Prod.mk.injEq] at h
  obtain⟨_,rfl⟩:=h
  exact⟨Nat.le_refl _,Nat.le_add_right _ _,fun h=>by simp [hdB] at h⟩
 | c :: l,n,k,n',k',h=>by
  unfold nmS at h
  by_cases hg:digB c=true
  ·rw [if_pos hg] at h
   by_cases hn:n > 922337203685477580
   ·rw [if_pos hn] at h; exact absurd h (by simp)
   ·rw [if_neg hn] at h
    have:=nmS_len l _ _ _ _ h
    refine⟨by omega,by simp only [List.length_cons]; omega,fun _=>by omega⟩
  ·rw [if_neg hg] at h
   simp only [Option.some.injEq,Prod.mk.injEq] at h
   obtain⟨_,rfl⟩:=h
   exact⟨Nat.le_refl _,Nat.le_add_right _ _,fun h=>absurd h hg⟩
theorem let_go {c:UInt8}(h:letB c=true):goB c=true:=by
 unfold goB; simp [h]
theorem lead_pos {p:UInt8→Bool}{l:List UInt8}(h:hdB p l=true):0 < lead p l:=by
 cases l with
 | nil=>simp [hdB] at h
 | cons c l=>unfold lead; rw [if_pos (show p c=true from h)]; omega
theorem hd_go {l:List UInt8}(h:hdB letB l=true):hdB goB l=true:=by
 cases l with
 | nil=>simp [hdB] at h
 | cons c l=>exact let_go h
theorem ext_size (s:yB) (a b:Nat) (h:b≤s.size):(s.extract a b).size=b - a:=by
 rw [ByteArray.size_extract]; omega
theorem mk_pos (i:Nat) (h:i < 23):0 < (mk i).size:=by
 have:∀ x ∈ marksL,0 < x.size:=by decide
 have hl:i < marksL.length:=h
 unfold mk
 rw [List.getD_eq_getElem?_getD,List.getElem?_eq_getElem hl]
 exact this _ (List.getElem_mem hl)
theorem nbTy_nil {s:yB}{a:Nat}(h:¬ nbTy (rest s a)=1):a < s.size:=by
 by_cases ha:a < s.size
 ·exact ha
 ·exfalso
  apply h
  have:rest s a = []:=by
   apply List.eq_nil_of_length_eq_zero
   rw [rest_len]; omega
  rw [this]; rfl
theorem one_fine (s:yB) (f:Nat) (hf:f≤s.size) (h:oneE s f=0) :
  (oneT s f).p=(oneP s f:Nat)∧f≤oneP s f∧oneP s f+(oneT s f).x.size≤s.size∧((oneT s f).k≠0→0 < (oneT s f).x.size):=by
 have hP:=oneP_le s f hf
 have hfP:f≤oneP s f:=by unfold oneP; omega
 unfold oneE at h
 unfold oneT
 generalize oneP s f=d at *
 by_cases h0:d=s.size
 ·rw [if_pos h0]
  exact⟨rfl,hfP,(show d+0≤s.size from hP),fun h=>absurd rfl h⟩
 rw [if_neg h0] at h ⊢
 by_cases hl:hdB letB (rest s d)=true
 ·rw [if_pos hl] at h ⊢
  unfold nmE at h
  unfold nmT
  by_cases hk:lead goB (rest s d) > 16
  ·rw [if_pos hk] at h; exact absurd h (by decide)
  ·rw [if_neg hk]
   have hL:=lead_le goB (rest s d)
   rw [rest_len] at hL
   have h1:=lead_pos (hd_go hl)
   have e:=ext_size s d (d+lead goB (rest s d)) (by omega)
   refine⟨rfl,hfP,?_,fun _=>?_⟩
   ·show d+(s.extract d _).size≤_
    rw [e]; omega
   ·show 0 < (s.extract d _).size
    rw [e]; omega
 rw [if_neg hl] at h ⊢
 by_cases hg:hdB digB (rest s d)=true
 ·rw [if_pos hg] at h ⊢
  unfold nbE at h
  unfold nbT
  cases ho:nbO s d with
  | none=>rw [ho] at h; exact absurd h (by decide)
  | some q =>
   obtain⟨n,e,ty⟩:=q
   have he:d < e∧e≤s.size:=by
    unfold nbO at ho
    cases hm:nmS (rest s d) 0 0 with
    | none=>rw [hm] at ho; exact absurd ho (by simp)
    | some q =>
     obtain⟨n2,k2⟩:=q
     have:=nmS_len _ _ _ _ _ hm
     rw [rest_len] at this
     have h3:=this.2.2 hg
     rw [hm] at ho
     simp only at ho
     obtain⟨E,hE⟩:∃ E,(if nbTy (rest s (d+k2))=1 then d+k2 else d+k2+1)=E:=⟨_,rfl⟩
     rw [hE] at ho
     have hE2:d < E∧E≤s.size:=by
      by_cases ht:nbTy (rest s (d+k2))=1
      ·rw [if_pos ht] at hE; omega
      ·rw [if_neg ht] at hE
       have:=nbTy_nil ht
       omega
     split at ho
     ·exact absurd ho (by simp)
     ·split at ho
      ·exact absurd ho (by simp)
      ·simp only [Option.some.injEq,Prod.mk.injEq] at ho
       obtain⟨_,ho,_⟩:=ho
       rw [← ho]; exact hE2
   have ee:=ext_size s d e he.2
   refine⟨rfl,hfP,?_,fun _=>?_⟩
   ·show d+(s.extract d _).size≤_
    rw [ee]; omega
   ·show 0 < (s.extract d _).size
    rw [ee]; omega
 rw [if_neg hg] at h ⊢
 unfold mkE at h
 unfold mkT
 cases ho:mkO s d with
 | none=>rw [ho] at h; exact absurd h (by decide)
 | some i =>
  unfold mkO at ho
  rw [List.find?_range_eq_some] at ho
  obtain⟨hm,hi,_⟩:=ho
  have hi':i < 23:=by simpa using hi
  unfold mkB at hm
  rw [Bool.and_eq_true] at hm
  exact⟨rfl,hfP,of_decide_eq_true hm.1,fun _=>mk_pos i hi'⟩
def mB (l:List UInt8) (i:Nat):Bool:=decide ((mk i).size≤l.length) && (l.take (mk i).size == (mk i).data.toList)
def mO (l:List UInt8):Option Nat:=(List.range 23).find? (mB l)
def nE (l:List UInt8) (d:Nat):Nat:=if nbTy (l.drop d)=1 then d else d+1
def lx (l:List UInt8):Option (Int × Nat × Int × Int) :=
 if hdB letB l=true then (if lead goB l > 16 then none else some (if isW ⟨(l.take (lead goB l)).toArray⟩=true then 1 else 2,lead goB l,0,0))
 else if hdB digB l=true then
  (match nmS l 0 0 with
  | none=>none
  | some (n,d)=>if n > 9223372036854775807∨(d > 1∧hd0 l=true) then none
   else if badH (l.drop (nE l d))=true then none else some (3,nE l d,nbTy (l.drop d),n))
 else (match mO l with | none=>none | some i=>some (4,(mk i).size,0,0))
def lxE (l:List UInt8):Int:=if (lx l).isSome=true then 0 else if hdB letB l=true then 112 else if hdB digB l=true then 113 else 111
def tkOf (l:List UInt8) (d:Nat):Tk:=match lx l with | some (k,n,ty,v)=>⟨k,⟨(l.take n).toArray⟩,ty,v,d⟩ | none=>tk0
theorem ext_list (s:yB) (a n:Nat):(s.extract a (a+n)).data.toList=(rest s a).take n:=by
 unfold rest
 rw [ByteArray.data_extract,Array.toList_extract]
 simp [List.extract_eq_take_drop]
theorem ext_eq (s:yB) (a n:Nat):s.extract a (a+n)=⟨((rest s a).take n).toArray⟩:=str_eq (by rw [ext_list])
theorem rest_drop (s:yB) (a n:Nat):(rest s a).drop n=rest s (a+n):=by unfold rest; rw [List.drop_drop]
theorem mB_mkB (s:yB) (a:Nat) (ha:a≤s.size) (i:Nat):mB (rest s a) i=mkB s a i:=by
 unfold mB mkB
 rw [ext_list,rest_len]
 congr 1
 by_cases h:(mk i).size≤s.size - a
 ·rw [decide_eq_true h,decide_eq_true (by omega)]
 ·rw [decide_eq_false h,decide_eq_false (by omega)]
theorem mO_mkO (s:yB) (a:Nat) (ha:a≤s.size):mO (rest s a)=mkO s a:=by
 unfold mO mkO
 congr 1
 funext i
 exact mB_mkB s a ha i
theorem mO_take {l:List UInt8}{i:Nat}(h:mO l=some i):i < 23∧l.take (mk i).size=(mk i).data.toList∧(mk i).size≤l.length:=by
 unfold mO at h
 rw [List.find?_range_eq_some] at h
 obtain⟨h1,h2,_⟩:=h
 unfold mB at h1
 rw [Bool.and_eq_true] at h1
 exact⟨by simpa using h2,by simpa using h1.2,of_decide_eq_true h1.1⟩
theorem one_lx (s:yB) (f:Nat) (hf:f≤s.size) (h:oneP s f≠s.size) :
  oneT s f=tkOf (rest s (oneP s f)) (oneP s f)∧oneE s f=lxE (rest s (oneP s f)):=by
 have hP:=oneP_le s f hf
 unfold oneT oneE
 generalize oneP s f=d at *
 rw [if_neg h,if_neg h]
 unfold tkOf lxE lx
 by_cases hl:hdB letB (rest s d)=true
 ·rw [if_pos hl,if_pos hl,if_pos hl,if_pos hl]
  unfold nmT nmE
  by_cases hk:lead goB (rest s d) > 16
  ·rw [if_pos hk,if_pos hk,if_pos hk]; exact⟨rfl,rfl⟩
  ·rw [if_neg hk,if_neg hk,if_neg hk,ext_eq]; exact⟨rfl,rfl⟩
 rw [if_neg hl,if_neg hl,if_neg hl,if_neg hl]
 by_cases hg:hdB digB (rest s d)=true
 ·rw [if_pos hg,if_pos hg,if_pos hg,if_pos hg]
  unfold nbT nbE nbO
  cases hm:nmS (rest s d) 0 0 with
  | none=>exact⟨rfl,rfl⟩
  | some q =>
   obtain⟨n,k⟩:=q
   have e1:(if nbTy (rest s (d+k))=1 then d+k else d+k+1)=d+nE (rest s d) k:=by
    unfold nE
    rw [rest_drop]
    split <;> rfl
   simp only [e1,rest_drop]
   by_cases c1:n > 9223372036854775807∨(k > 1∧hd0 (rest s d)=true)
   ·simp [if_pos c1]
   ·simp only [if_neg c1]
    by_cases c2:badH (rest s (d+nE (rest s d) k))=true
    ·simp [if_pos c2]
    ·simp [if_neg c2,ext_eq]
 rw [if_neg hg,if_neg hg,if_neg hg,if_neg hg]
 unfold mkT mkE
 rw [mO_mkO s d hP]
 cases hm:mkO s d with
 | none=>exact⟨rfl,rfl⟩
 | some i =>
  have:=(mO_take (by rw [mO_mkO s d hP]; exact hm:mO (rest s d)=some i)).2.1
  refine⟨?_,rfl⟩
  show (⟨4,mk i,0,0,d⟩:Tk)=⟨4,⟨(List.take (mk i).size (rest s d)).toArray⟩,0,0,d⟩
  rw [this]
theorem nmS_le {l:List UInt8}{n d:Nat}(h:nmS l 0 0=some (n,d)):d≤l.length:=by have:=(nmS_len _ _ _ _ _ h).2.1; omega
theorem nE_le {l:List UInt8}{d:Nat}(h:d≤l.length):nE l d≤l.length:=by
 unfold nE
 by_cases e:nbTy (l.drop d)=1
 ·rw [if_pos e]; exact h
 ·rw [if_neg e]
  have:d≠l.length:=by
   intro hd
   apply e
   rw [List.drop_eq_nil_of_le (by omega)]; rfl
  omega
theorem lx_len {l:List UInt8}{k:Int}{n:Nat}{ty v:Int}(h:lx l=some (k,n,ty,v)):0 < n∧n≤l.length∧k≠0:=by
 unfold lx at h
 by_cases hl:hdB letB l=true
 ·rw [if_pos hl] at h
  by_cases hk:lead goB l > 16
  ·rw [if_pos hk] at h; exact absurd h (by simp)
  ·rw [if_neg hk] at h
   simp only [Option.some.injEq,Prod.mk.injEq] at h
   obtain⟨e1,rfl,_⟩:=h
   refine⟨lead_pos (hd_go hl),lead_le goB l,?_⟩
   rw [← e1]; split <;> decide
 rw [if_neg hl] at h
 by_cases hg:hdB digB l=true
 ·rw [if_pos hg] at h
  cases hm:nmS l 0 0 with
  | none=>rw [hm] at h; exact absurd h (by simp)
  | some q =>
   obtain⟨n2,d⟩:=q
   have hd:=nmS_le hm
   have h3:=(nmS_len _ _ _ _ _ hm).2.2 hg
   rw [hm] at h
   simp only at h
   split at h
   ·exact absurd h (by simp)
   ·split at h
    ·exact absurd h (by simp)
    ·simp only [Option.some.injEq,Prod.mk.injEq] at h
     obtain⟨e1,rfl,_⟩:=h
     refine⟨?_,nE_le hd,by rw [← e1]; decide⟩
     unfold nE; split <;> omega
 rw [if_neg hg] at h
 cases hm:mO l with
 | none=>rw [hm] at h; exact absurd h (by simp)
 | some i =>
  rw [hm] at h
  simp only [Option.some.injEq,Prod.mk.injEq] at h
  obtain⟨e1,rfl,_⟩:=h
  have:=mO_take hm
  exact⟨mk_pos i this.1,this.2.2,by rw [← e1]; decide⟩
theorem lead_take {p:UInt8→Bool}:∀ l:List UInt8,lead p (l.take (lead p l))=lead p l
 | []=>rfl
 | x :: l=>by
  have:=lead_take (p:=p) l
  by_cases h:p x=true
  ·simp [h,lead,this]
  ·simp [h,lead]
theorem hdB_take {p:UInt8→Bool}{n:Nat}(h:0 < n):∀ l:List UInt8,hdB p (l.take n)=hdB p l
 | []=>by simp
 | x :: l=>by obtain⟨m,rfl⟩:∃ m,n=m+1:=⟨n - 1,by omega⟩; rfl
theorem hd0_take {n:Nat}(h:0 < n):∀ l:List UInt8,hd0 (l.take n)=hd0 l
 | []=>by simp
 | x :: l=>by obtain⟨m,rfl⟩:∃ m,n=m+1:=⟨n - 1,by omega⟩; rfl
theorem nmS_take:∀ (l:List UInt8) (n k n' k' e:Nat),nmS l n k=some (n',k')→k'≤k+e→nmS (l.take e) n k=some (n',k')
 | [],n,k,n',k',e,h,he=>by simpa using h
 | x :: l,n,k,n',k',e,h,he=>by
  have hle:=nmS_len _ _ _ _ _ h
  cases e with
  | zero =>
   have:k'=k:=by omega
   subst this
   have h3:¬ digB x=true:=fun h'=>by have:=hle.2.2 h'; omega
   simp only [nmS,if_neg h3] at h
   simpa [nmS] using h
  | succ e =>
   simp only [List.take_succ_cons,nmS] at h ⊢
   by_cases hg:digB x=true
   ·rw [if_pos hg] at h ⊢
    by_cases hn:n > 922337203685477580
    ·rw [if_pos hn] at h; exact absurd h (by simp)
    ·rw [if_neg hn] at h ⊢
     exact nmS_take l _ _ _ _ e h (by omega)
   ·rw [if_neg hg] at h ⊢; exact h
theorem nbTy_take {n:Nat}(h:0 < n):∀ l:List UInt8,nbTy (l.take n)=nbTy l
 | []=>by simp
 | x :: l=>by obtain⟨m,rfl⟩:∃ m,n=m+1:=⟨n - 1,by omega⟩; rfl
theorem mB_take {l:List UInt8}{n i:Nat}(h:mB (l.take n) i=true):mB l i=true:=by
 unfold mB at h ⊢
 rw [Bool.and_eq_true] at h ⊢
 have h1:=of_decide_eq_true h.1
 have h2:List.take (mk i).size (List.take n l)=(mk i).data.toList:=by simpa using h.2
 have h3:(mk i).size≤n:=by simp at h1; omega
 rw [List.take_take,Nat.min_eq_left h3] at h2
 refine⟨decide_eq_true (by simp at h1; omega),by rw [h2]; simp⟩
theorem lx_take {l:List UInt8}{k:Int}{n:Nat}{ty v:Int}(h:lx l=some (k,n,ty,v)):lx (l.take n)=some (k,n,ty,v):=by
 obtain⟨hn,hnl,_⟩:=lx_len h
 unfold lx at h ⊢
 rw [hdB_take hn,hdB_take hn]
 by_cases hl:hdB letB l=true
 ·rw [if_pos hl] at h ⊢
  by_cases hk:lead goB l > 16
  ·rw [if_pos hk] at h; exact absurd h (by simp)
  ·rw [if_neg hk] at h
   simp only [Option.some.injEq,Prod.mk.injEq] at h
   obtain⟨e1,rfl,e2,e3⟩:=h
   rw [lead_take,if_neg hk,List.take_take,Nat.min_self,e1,← e2,← e3]
 rw [if_neg hl] at h ⊢
 by_cases hg:hdB digB l=true
 ·rw [if_pos hg] at h ⊢
  cases hm:nmS l 0 0 with
  | none=>rw [hm] at h; exact absurd h (by simp)
  | some q =>
   obtain⟨n2,d⟩:=q
   have hd:=nmS_le hm
   rw [hm] at h
   simp only at h
   by_cases c1:n2 > 9223372036854775807∨(d > 1∧hd0 l=true)
   ·rw [if_pos c1] at h; exact absurd h (by simp)
   rw [if_neg c1] at h
   by_cases c2:badH (l.drop (nE l d))=true
   ·rw [if_pos c2] at h; exact absurd h (by simp)
   rw [if_neg c2] at h
   simp only [Option.some.injEq,Prod.mk.injEq] at h
   obtain⟨e1,e2,e3,e4⟩:=h
   have hdn:d≤n:=by rw [← e2]; unfold nE; split <;> omega
   rw [nmS_take l 0 0 n2 d n hm (by omega)]
   simp only
   have e5:nbTy ((l.take n).drop d)=nbTy (l.drop d):=by
    rw [List.drop_take]
    by_cases hz:n - d=0
    ·rw [hz,List.take_zero]
     have:nE l d=d:=by omega
     unfold nE at this
     by_cases ht:nbTy (l.drop d)=1
     ·rw [ht]; rfl
     ·rw [if_neg ht] at this; omega
    ·exact nbTy_take (by omega) _
   have e6:nE (l.take n) d=n:=by unfold nE; rw [e5]; exact e2
   rw [hd0_take hn,if_neg c1,e6,e5,List.drop_eq_nil_of_le (by rw [List.length_take]; omega)]
   rw [if_neg (by decide),e1,e3,e4]
 rw [if_neg hg] at h ⊢
 cases hm:mO l with
 | none=>rw [hm] at h; exact absurd h (by simp)
 | some i =>
  have ht:=mO_take hm
  rw [hm] at h
  simp only [Option.some.injEq,Prod.mk.injEq] at h
  obtain⟨e1,e2,e3,e4⟩:=h
  have:mO (l.take n)=some i:=by
   unfold mO at hm ⊢
   rw [List.find?_range_eq_some] at hm ⊢
   refine⟨?_,hm.2.1,fun j hj=>?_⟩
   ·unfold mB
    rw [Bool.and_eq_true]
    refine⟨decide_eq_true (by rw [List.length_take]; omega),?_⟩
    rw [List.take_take,← e2,Nat.min_self,ht.2.1]; simp
   ·have:=hm.2.2 j hj
    cases hb:mB (l.take n) j with
    | false=>rfl
    | true=>rw [mB_take hb] at this; exact absurd this (by simp)
  rw [this]
  simp only
  rw [e1,e2,← e3,← e4]
def Row (w:yW) (e:TypeId) (s:Nat) (v:Value) (n:Nat) (f:Nat→Value):Prop:=w.ownsRow 0 e s v n ((List.range (n * s)).map f)
theorem range_map_set (m j:Nat) (f:Nat→Value) (u:Value):((List.range m).map f).set j u=(List.range m).map (fun i=>if i=j then u else f i):=by
 apply List.ext_getElem?
 intro i
 rw [List.getElem?_set,List.getElem?_map,List.getElem?_map,List.length_map,List.length_range]
 by_cases hi:i < m
 ·rw [List.getElem?_range hi]
  by_cases hj:j=i
  ·subst hj; simp [hi]
  ·rw [if_neg hj]
   show some (f i)=some (if i=j then u else f i)
   rw [if_neg (fun h=>hj h.symm)]
 ·rw [List.getElem?_eq_none (by simpa using hi)]
  by_cases hj:j=i
  ·subst hj; simp [hi]
  ·simp [hj]
variable {w : yW} {e : TypeId} {s n cap : Nat} {g : Nat} {f f' : Nat → Value} {v : Value}
theorem Row.cell (h:Row w e s (.slice (some g¢0) n cap) n f) {j:Nat}(hj:j < n * s):w.cell? g¢j=some (f j):=by
 rw [World.ownsRow.cellAt h j hj,List.getElem?_map,List.getElem?_range hj]; rfl
theorem Row.frozen (h:Row w e s (.slice (some g¢0) n cap) n f) (j:Nat):w.frozen? g¢j=false:=World.ownsRow.frozenAt h j
theorem Row.set (h:Row w e s (.slice (some g¢0) n cap) n f) (j:Nat) (u:Value):Row (w.setCell g¢j u) e s (.slice (some g¢0) n cap) n (fun i=>if i=j then u else f i):=by
 have:=(World.ownsRow.stored h j u).1
 rwa [range_map_set] at this
theorem Row.congr (h:Row w e s v n f) (he:∀ j,j < n * s→f j=f' j):Row w e s v n f':=by
 unfold Row at h ⊢
 have:(List.range (n * s)).map f=(List.range (n * s)).map f':=List.map_congr_left (fun j hj=>he j (by simpa using hj))
 rwa [this] at h
theorem Row.kept {w':yW}{row:Option Nat}(h:Row w e s v n f) (hg:w.grownBy w' row) (hne:v.ownBlock=none∨v.ownBlock≠row):Row w' e s v n f:=World.ownsRow.kept h hg hne
theorem Row.lt (h:Row w e s v n f):∀ k,v.ownBlock=some k→k < w§:=fun k hk=>(World.ownsRow.lt h k hk).2
theorem Row.nil (w:yW) (e:TypeId) (s:Nat) (f:Nat→Value):Row w e s (.slice none 0 0) 0 f:=by
 have:=World.ownsRow_nil w 0 e s
 simpa [Row] using this
theorem Row.kind (h:Row w e s v n f):∀ k,v.ownBlock=some k→∃ c fz,w.heap[k]? = some (.cells c e fz):=by
 intro k hk
 rcases h.2 with ⟨rfl,_⟩ | ⟨g',cap',cur,rfl,_,hg,_⟩
 ·simp [Value.ownBlock] at hk
 ·simp [Value.ownBlock] at hk
  subst hk
  exact⟨_,_,hg⟩
theorem Row.of_block {w':yW}(h:Row w e s v n f) (hb:∀ k,v.ownBlock=some k→w'.heap[k]? = w.heap[k]?):Row w' e s v n f:=by
 refine⟨h.1,?_⟩
 rcases h.2 with h' | ⟨g',cap',cur,rfl,h1,hg,h2⟩
 ·exact .inl h'
 ·exact .inr ⟨g',cap',cur,rfl,h1,(hb g' rfl).trans hg,h2⟩
theorem Row.alloc (h:Row w e s v n f) (o:Obj):Row (w.alloc o) e s v n f:=World.ownsRow.alloc h o
theorem Row.form (h:Row w e s v n f):∃ ao c,v=.slice ao n c∧(0 < n→∃ g,ao=some g¢0)∧((ao=none∧n=0∧c=0)∨∃ g,ao=some g¢0):=by
 rcases h.2 with ⟨rfl,rfl⟩ | ⟨g',cap',cur,rfl,_⟩
 ·exact⟨none,0,rfl,fun h=>by omega,.inl ⟨rfl,rfl,rfl⟩⟩
 ·exact⟨_,_,rfl,fun _=>⟨g',rfl⟩,.inr ⟨g',rfl⟩⟩
theorem Row.apart {e':TypeId}{s' n':Nat}{v':Value}(h:Row w e s v n f) (h':Row w e' s' v' n' f') (hne:e≠e'):∀ k,v.ownBlock=some k→v'.ownBlock≠some k:=by
 intro k hk hk'
 obtain⟨c,fz,h1⟩:=h.kind k hk
 obtain⟨c',fz',h2⟩:=h'.kind k hk'
 rw [h1] at h2
 simp at h2
 exact hne h2.2.1
theorem Row.snoc {v':Value}{news:List Value}{x:Nat→Value}(h:w.ownsRow 0 e s v' (n+1) ((List.range (n * s)).map f ++ news)) (hl:news.length=s) (hx:∀ j,j < s→news[j]? = some (x j)) :
  Row w e s v' (n+1) (fun j=>if j < n * s then f j else x (j - n * s)):=by
 unfold Row
 have:(List.range ((n+1) * s)).map (fun j=>if j < n * s then f j else x (j - n * s))=(List.range (n * s)).map f ++ news:=by
  apply List.ext_getElem?
  intro j
  have hm:(n+1) * s=n * s+s:=by rw [Nat.add_mul,Nat.one_mul]
  by_cases h1:j < n * s
  ·rw [List.getElem?_append_left (by simpa using h1),List.getElem?_map,List.getElem?_map,List.getElem?_range (by omega),List.getElem?_range h1]
   simp [h1]
  ·rw [List.getElem?_append_right (by simpa using Nat.le_of_not_lt h1),List.length_map,List.length_range]
   by_cases h2:j < (n+1) * s
   ·rw [List.getElem?_map,List.getElem?_range h2,hx _ (by omega)]
    simp [h1]
   ·rw [List.getElem?_eq_none (by simpa using Nat.le_of_not_lt h2),List.getElem?_eq_none (by omega)]
 rw [this]; exact h
theorem Row.pop (h:Row w e s (.slice (some g¢0) (n+1) cap) (n+1) f):Row w e s (.slice (some g¢0) n cap) n f:=by
 unfold Row at h ⊢
 refine ownsRow_pop (last:=(List.range s).map (fun i=>f (n * s+i))) (by simp) ?_
 have:(List.range ((n+1) * s)).map f=(List.range (n * s)).map f ++ (List.range s).map (fun i=>f (n * s+i)):=by
  rw [Nat.add_mul,Nat.one_mul,List.range_add,List.map_append,List.map_map]; rfl
 rwa [this] at h
theorem Tryz.info233:(Tryz.prog.info? 233).map (fun i=>(i.zero,i.size,i.bytes))=some (some (.agg zt),5,48):=by kernel_rfl
def tkF (A:Nat→Tk) (j:Nat):Value:=if j % 5=0 then zU (A (j / 5)).k else if j % 5=1 then .string (A (j / 5)).x else if j % 5=2 then zU (A (j / 5)).ty else if j % 5=3 then zI (A (j / 5)).n else zI (A (j / 5)).p
def lsF (L:List Tk):Nat→Tk:=fun i=>L.getD i tk0
theorem lsF_lt {L:List Tk}{y:Tk}{i:Nat}(h:i < L.length):lsF (L ++ [y]) i=lsF L i:=by
 unfold lsF
 simp [List.getD,List.getElem?_append_left h]
theorem lsF_at (L:List Tk) (y:Tk):lsF (L ++ [y]) L.length=y:=by
 unfold lsF
 simp [List.getD]
def RowL (w:yW) (v:Value) (L:List Tk):Prop:=Row w 233 5 v L.length (tkF (lsF L))
structure RL (W w:yW) (v:Value) (L:List Tk):Prop where
 row:RowL w v L
 nb:∀ k,v.ownBlock=some k→W§≤k
 B:yD W w
theorem RL.nil (W:yW):RL W W (.slice none 0 0) []:=⟨Row.nil _ _ _ _,fun k h=>by simp [Value.ownBlock] at h,Below.refl _ _⟩
theorem RL.call {W w w':yW}{v:Value}{L:List Tk}(h:RL W w v L) (k:yD w w'):RL W w' v L :=
 ⟨h.row.of_block (fun b hb=>k.block b (h.row.lt b hb)),h.nb,h.B.trans (k.mono h.B.size)⟩
theorem RL.alloc {W w:yW}{v:Value}{L:List Tk}(h:RL W w v L) (o:Obj):RL W (w.alloc o) v L:=h.call (below_new w o)
theorem RL.drew {W w:yW}{v:Value}{L:List Tk}(h:RL W w v L):RL W w.drew v L:=⟨h.row.of_block (fun _ _=>rfl),h.nb,h.B.drew⟩
theorem RL.drewN {W w:yW}{v:Value}{L:List Tk}(h:RL W w v L) (n:Nat):RL W (w.drewN n) v L:=⟨h.row.of_block (fun _ _=>rfl),h.nb,below_drew h.B n⟩
theorem RL.hid {W w:yW}{v:Value}{L:List Tk}(h:RL W w v L):Hid (RL W w v L):=h
theorem tk_cells (y:Tk):∀ j,j < 5→(tkA y).toList[j]? = some (tkF (fun _=>y) j):=by
 intro j hj
 match j,hj with
 | 0,_=>rfl
 | 1,_=>rfl
 | 2,_=>rfl
 | 3,_=>rfl
 | 4,_=>rfl
theorem app_core {W w0 w':yW}{v:Value}{L:List Tk}{y:Tk}{g cap:Nat}(hR:RL W w0 v L)
  (h2:w'.ownsRow 0 233 5 (.slice (some g¢0) (L.length+1) cap) (L.length+1) ((List.range (L.length * 5)).map (tkF (lsF L)) ++ (tkA y).toList))
  (h3:(w0.alloc (.cells (tkA y) 233)).grownBy w' v.ownBlock) (h4:v.ownBlock=some g∨g=(w0.alloc (.cells (tkA y) 233))§) :
  RL W w' (.slice (some g¢0) (L.length+1) cap) (L ++ [y])∧w0§≤w'§∧∀ b,b < w0§→v.ownBlock≠some b→w'.heap[b]? = w0.heap[b]?:=by
 have hsz:=size_alloc w0 (.cells (tkA y) 233)
 have hB0:=hR.B.alloc hR.B.size (.cells (tkA y) 233)
 refine⟨⟨?_,?_,hB0.grown h3 hB0.size (fun k hk=>hR.nb k hk)⟩,?_,?_⟩
 ·have hr:=Row.snoc (x:=tkF (fun _=>y)) h2 rfl (fun j hj=>tk_cells y j hj)
  unfold RowL
  rw [List.length_append,List.length_singleton]
  refine hr.congr fun j hj=>?_
  by_cases h:j < L.length * 5
  ·simp only [h,if_true]
   unfold tkF
   rw [lsF_lt (by omega)]
  ·have e:j / 5=L.length:=by omega
   simp only [h,if_false]
   unfold tkF
   rw [e,lsF_at,show (j - L.length * 5) % 5=j % 5 by omega]
 ·intro k hk
  simp [Value.ownBlock] at hk
  subst hk
  rcases h4 with h4 | h4
  ·exact hR.nb _ h4
  ·have:=hR.B.size; omega
 ·have:=h3.size; omega
 ·intro b hb hne
  rw [h3.block b (by omega) (fun e=>hne e.symm)]
  exact Below.heap_alloc _ _ _ hb
theorem news_core (w0:yW) (y:Tk):∀ j u,(tkA y).toList[j]? = some u→(w0.alloc (.cells (tkA y) 233)).cell? ((w0§¢0:Addr).add j)=some u:=World.news_of_block (heap_new w0 _)
theorem one_core (y:Tk):∀ u ∈ (tkA y).toList,u.oneCell'=true:=by
 intro u hu
 simp [tkA] at hu
 rcases hu with rfl | rfl | rfl | rfl | rfl <;> rfl
theorem append_token {W w0:yW}{ops:Array Oper}{rest:List Oper}{o:Oper}{a:Act}{Q:Exit→Act→yW→Prop}(hgd:o.guard=none) (d x:Operand)
  (ho:o.op=.call { callee:=.builtin .append,args:=#[d,x],argTypes:=#[166,166] }) (y:Tk) {v:Value}{L:List Tk}(hR:RL W w0 v L) (hs:a.eval d=v) (hx:a.eval x=.slice (some w0§¢0) 1 1) (hlen:L.length≤1000000000)
  (h:∀ v' w',RL W w' v' (L ++ [y])→w0§≤w'§→(∀ b,b < w0§→v.ownBlock≠some b→w'.heap[b]? = w0.heap[b]?)→wpList Tryz.prog ops Q rest (a.put o.dst v') w') :
  wpList Tryz.prog ops Q (o :: rest) a (w0.alloc (.cells (tkA y) 233)):=by
 obtain⟨i0,hi,hz0,hz1,hz2⟩:=info_parts Tryz.info233
 refine wpList_append_lies _ hgd d x 166 ho 0 233 i0 _ 5 48 Tryz.underlying166 hi hz0 hz1 hz2 rfl (by decide) v L.length _ hs (hR.row.alloc _) w0§¢0 1 1 (tkA y).toList hx rfl (news_core w0 y) (one_core y) (by decide) (by unfold maxLen; omega) (by omega) (Nat.zero_le _) _ rfl ?_
 intro g cap w' h2 h3 h4 h5
 obtain⟨q1,q2,q3⟩:=app_core hR h2 h3 h4
 exact h _ w' q1 q2 q3
def oneQ (s:yB) (f:Nat):Nat:=oneP s f+(oneT s f).x.size
def begO (s:yB) (f:Nat):List Tk × Int × Int :=
 if oneE s f≠0 then ([],oneE s f,oneB s f)
 else if (oneT s f).k=0 then ([oneT s f],0,0)
 else if _h:f < oneQ s f∧oneQ s f≤s.size then (oneT s f :: (begO s (oneQ s f)).1,(begO s (oneQ s f)).2)
 else ([],0,0)
termination_by s.size - f
decreasing_by all_goals omega
theorem beg_bad {s:yB}{f:Nat}(h:oneE s f≠0):begO s f=([],oneE s f,oneB s f):=by
 rw [begO,if_pos h]
theorem beg_end {s:yB}{f:Nat}(h:oneE s f=0) (hk:(oneT s f).k=0):begO s f=([oneT s f],0,0):=by
 rw [begO,if_neg (by simp [h]),if_pos hk]
theorem beg_more {s:yB}{f:Nat}(hf:f≤s.size) (h:oneE s f=0) (hk:¬ (oneT s f).k=0):f < oneQ s f∧oneQ s f≤s.size∧(oneT s f).p+((oneT s f).x.size:Int)=(oneQ s f:Nat)∧begO s f=(oneT s f :: (begO s (oneQ s f)).1,(begO s (oneQ s f)).2):=by
 obtain⟨q0,q1,q2,q3⟩:=one_fine s f hf h
 have q4:=q3 hk
 have e1:f < oneQ s f:=by unfold oneQ; omega
 have e2:oneQ s f≤s.size:=q2
 refine⟨e1,e2,by rw [q0]; unfold oneQ; omega,?_⟩
 rw [begO,if_neg (by simp [h]),if_neg hk,dif_pos ⟨e1,e2⟩]
theorem results_t3 {P:Program}{fn:Func}{p u v:Tmp}(h:fn.results=#[.tmp p,.tmp u,.tmp v]) (tmps:Array Value) (w:yW):(results fn tmps).run P w=.ok (.tuple #[tmps.getD p undef,tmps.getD u undef,tmps.getD v undef]) w:=by
 simp [results,h]
def tksE (s:yB):Int:=if s.size > 4096 then 110 else (begO s 0).2.1
def tksB (s:yB):Int:=if tksE s=0 then 0 else if s.size > 4096 then 0 else (begO s 0).2.2
def tksL (s:yB):List Tk:=if tksE s=0 then (begO s 0).1 else []
theorem RL.none {W w:yW}(h:yD W w):RL W w (.slice none 0 0) []:=⟨Row.nil _ _ _ _,fun k h=>by simp [Value.ownBlock] at h,h⟩
theorem tks_long {s:yB}(h:s.size > 4096):tksE s=110∧tksB s=0∧tksL s = []:=by
 have K1:tksE s=110:=by unfold tksE; rw [if_pos h]
 exact⟨K1,by unfold tksB; rw [K1,if_neg (by decide),if_pos h],by unfold tksL; rw [K1,if_neg (by decide)]⟩
theorem ov_lt:∀ (l m:List UInt8) (r:Bool),ov l r < l.length→ov (l ++ m) r=ov l r
 | [],m,r,h=>absurd h (by simp [ov])
 | c :: l,m,r,h=>by
  rw [List.cons_append,ov,ov]
  rw [ov] at h
  split
  ·rfl
  ·rename_i hc
   rw [if_neg hc] at h
   rw [ov_lt l m _ (by simp only [List.length_cons] at h; omega)]
theorem ov_all:∀ (l m:List UInt8) (r:Bool),ov l r=l.length→ov (l ++ m) r=l.length+ov m (l.foldl remB r)
 | [],m,r,h=>by simp
 | c :: l,m,r,h=>by
  rw [ov] at h
  by_cases hc:remB r c=false∧blankB c=false
  ·rw [if_pos hc] at h; simp at h
  ·rw [if_neg hc] at h
   rw [List.cons_append,ov_go hc,ov_all l m _ (by simp only [List.length_cons] at h; omega)]
   simp only [List.length_cons,List.foldl_cons]; omega
theorem ov_drop:∀ (l:List UInt8) (r:Bool),ov l r < l.length→ov (l.drop (ov l r)) false=0
 | [],r,h=>absurd h (by simp [ov])
 | c :: l,r,h=>by
  by_cases hc:remB r c=false∧blankB c=false
  ·rw [ov_stop hc.1 hc.2,List.drop_zero]
   refine ov_stop ?_ hc.2
   have:=hc.1
   unfold remB at this ⊢
   split at this
   ·exact absurd this (by simp)
   ·rename_i h35
    rw [if_neg h35]
    split <;> rfl
  ·rw [ov_go hc] at h ⊢
   rw [List.drop_succ_cons]
   exact ov_drop l _ (by simp only [List.length_cons] at h; omega)
theorem oneP_end {s:yB}{f:Nat}(h:oneP s f=s.size):oneE s f=0∧oneT s f=⟨0,⟨#[]⟩,0,0,s.size⟩:=by
 unfold oneE oneT
 rw [if_pos h,if_pos h,h]
 exact⟨rfl,rfl⟩
theorem lx_nil_k {l:List UInt8}{d:Nat}(h:lxE l=0):∃ k n ty v,lx l=some (k,n,ty,v)∧tkOf l d=⟨k,⟨(l.take n).toArray⟩,ty,v,d⟩:=by
 unfold lxE at h
 unfold tkOf
 cases hl:lx l with
 | none =>
  rw [hl,if_neg (by decide)] at h
  split at h
  ·exact absurd h (by decide)
  ·split at h <;> exact absurd h (by decide)
 | some q =>
  obtain⟨k,n,ty,v⟩:=q
  exact⟨k,n,ty,v,rfl,rfl⟩
def arr (l:List UInt8):yB:=⟨l.toArray⟩
theorem arr_size (l:List UInt8):(arr l).size=l.length:=by unfold arr; simp [ByteArray.size]
structure Good (t:Tk):Prop where
 kk:t.k≠0
 ne:0 < t.x.size
 bl:ov t.x.data.toList false=0
 lk:lx t.x.data.toList=some (t.k,t.x.size,t.ty,t.n)
theorem one_good {s:yB}{f:Nat}(hf:f≤s.size) (hE:oneE s f=0) (h:oneP s f≠s.size) :
  Good (oneT s f)∧(oneT s f).p=(oneP s f:Nat)∧f≤oneP s f∧oneP s f+(oneT s f).x.size≤s.size∧s.extract (oneP s f) (oneP s f+(oneT s f).x.size)=(oneT s f).x∧lx (rest s (oneP s f))=some ((oneT s f).k,(oneT s f).x.size,(oneT s f).ty,(oneT s f).n):=by
 obtain⟨e1,e2⟩:=one_lx s f hf h
 have hP:=oneP_le s f hf
 rw [hE] at e2
 obtain⟨k,n,ty,v,h1,h2⟩:=lx_nil_k (d:=oneP s f) e2.symm
 obtain⟨l1,l2,l3⟩:=lx_len h1
 have h3:oneT s f=⟨k,arr ((rest s (oneP s f)).take n),ty,v,(oneP s f:Nat)⟩:=e1.trans h2
 have h4:(arr ((rest s (oneP s f)).take n)).size=n:=by rw [arr_size,List.length_take]; omega
 have h5:(rest s (oneP s f)).length=s.size - oneP s f:=rest_len _ _
 have h6:ov (rest s (oneP s f)) false=0:=by
  have:=ov_drop (rest s f) false (by rw [rest_len]; unfold oneP at hP h; omega)
  rw [rest_drop] at this
  exact this
 rw [h3]
 refine⟨⟨l3,?_,?_,?_⟩,rfl,by unfold oneP; omega,?_,?_,?_⟩
 ·show 0 < (arr _).size
  rw [h4]; exact l1
 ·show ov ((rest s (oneP s f)).take n) false=0
  have ht:=ov_lt ((rest s (oneP s f)).take n) ((rest s (oneP s f)).drop n) false
  rw [List.take_append_drop,h6] at ht
  by_cases hc:ov ((rest s (oneP s f)).take n) false < ((rest s (oneP s f)).take n).length
  ·exact (ht hc).symm
  ·exfalso
   have hq:=ov_all ((rest s (oneP s f)).take n) ((rest s (oneP s f)).drop n) false (by have:=ov_le ((rest s (oneP s f)).take n) false; omega)
   rw [List.take_append_drop,h6,List.length_take] at hq
   omega
 ·show lx ((rest s (oneP s f)).take n)=some (k,(arr _).size,ty,v)
  rw [h4]; exact lx_take h1
 ·show _+(arr _).size≤_
  rw [h4]; omega
 ·show s.extract _ (_+(arr _).size)=arr _
  rw [h4,ext_eq]; rfl
 ·show _=some (k,(arr _).size,ty,v)
  rw [h4]; exact h1
def allF (s:yB) (f:Nat):List Tk:=if (begO s f).2.1=0 then (begO s f).1.dropLast else (begO s f).1
def allL (s:yB):List Tk:=if s.size > 4096 then [] else allF s 0
end Go.Proofs.YtfbjofnaghjmeaaGreatDoor
