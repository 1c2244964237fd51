import Derived.Test.YtkfabnchhjfjjaaGreatDoorA0
import Derived.Test.YtkfabnchhjfjjaaGreatDoorA1
import Derived.WalkMore
import Derived.Deep.RegionHeld3
import Derived.Deep.QuietTactic
import Derived.BigQuiet
import Derived.Below
import Derived.WalkKit
import Derived.ProofKit
import Derived.OwnWalk
import Derived.WalkSmall
import Derived.Outline
import Derived.Deep.AppendLies
import Derived.Deep.RegionLaw
namespace Go.Proofs.YtkfabnchhjfjjaaGreatDoor
def mB (l:List UInt8) (i:Nat):Bool:=decide ((mk i).size≤l.length) && (l.take (mk i).size == (mk i).data.toList)
def mO (l:List UInt8):Option Nat:=(List.range 23).find? (mB l)
def nE (l:List UInt8) (d:Nat):Nat:=if nbTy (l.drop d)=1 then d else d+1
def lx (l:List UInt8):Option (Int × Nat × Int × Int) :=
 if hdB letB l=true then (if lead goB l > 16 then none else some (if isW ⟨(l.take (lead goB l)).toArray⟩=true then 1 else 2,lead goB l,0,0))
 else if hdB digB l=true then
  (match nmS l 0 0 with
  | none=>none
  | some (n,d)=>if n > 9223372036854775807∨(d > 1∧hd0 l=true) then none
   else if badH (l.drop (nE l d))=true then none else some (3,nE l d,nbTy (l.drop d),n))
 else (match mO l with | none=>none | some i=>some (4,(mk i).size,0,0))
def lxE (l:List UInt8):Int:=if (lx l).isSome=true then 0 else if hdB letB l=true then 112 else if hdB digB l=true then 113 else 111
def tkOf (l:List UInt8) (d:Nat):Tk:=match lx l with | some (k,n,ty,v)=>⟨k,⟨(l.take n).toArray⟩,ty,v,d⟩ | none=>tk0
theorem ext_list (s:ByteArray) (a n:Nat):(s.extract a (a+n)).data.toList=(rest s a).take n:=by
 unfold rest
 rw [ByteArray.data_extract,Array.toList_extract]
 simp [List.extract_eq_take_drop]
theorem ext_eq (s:ByteArray) (a n:Nat):s.extract a (a+n)=⟨((rest s a).take n).toArray⟩:=str_eq (by rw [ext_list])
theorem rest_drop (s:ByteArray) (a n:Nat):(rest s a).drop n=rest s (a+n):=by unfold rest; rw [List.drop_drop]
theorem mB_mkB (s:ByteArray) (a:Nat) (ha:a≤s.size) (i:Nat):mB (rest s a) i=mkB s a i:=by
 unfold mB mkB
 rw [ext_list,rest_len]
 congr 1
 by_cases h:(mk i).size≤s.size - a
 ·rw [decide_eq_true h,decide_eq_true (by omega)]
 ·rw [decide_eq_false h,decide_eq_false (by omega)]
theorem mO_mkO (s:ByteArray) (a:Nat) (ha:a≤s.size):mO (rest s a)=mkO s a:=by
 unfold mO mkO
 congr 1
 funext i
 exact mB_mkB s a ha i
theorem mO_take {l:List UInt8}{i:Nat}(h:mO l=some i):i < 23∧l.take (mk i).size=(mk i).data.toList∧(mk i).size≤l.length:=by
 unfold mO at h
 rw [List.find?_range_eq_some] at h
 obtain⟨h1,h2,_⟩:=h
 unfold mB at h1
 rw [Bool.and_eq_true] at h1
 exact⟨by simpa using h2,by simpa using h1.2,of_decide_eq_true h1.1⟩
theorem one_lx (s:ByteArray) (f:Nat) (hf:f≤s.size) (h:oneP s f≠s.size) :
  oneT s f=tkOf (rest s (oneP s f)) (oneP s f)∧oneE s f=lxE (rest s (oneP s f)):=by
 have hP:=oneP_le s f hf
 unfold oneT oneE
 generalize oneP s f=d at *
 rw [if_neg h,if_neg h]
 unfold tkOf lxE lx
 by_cases hl:hdB letB (rest s d)=true
 ·rw [if_pos hl,if_pos hl,if_pos hl,if_pos hl]
  unfold nmT nmE
  by_cases hk:lead goB (rest s d) > 16
  ·rw [if_pos hk,if_pos hk,if_pos hk]; exact⟨rfl,rfl⟩
  ·rw [if_neg hk,if_neg hk,if_neg hk,ext_eq]; exact⟨rfl,rfl⟩
 rw [if_neg hl,if_neg hl,if_neg hl,if_neg hl]
 by_cases hg:hdB digB (rest s d)=true
 ·rw [if_pos hg,if_pos hg,if_pos hg,if_pos hg]
  unfold nbT nbE nbO
  cases hm:nmS (rest s d) 0 0 with
  | none=>exact⟨rfl,rfl⟩
  | some q =>
   obtain⟨n,k⟩:=q
   have e1:(if nbTy (rest s (d+k))=1 then d+k else d+k+1)=d+nE (rest s d) k:=by
    unfold nE
    rw [rest_drop]
    split <;> rfl
   simp only [e1,rest_drop]
   by_cases c1:n > 9223372036854775807∨(k > 1∧hd0 (rest s d)=true)
   ·simp [if_pos c1]
   ·simp only [if_neg c1]
    by_cases c2:badH (rest s (d+nE (rest s d) k))=true
    ·simp [if_pos c2]
    ·simp [if_neg c2,ext_eq]
 rw [if_neg hg,if_neg hg,if_neg hg,if_neg hg]
 unfold mkT mkE
 rw [mO_mkO s d hP]
 cases hm:mkO s d with
 | none=>exact⟨rfl,rfl⟩
 | some i =>
  have:=(mO_take (by rw [mO_mkO s d hP]; exact hm:mO (rest s d)=some i)).2.1
  refine⟨?_,rfl⟩
  show (⟨4,mk i,0,0,d⟩:Tk)=⟨4,⟨(List.take (mk i).size (rest s d)).toArray⟩,0,0,d⟩
  rw [this]
theorem nmS_le {l:List UInt8}{n d:Nat}(h:nmS l 0 0=some (n,d)):d≤l.length:=by have:=(nmS_len _ _ _ _ _ h).2.1; omega
theorem nE_le {l:List UInt8}{d:Nat}(h:d≤l.length):nE l d≤l.length:=by
 unfold nE
 by_cases e:nbTy (l.drop d)=1
 ·rw [if_pos e]; exact h
 ·rw [if_neg e]
  have:d≠l.length:=by
   intro hd
   apply e
   rw [List.drop_eq_nil_of_le (by omega)]; rfl
  omega
theorem lx_len {l:List UInt8}{k:Int}{n:Nat}{ty v:Int}(h:lx l=some (k,n,ty,v)):0 < n∧n≤l.length∧k≠0:=by
 unfold lx at h
 by_cases hl:hdB letB l=true
 ·rw [if_pos hl] at h
  by_cases hk:lead goB l > 16
  ·rw [if_pos hk] at h; exact absurd h (by simp)
  ·rw [if_neg hk] at h
   simp only [Option.some.injEq,Prod.mk.injEq] at h
   obtain⟨e1,rfl,_⟩:=h
   refine⟨lead_pos (hd_go hl),lead_le goB l,?_⟩
   rw [← e1]; split <;> decide
 rw [if_neg hl] at h
 by_cases hg:hdB digB l=true
 ·rw [if_pos hg] at h
  cases hm:nmS l 0 0 with
  | none=>rw [hm] at h; exact absurd h (by simp)
  | some q =>
   obtain⟨n2,d⟩:=q
   have hd:=nmS_le hm
   have h3:=(nmS_len _ _ _ _ _ hm).2.2 hg
   rw [hm] at h
   simp only at h
   split at h
   ·exact absurd h (by simp)
   ·split at h
    ·exact absurd h (by simp)
    ·simp only [Option.some.injEq,Prod.mk.injEq] at h
     obtain⟨e1,rfl,_⟩:=h
     refine⟨?_,nE_le hd,by rw [← e1]; decide⟩
     unfold nE; split <;> omega
 rw [if_neg hg] at h
 cases hm:mO l with
 | none=>rw [hm] at h; exact absurd h (by simp)
 | some i =>
  rw [hm] at h
  simp only [Option.some.injEq,Prod.mk.injEq] at h
  obtain⟨e1,rfl,_⟩:=h
  have:=mO_take hm
  exact⟨mk_pos i this.1,this.2.2,by rw [← e1]; decide⟩
theorem lead_take {p:UInt8→Bool}:∀ l:List UInt8,lead p (l.take (lead p l))=lead p l
 | []=>rfl
 | x :: l=>by
  have:=lead_take (p:=p) l
  by_cases h:p x=true
  ·simp [h,lead,this]
  ·simp [h,lead]
theorem hdB_take {p:UInt8→Bool}{n:Nat}(h:0 < n):∀ l:List UInt8,hdB p (l.take n)=hdB p l
 | []=>by simp
 | x :: l=>by obtain⟨m,rfl⟩:∃ m,n=m+1:=⟨n - 1,by omega⟩; rfl
theorem hd0_take {n:Nat}(h:0 < n):∀ l:List UInt8,hd0 (l.take n)=hd0 l
 | []=>by simp
 | x :: l=>by obtain⟨m,rfl⟩:∃ m,n=m+1:=⟨n - 1,by omega⟩; rfl
theorem nmS_take:∀ (l:List UInt8) (n k n' k' e:Nat),nmS l n k=some (n',k')→k'≤k+e→nmS (l.take e) n k=some (n',k')
 | [],n,k,n',k',e,h,he=>by simpa using h
 | x :: l,n,k,n',k',e,h,he=>by
  have hle:=nmS_len _ _ _ _ _ h
  cases e with
  | zero =>
   have:k'=k:=by omega
   subst this
   have h3:¬ digB x=true:=fun h'=>by have:=hle.2.2 h'; omega
   simp only [nmS,if_neg h3] at h
   simpa [nmS] using h
  | succ e =>
   simp only [List.take_succ_cons,nmS] at h ⊢
   by_cases hg:digB x=true
   ·rw [if_pos hg] at h ⊢
    by_cases hn:n > 922337203685477580
    ·rw [if_pos hn] at h; exact absurd h (by simp)
    ·rw [if_neg hn] at h ⊢
     exact nmS_take l _ _ _ _ e h (by omega)
   ·rw [if_neg hg] at h ⊢; exact h
theorem nbTy_take {n:Nat}(h:0 < n):∀ l:List UInt8,nbTy (l.take n)=nbTy l
 | []=>by simp
 | x :: l=>by obtain⟨m,rfl⟩:∃ m,n=m+1:=⟨n - 1,by omega⟩; rfl
theorem mB_take {l:List UInt8}{n i:Nat}(h:mB (l.take n) i=true):mB l i=true:=by
 unfold mB at h ⊢
 rw [Bool.and_eq_true] at h ⊢
 have h1:=of_decide_eq_true h.1
 have h2:List.take (mk i).size (List.take n l)=(mk i).data.toList:=by simpa using h.2
 have h3:(mk i).size≤n:=by simp at h1; omega
 rw [List.take_take,Nat.min_eq_left h3] at h2
 refine⟨decide_eq_true (by simp at h1; omega),by rw [h2]; simp⟩
theorem lx_take {l:List UInt8}{k:Int}{n:Nat}{ty v:Int}(h:lx l=some (k,n,ty,v)):lx (l.take n)=some (k,n,ty,v):=by
 obtain⟨hn,hnl,_⟩:=lx_len h
 unfold lx at h ⊢
 rw [hdB_take hn,hdB_take hn]
 by_cases hl:hdB letB l=true
 ·rw [if_pos hl] at h ⊢
  by_cases hk:lead goB l > 16
  ·rw [if_pos hk] at h; exact absurd h (by simp)
  ·rw [if_neg hk] at h
   simp only [Option.some.injEq,Prod.mk.injEq] at h
   obtain⟨e1,rfl,e2,e3⟩:=h
   rw [lead_take,if_neg hk,List.take_take,Nat.min_self,e1,← e2,← e3]
 rw [if_neg hl] at h ⊢
 by_cases hg:hdB digB l=true
 ·rw [if_pos hg] at h ⊢
  cases hm:nmS l 0 0 with
  | none=>rw [hm] at h; exact absurd h (by simp)
  | some q =>
   obtain⟨n2,d⟩:=q
   have hd:=nmS_le hm
   rw [hm] at h
   simp only at h
   by_cases c1:n2 > 9223372036854775807∨(d > 1∧hd0 l=true)
   ·rw [if_pos c1] at h; exact absurd h (by simp)
   rw [if_neg c1] at h
   by_cases c2:badH (l.drop (nE l d))=true
   ·rw [if_pos c2] at h; exact absurd h (by simp)
   rw [if_neg c2] at h
   simp only [Option.some.injEq,Prod.mk.injEq] at h
   obtain⟨e1,e2,e3,e4⟩:=h
   have hdn:d≤n:=by rw [← e2]; unfold nE; split <;> omega
   rw [nmS_take l 0 0 n2 d n hm (by omega)]
   simp only
   have e5:nbTy ((l.take n).drop d)=nbTy (l.drop d):=by
    rw [List.drop_take]
    by_cases hz:n - d=0
    ·rw [hz,List.take_zero]
     have:nE l d=d:=by omega
     unfold nE at this
     by_cases ht:nbTy (l.drop d)=1
     ·rw [ht]; rfl
     ·rw [if_neg ht] at this; omega
    ·exact nbTy_take (by omega) _
   have e6:nE (l.take n) d=n:=by unfold nE; rw [e5]; exact e2
   rw [hd0_take hn,if_neg c1,e6,e5,List.drop_eq_nil_of_le (by rw [List.length_take]; omega)]
   rw [if_neg (by decide),e1,e3,e4]
 rw [if_neg hg] at h ⊢
 cases hm:mO l with
 | none=>rw [hm] at h; exact absurd h (by simp)
 | some i =>
  have ht:=mO_take hm
  rw [hm] at h
  simp only [Option.some.injEq,Prod.mk.injEq] at h
  obtain⟨e1,e2,e3,e4⟩:=h
  have:mO (l.take n)=some i:=by
   unfold mO at hm ⊢
   rw [List.find?_range_eq_some] at hm ⊢
   refine⟨?_,hm.2.1,fun j hj=>?_⟩
   ·unfold mB
    rw [Bool.and_eq_true]
    refine⟨decide_eq_true (by rw [List.length_take]; omega),?_⟩
    rw [List.take_take,← e2,Nat.min_self,ht.2.1]; simp
   ·have:=hm.2.2 j hj
    cases hb:mB (l.take n) j with
    | false=>rfl
    | true=>rw [mB_take hb] at this; exact absurd this (by simp)
  rw [this]
  simp only
  rw [e1,e2,← e3,← e4]
set_option maxRecDepth 100000
set_option maxHeartbeats 2000000
open Go.RowKit
def pbT (s:ByteArray) (a:Nat):Tk:=if nbE s a=0 then nbT s a else tkP a
theorem pb_no {s:ByteArray}{a:Nat}(h:nbO s a=none):Hid (pbT s a=tkP a∧nbE s a=113):=by
 obtain⟨_,h2⟩:=(nb_no h).out
 exact⟨by unfold pbT; rw [h2,if_neg (by decide)],h2⟩
theorem pb_yes {s:ByteArray}{a n e:Nat}{ty:Int}(h:nbO s a=some (n,e,ty)):Hid (pbT s a=⟨3,s.extract a e,ty,n,a⟩∧nbE s a=0):=by
 obtain⟨h1,h2⟩:=(nb_yes h).out
 exact⟨by unfold pbT; rw [h2,if_pos rfl,h1],h2⟩
def nbM (o:Option Nat) (g bg:Bool) (e:Nat) (ty:Int):Option (Nat × Nat × Int):=match o with | none=>none | some n=>if g=true then none else if bg=true then none else some (n,e,ty)
theorem nbM_of {s:ByteArray}{a d e:Nat}(hd:d=a+lead digB (rest s a)) (he:e=if nbTy (rest s d)=1 then d else d+1) :
  nbO s a=nbM (wv ((rest s a).take (lead digB (rest s a))) 0) (decide (d - a > 1) && hd0 (rest s a)) (badH (rest s e)) e (nbTy (rest s d)):=by
 rw [nbO_parts s a d e hd he]
 unfold nbM
 cases wv ((rest s a).take (lead digB (rest s a))) 0 with
 | none=>rfl
 | some n =>
  simp only
  by_cases h:d - a > 1∧hd0 (rest s a)=true
  ·rw [if_pos h,if_pos (by rw [decide_eq_true h.1,h.2]; rfl)]
  ·have h2:(decide (d - a > 1) && hd0 (rest s a))=false:=by
    by_cases h1:d - a > 1
    ·rw [decide_eq_true h1,Bool.true_and]
     cases hh:hd0 (rest s a)
     ·rfl
     ·exact absurd ⟨h1,hh⟩ h
    ·rw [decide_eq_false h1]; rfl
   rw [if_neg h,h2]; rfl
theorem box_two (s:ByteArray) (w:World):∃ W,(w.alloc (.cells #[.string s] 9)).alloc (.cells zA10 82)=W ∧
  Hid (TkH W (w§+1) tk0)∧W.cell? ⟨w§,0,none⟩=some (.string s)∧Hid (Below w§ w W)∧W§=w§+2:=by
 refine⟨_,rfl,?_,?_,below_two w _ _,by rw [Sa,Sa]⟩
 ·show TkH _ _ _
  have:=Hn (w.alloc (.cells #[.string s] 9)) (.cells (tkA tk0) 82)
  rw [Sa] at this
  exact this
 ·exact Co (heap_old (Hn w (.cells #[.string s] 9)) (by rw [Sa]; omega)) 0
theorem numberp_any (s:ByteArray) (a:Nat) (hs:s.size≤140737488355328) (ha:a < s.size) (hdg:hdB digB (rest s a)=true) (w:World) :
  Calls zG 146 #[.string s,zI a] w fun e w'=>e=.returned (.tuple #[.agg (tkA (pbT s a)),zI (nbE s a)])∧Below w§ w w':=by
 obtain⟨d,hd⟩:∃ d,d=a+lead digB (rest s a):=⟨_,rfl⟩
 obtain⟨e,he⟩:∃ e,e=if nbTy (rest s d)=1 then d else d+1:=⟨_,rfl⟩
 have hp0:=lead_pos hdg
 have hd1:a≤d:=by omega
 have hd2:d≤s.size:=by have:=lead_le digB (rest s a); rw [rest_len] at this; omega
 have he1:a≤e:=by rw [he]; split <;> omega
 have he2:e≤s.size:=by
  rw [he]
  by_cases h:nbTy (rest s d)=1
  ·rw [if_pos h]; exact hd2
  ·rw [if_neg h]; exact nbTy_nil h
 obtain⟨x,ex⟩:∃ x,s.extract a d=x:=⟨_,rfl⟩
 have hxl:x.data.toList=(rest s a).take (lead digB (rest s a)):=by rw [← ex,hd]; exact ext_list _ _ _
 have hx0:rest x 0=(rest s a).take (lead digB (rest s a)):=by rw [← hxl]; unfold rest; simp
 have hxs:x.size=d - a:=by rw [← ex]; exact ext_size s a d hd2
 have hx00:hd0 (rest x 0)=hd0 (rest s a):=by rw [hx0]; exact hd0_take hp0 _
 have hO:=nbM_of hd he
 rw [← hx0,← hx00] at hO
 have cT:=typed_any s d hs hd2
 rw [← he] at cT
 have cW:=worth_any x (by omega) (fun c hc=>by rw [hx0] at hc; exact lead_all _ c hc)
 have cP:=isPadded_any x (by omega)
 have cG:=isGlued_any s e he2
 obtain⟨W,eW,HR,hc,HB,hz⟩:=box_two s w
 have cR:=reachN_any s a w§ hs (Nat.le_of_lt ha) W hc d hd
 obtain⟨o,ho⟩:∃ o,wv (rest x 0) 0=o:=⟨_,rfl⟩
 rw [ho] at hO cW
 obtain⟨ty,hty⟩:∃ ty,nbTy (rest s d)=ty:=⟨_,rfl⟩
 rw [hty] at hO cT
 rw [hxs] at cP
 obtain⟨bp,hbp⟩:∃ bp,(decide (d - a > 1) && hd0 (rest x 0))=bp:=⟨_,rfl⟩
 rw [hbp] at hO cP
 obtain⟨bg,hbg⟩:∃ bg,badH (rest s e)=bg:=⟨_,rfl⟩
 rw [hbg] at hO cG
 have HO:=zH hO
 obtain⟨r0,r1,r2,r3,r4⟩:=HR.out.cells
 obtain⟨f0,f1,f2,f3,f4⟩:=HR.out.froz
 clear hO hd he hp0 hxl hx0 hx00 ho hty hbp hbg hdg
 cases o with
 | none =>
  have K:=pb_no HO.out
  simp only [Option.isSome,wvN] at cW
  clear HO
  go_enter Tryz.func146,Tryz.ntmps146
  go_wp2_with (first | (go_at_call 161; refine cR.mono ?_; rintro _ v ⟨rfl,q⟩; obtain rfl:=q.symm) | (go_at_call 165; refine (cT _).mono ?_; rintro _ v ⟨rfl,q⟩; obtain rfl:=q.symm) | (go_at_call 166; refine (cW _).mono ?_; rintro _ v ⟨rfl,q⟩; obtain rfl:=q.symm) | (go_at_call 167; refine (cP _).mono ?_; rintro _ v ⟨rfl,q⟩; obtain rfl:=q.symm) | (go_at_call 168; refine (cG _).mono ?_; rintro _ v ⟨rfl,q⟩; obtain rfl:=q.symm))
  exact bodyPost_ret (Rt2 (p:=4) (u:=5) (ty:=82) rfl _ _ (w§+1) 82 (tkA (tkP a)) (0,0) _ rfl (HR.out.put (tkP a)) Tryz.underlying82 rfl zK) rfl ⟨by rw [K.out.1,K.out.2]; rfl,below_put HB.out (by omega) _ _ _ _ _⟩
 | some n =>
  simp only [Option.isSome,wvN] at cW
  cases bp
  ·cases bg
   ·have K:=pb_yes HO.out
    obtain⟨y,ey⟩:∃ y,s.extract a e=y:=⟨_,rfl⟩
    rw [ey] at K
    clear HO
    go_enter Tryz.func146,Tryz.ntmps146
    go_wp2_with (first | (go_at_call 161; refine cR.mono ?_; rintro _ v ⟨rfl,q⟩; obtain rfl:=q.symm) | (go_at_call 165; refine (cT _).mono ?_; rintro _ v ⟨rfl,q⟩; obtain rfl:=q.symm) | (go_at_call 166; refine (cW _).mono ?_; rintro _ v ⟨rfl,q⟩; obtain rfl:=q.symm) | (go_at_call 167; refine (cP _).mono ?_; rintro _ v ⟨rfl,q⟩; obtain rfl:=q.symm) | (go_at_call 168; refine (cG _).mono ?_; rintro _ v ⟨rfl,q⟩; obtain rfl:=q.symm))
    exact bodyPost_ret (Rt2 (p:=4) (u:=5) (ty:=82) rfl _ _ (w§+1) 82 (tkA ⟨3,y,ty,n,a⟩) (0,0) _ rfl (HR.out.put ⟨3,y,ty,n,a⟩) Tryz.underlying82 rfl zK) rfl ⟨by rw [K.out.1,K.out.2]; rfl,below_put HB.out (by omega) _ _ _ _ _⟩
   ·have K:=pb_no HO.out
    clear HO
    go_enter Tryz.func146,Tryz.ntmps146
    go_wp2_with (first | (go_at_call 161; refine cR.mono ?_; rintro _ v ⟨rfl,q⟩; obtain rfl:=q.symm) | (go_at_call 165; refine (cT _).mono ?_; rintro _ v ⟨rfl,q⟩; obtain rfl:=q.symm) | (go_at_call 166; refine (cW _).mono ?_; rintro _ v ⟨rfl,q⟩; obtain rfl:=q.symm) | (go_at_call 167; refine (cP _).mono ?_; rintro _ v ⟨rfl,q⟩; obtain rfl:=q.symm) | (go_at_call 168; refine (cG _).mono ?_; rintro _ v ⟨rfl,q⟩; obtain rfl:=q.symm))
    exact bodyPost_ret (Rt2 (p:=4) (u:=5) (ty:=82) rfl _ _ (w§+1) 82 (tkA (tkP a)) (0,0) _ rfl (HR.out.put (tkP a)) Tryz.underlying82 rfl zK) rfl ⟨by rw [K.out.1,K.out.2]; rfl,below_put HB.out (by omega) _ _ _ _ _⟩
  ·have K:=pb_no HO.out
   clear HO
   go_enter Tryz.func146,Tryz.ntmps146
   go_wp2_with (first | (go_at_call 161; refine cR.mono ?_; rintro _ v ⟨rfl,q⟩; obtain rfl:=q.symm) | (go_at_call 165; refine (cT _).mono ?_; rintro _ v ⟨rfl,q⟩; obtain rfl:=q.symm) | (go_at_call 166; refine (cW _).mono ?_; rintro _ v ⟨rfl,q⟩; obtain rfl:=q.symm) | (go_at_call 167; refine (cP _).mono ?_; rintro _ v ⟨rfl,q⟩; obtain rfl:=q.symm) | (go_at_call 168; refine (cG _).mono ?_; rintro _ v ⟨rfl,q⟩; obtain rfl:=q.symm))
   exact bodyPost_ret (Rt2 (p:=4) (u:=5) (ty:=82) rfl _ _ (w§+1) 82 (tkA (tkP a)) (0,0) _ rfl (HR.out.put (tkP a)) Tryz.underlying82 rfl zK) rfl ⟨by rw [K.out.1,K.out.2]; rfl,below_put HB.out (by omega) _ _ _ _ _⟩
set_option maxHeartbeats 4000000
def pairB (s:ByteArray) (a:Nat):Bool:=(List.range 6).any (mkB s a)
theorem mk_two (i:Nat) (h:i < 6):(mk i).size=2:=by
 have:∀ i,i < 6→(mk i).size=2:=by decide
 exact this i h
theorem mk_one (i:Nat) (h:6≤i) (h2:i < 23):(mk i).size=1:=by
 have:∀ i,i < 23→6≤i→(mk i).size=1:=by decide
 exact this i h2 h
theorem mkB_two {s:ByteArray}{a:Nat}(h:a+2≤s.size) (i:Nat) (hi:i < 6):mkB s a i=((s.extract a (a+2)).toList == (mk i).data.toList):=by
 unfold mkB
 rw [mk_two i hi,decide_eq_true h,ByteArray.toList_eq,Bool.true_and]
theorem pairB_of {s:ByteArray}{a:Nat}(h:a+2≤s.size) {x:ByteArray}(hx:s.extract a (a+2)=x):pairB s a=((x.toList == [61,61]) || ((x.toList == [33,61]) || ((x.toList == [60,61]) || ((x.toList == [62,61]) || ((x.toList == [38,38]) || (x.toList == [124,124])))))):=by
 unfold pairB
 have e:∀ i,i < 6→mkB s a i=(x.toList == (mk i).data.toList):=fun i hi=>by rw [mkB_two h i hi,hx]
 rw [show List.range 6 = [0,1,2,3,4,5] from rfl]
 simp only [List.any_cons,List.any_nil,Bool.or_false]
 rw [e 0 (by decide),e 1 (by decide),e 2 (by decide),e 3 (by decide),e 4 (by decide),e 5 (by decide)]
 rfl
theorem pairB_short {s:ByteArray}{a:Nat}(h:¬ a+2≤s.size):pairB s a=false:=by
 unfold pairB
 rw [List.any_eq_false]
 intro i hi
 have hi6:i < 6:=by simpa using hi
 unfold mkB
 rw [mk_two i hi6,decide_eq_false h]
 simp
theorem isPair_any (s:ByteArray) (a:Nat) (hs:s.size≤140737488355328) (ha:a≤s.size) (w:World) :
  Calls zG 169 #[.string s,zI a] w fun e w'=>e=.returned (.bool (pairB s a))∧w'=w:=by
 by_cases h:a+2≤s.size
 ·obtain⟨d,hd⟩:∃ d,d=a+2:=⟨_,rfl⟩
  have hdI:(a:Int)+2=(d:Int):=by omega
  have hd1:a≤d:=by omega
  have hd2:d≤s.size:=by omega
  have h':¬ (s.size:Int) < (d:Int):=by omega
  obtain⟨x,ex⟩:∃ x,s.extract a d=x:=⟨_,rfl⟩
  have hP:=pairB_of h (x:=x) (by rw [← hd]; exact ex)
  obtain⟨b,eb⟩:∃ b,pairB s a=b:=⟨_,rfl⟩
  rw [eb] at hP ⊢
  have KB:=zH hP
  clear hd h hP eb
  cases q0:(x.toList == [61,61])
  ·cases q1:(x.toList == [33,61])
   ·cases q2:(x.toList == [60,61])
    ·cases q3:(x.toList == [62,61])
     ·cases q4:(x.toList == [38,38])
      ·cases q5:(x.toList == [124,124])
       ·have KB2:Hid (b=false):=by show _=_; rw [KB.out,q0,q1,q2,q3,q4,q5]; rfl
        clear KB
        go_enter Tryz.func169,Tryz.ntmps169
        go_wp2_with fail
        go_ret
        exact⟨retB (by rw [KB2.out]),rfl⟩
       ·have KB2:Hid (b=true):=by show _=_; rw [KB.out,q0,q1,q2,q3,q4,q5]; simp
        clear KB
        go_enter Tryz.func169,Tryz.ntmps169
        go_wp2_with fail
        go_ret
        exact⟨retB (by rw [KB2.out]),rfl⟩
      ·have KB2:Hid (b=true):=by show _=_; rw [KB.out,q0,q1,q2,q3,q4]; simp
       clear KB
       go_enter Tryz.func169,Tryz.ntmps169
       go_wp2_with fail
       go_ret
       exact⟨retB (by rw [KB2.out]),rfl⟩
     ·have KB2:Hid (b=true):=by show _=_; rw [KB.out,q0,q1,q2,q3]; simp
      clear KB
      go_enter Tryz.func169,Tryz.ntmps169
      go_wp2_with fail
      go_ret
      exact⟨retB (by rw [KB2.out]),rfl⟩
    ·have KB2:Hid (b=true):=by show _=_; rw [KB.out,q0,q1,q2]; simp
     clear KB
     go_enter Tryz.func169,Tryz.ntmps169
     go_wp2_with fail
     go_ret
     exact⟨retB (by rw [KB2.out]),rfl⟩
   ·have KB2:Hid (b=true):=by show _=_; rw [KB.out,q0,q1]; simp
    clear KB
    go_enter Tryz.func169,Tryz.ntmps169
    go_wp2_with fail
    go_ret
    exact⟨retB (by rw [KB2.out]),rfl⟩
  ·have KB2:Hid (b=true):=by show _=_; rw [KB.out,q0]; simp
   clear KB
   go_enter Tryz.func169,Tryz.ntmps169
   go_wp2_with fail
   go_ret
   exact⟨retB (by rw [KB2.out]),rfl⟩
 ·have h':(s.size:Int) < (a:Int)+2:=by omega
  rw [pairB_short h]
  go_enter Tryz.func169,Tryz.ntmps169
  go_wp2_with fail
  go_ret
  exact⟨rfl,rfl⟩
def marks1:List UInt8:=[123,125,40,41,44,59,63,58,61,33,60,62,43,45,42,47,37]
theorem index_mem:∀ (l:List UInt8) (c:UInt8),c ∈ l→0≤Lib.indexByte l c
 | [],c,h=>by simp at h
 | b :: l,c,h=>by
  unfold Lib.indexByte
  by_cases hb:b == c
  ·rw [if_pos hb]; exact Int.le_refl _
  ·rw [if_neg hb]
   rw [List.mem_cons] at h
   rcases h with rfl | h
   ·simp at hb
   ·have:=index_mem l c h
    rw [if_neg (by simp; omega)]; omega
theorem index_no:∀ (l:List UInt8) (c:UInt8),c ∉ l→Lib.indexByte l c = -1
 | [],c,h=>rfl
 | b :: l,c,h=>by
  rw [List.mem_cons,not_or] at h
  have:=index_no l c h.2
  unfold Lib.indexByte
  rw [if_neg (by simpa using (fun e:b=c=>h.1 e.symm)),this]
  rfl
theorem mkO_at {s:ByteArray}{a i:Nat}(h:mkO s a=some i):i < 23∧mkB s a i=true∧∀ j,j < i→mkB s a j=false:=by
 unfold mkO at h
 rw [List.find?_range_eq_some] at h
 exact⟨by simpa using h.2.1,h.1,fun j hj=>by simpa using h.2.2 j hj⟩
theorem mkB_at {s:ByteArray}{a i:Nat}(h:mkB s a i=true):a+(mk i).size≤s.size∧s.extract a (a+(mk i).size)=mk i:=by
 unfold mkB at h
 rw [Bool.and_eq_true] at h
 exact⟨of_decide_eq_true h.1,str_eq (by simpa using h.2)⟩
theorem mark_two {s:ByteArray}{a:Nat}(h:pairB s a=true):a+2≤s.size∧mkT s a=⟨4,s.extract a (a+2),0,0,a⟩∧mkE s a=0:=by
 unfold pairB at h
 rw [List.any_eq_true] at h
 obtain⟨j,hj,hm⟩:=h
 have hj6:j < 6:=by simpa using hj
 cases ho:mkO s a with
 | none =>
  unfold mkO at ho
  rw [List.find?_eq_none] at ho
  exact absurd hm (ho j (by simp; omega))
 | some i =>
  obtain⟨h1,h2,h3⟩:=mkO_at ho
  have hi6:i < 6:=by
   by_cases hij:i≤j
   ·omega
   ·rw [h3 j (by omega)] at hm; cases hm
  obtain⟨h4,h5⟩:=mkB_at h2
  rw [mk_two i hi6] at h4 h5
  refine⟨h4,?_,?_⟩
  ·unfold mkT; rw [ho,h5]
  ·unfold mkE; rw [ho]
theorem ext_one {s:ByteArray}{a:Nat}{c:UInt8}(ha:a < s.size) (hc:s[a]=c):s.extract a (a+1)=⟨#[c]⟩:=by
 rw [ext_eq,rest_at s a ha,hc]; rfl
theorem mark_one {s:ByteArray}{a:Nat}{c:UInt8}(ha:a < s.size) (hc:s[a]=c) (h:pairB s a=false) (hm:c ∈ marks1):mkT s a=⟨4,s.extract a (a+1),0,0,a⟩∧mkE s a=0:=by
 have hex:=ext_one ha hc
 have hj:∃ j,6≤j∧j < 23∧mk j=⟨#[c]⟩:=by
  have:∀ c ∈ marks1,∃ j,j < 23∧(6≤j∧(mk j).data.toList = [c]):=by decide
  obtain⟨j,h1,h2,h3⟩:=this c hm
  exact⟨j,h2,h1,str_eq h3⟩
 obtain⟨j,j1,j2,j3⟩:=hj
 have hB:mkB s a j=true:=by
  unfold mkB
  rw [mk_one j j1 j2,hex,j3,decide_eq_true (by omega)]; simp
 cases ho:mkO s a with
 | none =>
  unfold mkO at ho
  rw [List.find?_eq_none] at ho
  exact absurd hB (ho j (by simp; omega))
 | some i =>
  obtain⟨h1,h2,_⟩:=mkO_at ho
  have hi6:6≤i:=by
   by_cases hi:6≤i
   ·exact hi
   ·unfold pairB at h
    rw [List.any_eq_false] at h
    exact absurd h2 (h i (by simp; omega))
  obtain⟨h4,h5⟩:=mkB_at h2
  rw [mk_one i hi6 h1] at h4 h5
  refine⟨?_,?_⟩
  ·unfold mkT; rw [ho,h5]
  ·unfold mkE; rw [ho]
theorem mark_no {s:ByteArray}{a:Nat}{c:UInt8}(ha:a < s.size) (hc:s[a]=c) (h:pairB s a=false) (hm:c ∉ marks1):mkE s a=111:=by
 have hex:=ext_one ha hc
 cases ho:mkO s a with
 | none=>unfold mkE; rw [ho]
 | some i =>
  exfalso
  obtain⟨h1,h2,_⟩:=mkO_at ho
  have hi6:6≤i:=by
   by_cases hi:6≤i
   ·exact hi
   ·unfold pairB at h
    rw [List.any_eq_false] at h
    exact absurd h2 (h i (by simp; omega))
  obtain⟨h4,h5⟩:=mkB_at h2
  rw [mk_one i hi6 h1,hex] at h5
  have:∀ i,i < 23→6≤i→∀ c ∈ (mk i).data.toList,c ∈ marks1:=by decide
  exact hm (this i h1 hi6 c (by rw [← h5]; simp))
def pmT (s:ByteArray) (a:Nat):Tk:=if mkE s a=0 then mkT s a else tkP a
theorem box_one (w:World):∃ W,w.alloc (.cells zA10 82)=W ∧
  Hid (TkH W w§ tk0)∧Hid (Below w§ w W)∧W§=w§+1 :=
 ⟨_,rfl,Hn w _,Bn w _,by rw [Sa]⟩
theorem markp_any (s:ByteArray) (a:Nat) (hs:s.size≤140737488355328) (ha:a < s.size) (w:World) :
  Calls zG 147 #[.string s,zI a] w fun e w'=>e=.returned (.tuple #[.agg (tkA (pmT s a)),zI (mkE s a)])∧Below w§ w w':=by
 have haI:(a:Int) < (s.size:Int):=by omega
 obtain⟨c,hc⟩:∃ c,s[a]=c:=⟨_,rfl⟩
 have cI:=indexByte_any Z07 (c.toNat:Int)
 have hcc:((c.toNat:Int)).toNat.toUInt8=c:=by simp
 have cP:=isPair_any s a hs (Nat.le_of_lt ha)
 obtain⟨W,eW,HR,HB,hz⟩:=box_one w
 obtain⟨r0,r1,r2,r3,r4⟩:=HR.out.cells
 obtain⟨f0,f1,f2,f3,f4⟩:=HR.out.froz
 cases hp:pairB s a
 ·rw [hp] at cP
  by_cases hm:c ∈ marks1
  ·obtain⟨m1,m2⟩:=mark_one ha hc hp hm
   have hi:0≤Lib.indexByte marks1 c:=index_mem _ _ hm
   obtain⟨g,hg⟩:∃ g,Lib.indexByte marks1 c=g:=⟨_,rfl⟩
   rw [hg] at hi
   have cI2:∀ w,Calls zG 170 #[.string Z07,zU (c.toNat:Int)] w fun e w'=>e=.returned (zI g)∧w'=w:=fun w=>by
    have:=cI w
    rw [hcc,show (ByteArray.mk #[123,125,40,41,44,59,63,58,61,33,60,62,43,45,42,47,37]).data.toList=marks1 from rfl,hg] at this
    exact this
   obtain⟨d,hd⟩:∃ d,d=a+1:=⟨_,rfl⟩
   have hdI:(a:Int)+1=(d:Int):=by omega
   have hd1:a≤d:=by omega
   have hd2:d≤s.size:=by omega
   obtain⟨x,ex⟩:∃ x,s.extract a d=x:=⟨_,rfl⟩
   have K:Hid (pmT s a=⟨4,x,0,0,a⟩∧mkE s a=0):=⟨by unfold pmT; rw [m2,if_pos rfl,m1,← hd,ex],m2⟩
   clear m1 m2 hd hm cI hg hcc hp
   go_enter Tryz.func147,Tryz.ntmps147
   go_wp2_with (first | (go_at_call 169; refine (cP _).mono ?_; rintro _ v ⟨rfl,q⟩; obtain rfl:=q.symm) | (go_at_call 170; refine (cI2 _).mono ?_; rintro _ v ⟨rfl,q⟩; obtain rfl:=q.symm))
   exact bodyPost_ret (Rt2 (p:=4) (u:=5) (ty:=82) rfl _ _ w§ 82 (tkA ⟨4,x,0,0,a⟩) (0,0) _ rfl (HR.out.put ⟨4,x,0,0,a⟩) Tryz.underlying82 rfl zK) rfl ⟨by rw [K.out.1,K.out.2]; rfl,below_put HB.out (Nat.le_refl _) _ _ _ _ _⟩
  ·have m2:=mark_no ha hc hp hm
   have hi:Lib.indexByte marks1 c = -1:=index_no _ _ hm
   have cI2:∀ w,Calls zG 170 #[.string Z07,zU (c.toNat:Int)] w fun e w'=>e=.returned (zI (-1))∧w'=w:=fun w=>by
    have:=cI w
    rw [hcc,show (ByteArray.mk #[123,125,40,41,44,59,63,58,61,33,60,62,43,45,42,47,37]).data.toList=marks1 from rfl,hi] at this
    exact this
   have K:Hid (pmT s a=tkP a∧mkE s a=111):=⟨by unfold pmT; rw [m2,if_neg (by decide)],m2⟩
   clear m2 hm cI hi hcc hp
   go_enter Tryz.func147,Tryz.ntmps147
   go_wp2_with (first | (go_at_call 169; refine (cP _).mono ?_; rintro _ v ⟨rfl,q⟩; obtain rfl:=q.symm) | (go_at_call 170; refine (cI2 _).mono ?_; rintro _ v ⟨rfl,q⟩; obtain rfl:=q.symm))
   exact bodyPost_ret (Rt2 (p:=4) (u:=5) (ty:=82) rfl _ _ w§ 82 (tkA (tkP a)) (0,0) _ rfl (HR.out.put (tkP a)) Tryz.underlying82 rfl zK) rfl ⟨by rw [K.out.1,K.out.2]; rfl,below_put HB.out (Nat.le_refl _) _ _ _ _ _⟩
 ·rw [hp] at cP
  obtain⟨m0,m1,m2⟩:=mark_two hp
  obtain⟨d,hd⟩:∃ d,d=a+2:=⟨_,rfl⟩
  have hdI:(a:Int)+2=(d:Int):=by omega
  have hd1:a≤d:=by omega
  have hd2:d≤s.size:=by omega
  obtain⟨x,ex⟩:∃ x,s.extract a d=x:=⟨_,rfl⟩
  have K:Hid (pmT s a=⟨4,x,0,0,a⟩∧mkE s a=0):=⟨by unfold pmT; rw [m2,if_pos rfl,m1,← hd,ex],m2⟩
  clear m0 m1 m2 hd cI hcc hp
  go_enter Tryz.func147,Tryz.ntmps147
  go_wp2_with (go_at_call 169; refine (cP _).mono ?_; rintro _ v ⟨rfl,q⟩; obtain rfl:=q.symm)
  exact bodyPost_ret (Rt2 (p:=4) (u:=5) (ty:=82) rfl _ _ w§ 82 (tkA ⟨4,x,0,0,a⟩) (0,0) _ rfl (HR.out.put ⟨4,x,0,0,a⟩) Tryz.underlying82 rfl zK) rfl ⟨by rw [K.out.1,K.out.2]; rfl,below_put HB.out (Nat.le_refl _) _ _ _ _ _⟩
set_option maxHeartbeats 8000000
theorem start_any (s:ByteArray) (a:Nat) (hs:s.size≤140737488355328) (ha:a≤s.size) (d:Nat) (hd:Hid (d=a+ov (rest s a) false)) (w:World) :
  Calls zG 142 #[.string s,zI a] w fun e w'=>e=.returned (zI d)∧w'=w:=by
 go_enter Tryz.func142,Tryz.ntmps142
 go_wp2_with fail
 go_step3
 go_wp2_with fail
 go_step3
 go_wp2_with fail
 go_loop [1,5] (fun t r=>∃ (i:Nat) (b:Bool),a≤i∧i≤s.size∧t=zI i∧r=.bool b∧Hid (d=i+ov (rest s i) b)) (fun t _=>s.size - (intOf t).toNat)
 case atStart=>exact⟨a,false,Nat.le_refl _,ha,rfl,rfl,hd⟩
 case round =>
  obtain⟨i,b,hi1,hi2,rfl,rfl,HR⟩:=hrel
  clear hd
  by_cases hlt:i < s.size
  ·have hlt':(i:Int) < (s.size:Int):=by omega
   have hr:=rest_at s i hlt
   obtain⟨c,hc⟩:∃ c,s[i]=c:=⟨_,rfl⟩
   rw [hc] at hr
   have hcl:=byte_lt c
   have hq:=hd hr
   clear hr
   by_cases k10:c.toNat=10
   ·have x10:((c.toNat:Int) == 10)=true:=by rw [k10]; rfl
    have hs2:Hid (d=(i+1)+ov (rest s (i+1)) false):=by
     show _=_
     have e:remB b c=false:=by unfold remB; rw [if_neg (by omega),if_pos k10]
     have e2:blankB c=true:=by unfold blankB; simp [k10]
     rw [HR.out,hq.out,ov_go (by rw [e2]; simp),e]; omega
    go_wp2_with fail
    exact⟨⟨i+1,false,by omega,by omega,by go_num,rfl,hs2⟩,by simp only [intOf]; omega⟩
   ·have x10:((c.toNat:Int) == 10)=false:=beq_false_of_ne (by omega)
    by_cases kb:c.toNat=32∨c.toNat=9∨c.toNat=13
    ·have e:remB b c=b:=by unfold remB; rw [if_neg (by omega),if_neg (by omega)]
     have e2:blankB c=true:=by unfold blankB; simp; omega
     have hs2:Hid (d=(i+1)+ov (rest s (i+1)) b):=by
      show _=_
      rw [HR.out,hq.out,ov_go (by rw [e2]; simp),e]; omega
     clear e e2
     rcases kb with h | h | h
     ·have x32:((c.toNat:Int) == 32)=true:=by rw [h]; rfl
      go_wp2_with fail
      exact⟨⟨i+1,b,by omega,by omega,by go_num,rfl,hs2⟩,by simp only [intOf]; omega⟩
     ·have x32:((c.toNat:Int) == 32)=false:=beq_false_of_ne (by omega)
      have x9:((c.toNat:Int) == 9)=true:=by rw [h]; rfl
      go_wp2_with fail
      exact⟨⟨i+1,b,by omega,by omega,by go_num,rfl,hs2⟩,by simp only [intOf]; omega⟩
     ·have x32:((c.toNat:Int) == 32)=false:=beq_false_of_ne (by omega)
      have x9:((c.toNat:Int) == 9)=false:=beq_false_of_ne (by omega)
      have x13:((c.toNat:Int) == 13)=true:=by rw [h]; rfl
      go_wp2_with fail
      exact⟨⟨i+1,b,by omega,by omega,by go_num,rfl,hs2⟩,by simp only [intOf]; omega⟩
    ·have x32:((c.toNat:Int) == 32)=false:=beq_false_of_ne (by omega)
     have x9:((c.toNat:Int) == 9)=false:=beq_false_of_ne (by omega)
     have x13:((c.toNat:Int) == 13)=false:=beq_false_of_ne (by omega)
     have e2:blankB c=false:=by unfold blankB; simp; omega
     by_cases k35:c.toNat=35
     ·have x35:((c.toNat:Int) == 35)=true:=by rw [k35]; rfl
      have e:remB b c=true:=by unfold remB; rw [if_pos k35]
      have hs2:Hid (d=(i+1)+ov (rest s (i+1)) true):=by
       show _=_
       rw [HR.out,hq.out,ov_go (by rw [e]; simp),e]; omega
      clear e e2
      go_wp2_with fail
      exact⟨⟨i+1,true,by omega,by omega,by go_num,rfl,hs2⟩,by simp only [intOf]; omega⟩
     ·have x35:((c.toNat:Int) == 35)=false:=beq_false_of_ne (by omega)
      have e:remB b c=b:=by unfold remB; rw [if_neg k35,if_neg k10]
      cases b
      ·have hs2:Hid (i=d):=by show _=_; rw [HR.out,hq.out,ov_stop e e2]; omega
       clear e e2
       go_wp2_with fail
       go_ret
       exact⟨retI (by rw [hs2.out]),rfl⟩
      ·have hs2:Hid (d=(i+1)+ov (rest s (i+1)) true):=by
        show _=_
        rw [HR.out,hq.out,ov_go (by rw [e]; simp),e]; omega
       clear e e2
       go_wp2_with fail
       exact⟨⟨i+1,true,by omega,by omega,by go_num,rfl,hs2⟩,by simp only [intOf]; omega⟩
  ·have hn:¬ (i:Int) < (s.size:Int):=by omega
   have hs2:Hid (i=d):=by show _=_; rw [HR.out,rest_end s i (by omega)]; rfl
   go_wp2_with fail
   go_ret
   exact⟨retI (by rw [hs2.out]),rfl⟩
def fsT (s:ByteArray) (f:Nat):Tk:=if oneE s f=0 then oneT s f else tkP (oneP s f)
def fsV (s:ByteArray) (f:Nat):Value:=.tuple #[.agg (tkA (fsT s f)),zI (oneE s f)]
theorem first_any (s:ByteArray) (f:Nat) (hs:s.size≤140737488355328) (hf:f≤s.size) (w:World) (ht:Tab w) :
  Calls zG 124 #[.string s,zI f] w fun e w'=>e=.returned (fsV s f)∧Below w§ w w':=by
 obtain⟨d,hd⟩:∃ d,oneP s f=d:=⟨_,rfl⟩
 have hdl:d≤s.size:=by rw [← hd]; exact oneP_le s f hf
 have cS:=start_any s f hs hf d hd.symm
 obtain⟨W,eW,HR,HB,hz⟩:=box_one w
 obtain⟨r0,r1,r2,r3,r4⟩:=HR.out.cells
 obtain⟨f0,f1,f2,f3,f4⟩:=HR.out.froz
 by_cases h0:d=s.size
 ·have K:Hid (fsV s f=.tuple #[.agg (tkA (tkP d)),zI 0]):=by
   show _=_
   have e0:oneE s f=0:=by unfold oneE; rw [hd,if_pos h0]
   unfold fsV fsT
   rw [e0,if_pos rfl]
   unfold oneT
   rw [hd,if_pos h0]; rfl
  have h0':((d:Int) == (s.size:Int))=true:=by rw [h0]; simp
  clear hd h0
  go_enter Tryz.func124,Tryz.ntmps124
  go_wp2_with (go_at_call 142; refine (cS _).mono ?_; rintro _ v ⟨rfl,q⟩; obtain rfl:=q.symm)
  exact bodyPost_ret (Rt2 (p:=4) (u:=5) (ty:=82) rfl _ _ w§ 82 (tkA (tkP d)) (0,0) _ rfl (HR.out.put (tkP d)) Tryz.underlying82 rfl zK) rfl ⟨by rw [K.out]; rfl,below_put HB.out (Nat.le_refl _) _ _ _ _ _⟩
 ·have h0':((d:Int) == (s.size:Int))=false:=beq_false_of_ne (by omega)
  have hlt:d < s.size:=by omega
  have hlt':(d:Int) < (s.size:Int):=by omega
  obtain⟨c,hc⟩:∃ c,s[d]=c:=⟨_,rfl⟩
  have hl:=hd_at hlt hc letB
  have hg:=hd_at hlt hc digB
  have hTW:=ht.on HB.out
  cases b1:letB c
  ·cases b2:digB c
   ·have K:Hid (fsV s f=.tuple #[.agg (tkA (pmT s d)),zI (mkE s d)]):=by
     show _=_
     have e0:oneE s f=mkE s d:=by unfold oneE; rw [hd,if_neg h0,hl,b1,if_neg (by decide),hg,b2,if_neg (by decide)]
     have e1:oneT s f=mkT s d:=by unfold oneT; rw [hd,if_neg h0,hl,b1,if_neg (by decide),hg,b2,if_neg (by decide)]
     unfold fsV fsT pmT
     rw [e0,e1,hd]
    have cM:=markp_any s d hs hlt W
    obtain⟨T,eT⟩:∃ T,pmT s d=T:=⟨_,rfl⟩
    obtain⟨E,eE⟩:∃ E,mkE s d=E:=⟨_,rfl⟩
    rw [eT,eE] at cM K
    unfold tkA at cM
    clear hd h0 hl hg eT eE r0 r1 r2 r3 r4 f0 f1 f2 f3 f4
    go_enter Tryz.func124,Tryz.ntmps124
    go_wp2_with (first | (go_at_call 142; refine (cS _).mono ?_; rintro _ v ⟨rfl,q⟩; obtain rfl:=q.symm) | (go_at_call 143; refine (isLetter_b b1 _).mono ?_; rintro _ v ⟨rfl,q⟩; obtain rfl:=q.symm) | (go_at_call 145; refine (isDigit_b b2 _).mono ?_; rintro _ v ⟨rfl,q⟩; obtain rfl:=q.symm))
    refine cM.mono ?_
    rintro _ v ⟨rfl,bb⟩
    have HR2:=(HR.out.onto bb).hid
    have HB2:=hd (HB.out.trans (bb.mono HB.out.size))
    obtain⟨r0,r1,r2,r3,r4⟩:=HR2.out.cells
    obtain⟨f0,f1,f2,f3,f4⟩:=HR2.out.froz
    clear bb
    go_wp2_with fail
    exact bodyPost_ret (Rt2 (p:=4) (u:=5) (ty:=82) rfl _ _ w§ 82 (tkA T) (0,0) _ rfl (HR2.out.put T) Tryz.underlying82 rfl zK) rfl ⟨by rw [K.out]; rfl,below_put HB2.out (Nat.le_refl _) _ _ _ _ _⟩
   ·have K:Hid (fsV s f=.tuple #[.agg (tkA (pbT s d)),zI (nbE s d)]):=by
     show _=_
     have e0:oneE s f=nbE s d:=by unfold oneE; rw [hd,if_neg h0,hl,b1,if_neg (by decide),hg,b2,if_pos rfl]
     have e1:oneT s f=nbT s d:=by unfold oneT; rw [hd,if_neg h0,hl,b1,if_neg (by decide),hg,b2,if_pos rfl]
     unfold fsV fsT pbT
     rw [e0,e1,hd]
    have cM:=numberp_any s d hs hlt (by rw [hg,b2]) W
    obtain⟨T,eT⟩:∃ T,pbT s d=T:=⟨_,rfl⟩
    obtain⟨E,eE⟩:∃ E,nbE s d=E:=⟨_,rfl⟩
    rw [eT,eE] at cM K
    unfold tkA at cM
    clear hd h0 hl hg eT eE r0 r1 r2 r3 r4 f0 f1 f2 f3 f4
    go_enter Tryz.func124,Tryz.ntmps124
    go_wp2_with (first | (go_at_call 142; refine (cS _).mono ?_; rintro _ v ⟨rfl,q⟩; obtain rfl:=q.symm) | (go_at_call 143; refine (isLetter_b b1 _).mono ?_; rintro _ v ⟨rfl,q⟩; obtain rfl:=q.symm) | (go_at_call 145; refine (isDigit_b b2 _).mono ?_; rintro _ v ⟨rfl,q⟩; obtain rfl:=q.symm))
    refine cM.mono ?_
    rintro _ v ⟨rfl,bb⟩
    have HR2:=(HR.out.onto bb).hid
    have HB2:=hd (HB.out.trans (bb.mono HB.out.size))
    obtain⟨r0,r1,r2,r3,r4⟩:=HR2.out.cells
    obtain⟨f0,f1,f2,f3,f4⟩:=HR2.out.froz
    clear bb
    go_wp2_with fail
    exact bodyPost_ret (Rt2 (p:=4) (u:=5) (ty:=82) rfl _ _ w§ 82 (tkA T) (0,0) _ rfl (HR2.out.put T) Tryz.underlying82 rfl zK) rfl ⟨by rw [K.out]; rfl,below_put HB2.out (Nat.le_refl _) _ _ _ _ _⟩
  ·have K:Hid (fsV s f=.tuple #[.agg (tkA (pnT s d)),zI (nmE s d)]):=by
    show _=_
    have e0:oneE s f=nmE s d:=by unfold oneE; rw [hd,if_neg h0,hl,b1,if_pos rfl]
    have e1:oneT s f=nmT s d:=by unfold oneT; rw [hd,if_neg h0,hl,b1,if_pos rfl]
    unfold fsV fsT pnT
    rw [e0,e1,hd]
   have cM:=wordp_any s d hs hdl W hTW
   obtain⟨T,eT⟩:∃ T,pnT s d=T:=⟨_,rfl⟩
   obtain⟨E,eE⟩:∃ E,nmE s d=E:=⟨_,rfl⟩
   rw [eT,eE] at cM K
   unfold tkA at cM
   clear hd h0 hl hg eT eE r0 r1 r2 r3 r4 f0 f1 f2 f3 f4
   go_enter Tryz.func124,Tryz.ntmps124
   go_wp2_with (first | (go_at_call 142; refine (cS _).mono ?_; rintro _ v ⟨rfl,q⟩; obtain rfl:=q.symm) | (go_at_call 143; refine (isLetter_b b1 _).mono ?_; rintro _ v ⟨rfl,q⟩; obtain rfl:=q.symm))
   refine cM.mono ?_
   rintro _ v ⟨rfl,bb⟩
   have HR2:=(HR.out.onto bb).hid
   have HB2:=hd (HB.out.trans (bb.mono HB.out.size))
   obtain⟨r0,r1,r2,r3,r4⟩:=HR2.out.cells
   obtain⟨f0,f1,f2,f3,f4⟩:=HR2.out.froz
   clear bb
   go_wp2_with fail
   exact bodyPost_ret (Rt2 (p:=4) (u:=5) (ty:=82) rfl _ _ w§ 82 (tkA T) (0,0) _ rfl (HR2.out.put T) Tryz.underlying82 rfl zK) rfl ⟨by rw [K.out]; rfl,below_put HB2.out (Nat.le_refl _) _ _ _ _ _⟩
def nxE (s:ByteArray) (a:Int):Int:=if s.size > 4096 then 110 else if a < 0∨a > s.size then 1 else oneE s a.toNat
def nxT (s:ByteArray) (a:Int):Tk:=if nxE s a=0 then oneT s a.toNat else tk0
def nxQ (s:ByteArray) (a:Int):Int:=if nxE s a=0 then (nxT s a).p+(nxT s a).x.size else 0
def nxV (s:ByteArray) (a:Int):Value:=.tuple #[.agg (tkA (nxT s a)),zI (nxQ s a),zI (nxE s a)]
theorem nx_bad {s:ByteArray}{a e:Int}(h:nxE s a=e) (he:e≠0):nxV s a=.tuple #[.agg (tkA tk0),zI 0,zI e]:=by
 unfold nxV nxQ nxT
 rw [h,if_neg he,if_neg he]
theorem nx_ok {s:ByteArray}{a:Int}{T:Tk}(h:nxE s a=0) (hT:oneT s a.toNat=T):nxV s a=.tuple #[.agg (tkA T),zI (T.p+T.x.size),zI 0]:=by
 unfold nxV nxQ nxT
 rw [h,if_pos rfl,hT,if_pos rfl]
def GBx (X v:World):Prop:=Below X§ X v
theorem GBx.refl (X:World):GBx X X:=Below.refl _ X
theorem GBx.drew {X v:World}(h:GBx X v):GBx X v.drew:=Below.drew h
theorem GBx.alloc {X v:World}(h:GBx X v) (o:Obj):GBx X (v.alloc o):=Below.alloc h h.size o
theorem GBx.call {X u v:World}(k:Below u§ u v) (h:GBx X u):GBx X v:=Below.trans h (k.mono h.size)
structure GT (w:World) (b:Nat) (V v:World):Prop where
 below:Below w§ w v
 size:V§≤v§
 tok:v.heap[b]? = V.heap[b]?
theorem GT.refl {w V:World}(b:Nat) (h:Below w§ w V):GT w b V V:=⟨h,Nat.le_refl _,rfl⟩
theorem GT.drew {w V v:World}{b:Nat}(h:GT w b V v):GT w b V v.drew:=⟨h.below.drew,h.size,h.tok⟩
theorem GT.call {w V u v:World}{b:Nat}{T:Tk}(hT:TkH V b T) (k:Below u§ u v) (h:GT w b V u):GT w b V v :=
 ⟨h.below.trans (k.mono h.below.size),Nat.le_trans h.size k.size,(k.block b (Nat.lt_of_lt_of_le hT.lt h.size)).trans h.tok⟩
theorem GT.set {w V v:World}{b j:Nat}{x:Value}(hb:b≠w§) (h:GT w b V v):GT w b V (v.setCell ⟨w§,j,none⟩ x) :=
 ⟨h.below.setCell (p:=⟨w§,j,none⟩) (Nat.le_refl _) x,by simpa using h.size,(Below.heap_setCell _ _ _ _ (by simpa using hb)).trans h.tok⟩
theorem TkH.keep {w V v:World}{b:Nat}{t:Tk}(h:TkH V b t) (k:GT w b V v):v.cell? ⟨b,0,none⟩=some (zU t.k)∧v.cell? ⟨b,1,none⟩=some (.string t.x)∧v.cell? ⟨b,2,none⟩=some (zU t.ty)∧v.cell? ⟨b,3,none⟩=some (zI t.n)∧v.cell? ⟨b,4,none⟩=some (zI t.p)∧GT w b V v:=by
 have h2:TkH v b t:=k.tok.trans h
 obtain⟨a0,a1,a2,a3,a4⟩:=h2.cells
 exact⟨a0,a1,a2,a3,a4,k⟩
theorem behind_any (T:Tk) (w:World) (h1:-9223372036854775808≤T.p+(T.x.size:Int)) (h2:T.p+(T.x.size:Int)≤9223372036854775807) :
  Calls zG 125 #[.agg (tkA T)] w fun e w'=>e=.returned (zI (T.p+(T.x.size:Int)))∧Below w§ w w':=by
 unfold tkA
 go_enter Tryz.func125,Tryz.ntmps125
 go_wp2_with fail
 go_ret
 exact⟨rfl,Bn w _⟩
theorem nextp_long (s:ByteArray) (a:Int) (h:s.size > 4096) (w:World) :
  Calls zG 128 #[.string s,zI a] w fun e w'=>e=.returned (nxV s a)∧Below w§ w w':=by
 have hE:nxE s a=110:=by unfold nxE; rw [if_pos h]
 have K:=hd (nx_bad hE (by decide))
 have h':(s.size:Int) > 4096:=by omega
 clear hE
 go_enter Tryz.func128,Tryz.ntmps128
 go_wp2
 exact bodyPost_ret (results_three (p:=4) (u:=5) (v:=6) (ty:=82) rfl _ _ w§ 82 (tkA tk0) (0,0) _ rfl (Hn w _) Tryz.underlying82 rfl zK) rfl ⟨by rw [K.out]; rfl,Bn w _⟩
theorem nextp_out (s:ByteArray) (a:Int) (h:¬ s.size > 4096) (ha:a < 0∨a > s.size) (w:World) :
  Calls zG 128 #[.string s,zI a] w fun e w'=>e=.returned (nxV s a)∧Below w§ w w':=by
 have hE:nxE s a=1:=by unfold nxE; rw [if_neg h,if_pos ha]
 have K:=hd (nx_bad hE (by decide))
 have h':¬ (s.size:Int) > 4096:=by omega
 clear hE
 go_enter Tryz.func128,Tryz.ntmps128
 by_cases h0:a < 0
 ·go_wp2
  exact bodyPost_ret (results_three (p:=4) (u:=5) (v:=6) (ty:=82) rfl _ _ w§ 82 (tkA tk0) (0,0) _ rfl (Hn w _) Tryz.underlying82 rfl zK) rfl ⟨by rw [K.out]; rfl,Bn w _⟩
 ·have h1:a > (s.size:Int):=by omega
  go_wp2
  exact bodyPost_ret (results_three (p:=4) (u:=5) (v:=6) (ty:=82) rfl _ _ w§ 82 (tkA tk0) (0,0) _ rfl (Hn w _) Tryz.underlying82 rfl zK) rfl ⟨by rw [K.out]; rfl,Bn w _⟩
theorem nextp_in (s:ByteArray) (f:Nat) (h:¬ s.size > 4096) (hf:f≤s.size) (w:World) (ht:Tab w) :
  Calls zG 128 #[.string s,zI f] w fun e w'=>e=.returned (nxV s f)∧Below w§ w w':=by
 have hE:nxE s f=oneE s f:=by unfold nxE; rw [if_neg h,if_neg (by omega)]; rfl
 have h':¬ (s.size:Int) > 4096:=by omega
 have h0:¬ (f:Int) < 0:=by omega
 have h1:¬ (f:Int) > (s.size:Int):=by omega
 have hfin:=one_fine s f hf
 obtain⟨W,eW,HR,HB,hz⟩:=box_one w
 have cF:=first_any s f (by omega) hf W (ht.on HB.out)
 unfold fsV fsT at cF
 obtain⟨E,eE⟩:∃ E,oneE s f=E:=⟨_,rfl⟩
 rw [eE] at cF hfin hE
 have hP:=oneP_le s f hf
 have KX:Hid (nxE s f=E):=hE
 by_cases hE0:E=0
 ·obtain⟨T,eT⟩:∃ T,oneT s f=T:=⟨_,rfl⟩
  obtain⟨q0,q1,q2,_⟩:=hfin hE0
  rw [if_pos hE0,eT] at cF
  rw [eT] at q0 q2
  have K:=hd (nx_ok (by rw [KX.out,hE0]) eT)
  subst hE0
  have cB:=behind_any T
  obtain⟨Q,eQ⟩:∃ Q:Int,T.p+(T.x.size:Int)=Q:=⟨_,rfl⟩
  rw [eQ] at K cB
  have cB2:=fun w=>cB w (by omega) (by omega)
  unfold tkA at cF cB2
  clear hfin hE KX eT q0 q1 q2 cB eE
  go_enter Tryz.func128,Tryz.ntmps128
  go_wp2_with fail
  refine cF.mono ?_
  rintro _ v ⟨rfl,bb⟩
  have HR2:=(HR.out.onto bb).hid
  have HB2:=hd (HB.out.trans (bb.mono HB.out.size))
  have hlt:w§ < v§:=HR2.out.lt
  obtain⟨V,eV⟩:∃ V,v.alloc (.cells (tkA T) 82)=V:=⟨_,rfl⟩
  have HR3:Hid (TkH V w§ tk0):=by rw [← eV]; exact heap_old HR2.out hlt
  have HB4:Hid (Below w§ w V):=by rw [← eV]; exact HB2.out.alloc (Nat.le_of_lt hlt) _
  have HT3:Hid (TkH V v§ T):=by rw [← eV]; exact Hn _ _
  unfold tkA at eV
  clear bb
  have hbn:v§≠w§:=by omega
  obtain⟨b,eb⟩:∃ b,v§=b:=⟨_,rfl⟩
  rw [eb] at HT3 hbn
  go_wp2_with fail
  clear eV
  go_region_held3 (fun v'=>v'.cell? ⟨b,0,none⟩=some (zU T.k)∧v'.cell? ⟨b,1,none⟩=some (.string T.x)∧v'.cell? ⟨b,2,none⟩=some (zU T.ty)∧v'.cell? ⟨b,3,none⟩=some (zI T.n)∧v'.cell? ⟨b,4,none⟩=some (zI T.p)∧GT w b V v')
   (exact HT3.out.keep (by (repeat (first | with_reducible assumption | with_reducible exact GT.refl _ HB4.out | with_reducible apply GT.drew | with_reducible refine GT.set hbn ?_ | with_reducible refine GT.call HT3.out (by with_reducible assumption) ?_))))
   (first
    | (go_at_call 125; refine (cB2 _).mono ?_; rintro e w1 ⟨rfl,hb1⟩; have g1:GBx V w1:=GBx.call hb1 (by repeat (first | with_reducible exact GBx.refl _ | with_reducible apply GBx.drew)); have RH:=(HR3.out.onto g1).hid; obtain⟨r0,r1,r2,r3,r4⟩:=RH.out.cells; obtain⟨f0,f1,f2,f3,f4⟩:=RH.out.froz))
  have HBF:=hd (HB4.out.trans (g1.mono HB4.out.size))
  go_wp2
  exact bodyPost_ret (results_three (p:=4) (u:=5) (v:=6) (ty:=82) rfl _ _ w§ 82 (tkA T) (0,0) _ rfl (RH.out.put T) Tryz.underlying82 rfl zK) rfl ⟨by rw [K.out]; rfl,below_put HBF.out (Nat.le_refl _) _ _ _ _ _⟩
 ·have hE':(E != 0)=true:=by simp [hE0]
  have K:=hd (nx_bad KX.out hE0)
  rw [if_neg hE0] at cF
  unfold tkA at cF
  clear hfin hE KX eE hE0
  go_enter Tryz.func128,Tryz.ntmps128
  go_wp2_with fail
  refine cF.mono ?_
  rintro _ v ⟨rfl,bb⟩
  have HR2:=(HR.out.onto bb).hid
  have HB2:=hd (HB.out.trans (bb.mono HB.out.size))
  have hlt:w§ < v§:=HR2.out.lt
  obtain⟨V,eV⟩:∃ V,v.alloc (.cells (tkA (tkP (oneP s f))) 82)=V:=⟨_,rfl⟩
  have HR3:Hid (TkH V w§ tk0):=by rw [← eV]; exact heap_old HR2.out hlt
  have HB4:Hid (Below w§ w V):=by rw [← eV]; exact HB2.out.alloc (Nat.le_of_lt hlt) _
  unfold tkA at eV
  clear bb
  obtain⟨r0,r1,r2,r3,r4⟩:=HR3.out.cells
  obtain⟨f0,f1,f2,f3,f4⟩:=HR3.out.froz
  go_wp2
  exact bodyPost_ret (results_three (p:=4) (u:=5) (v:=6) (ty:=82) rfl _ _ w§ 82 (tkA tk0) (0,0) _ rfl (HR3.out.put tk0) Tryz.underlying82 rfl zK) rfl ⟨by rw [K.out]; rfl,below_put HB4.out (Nat.le_refl _) _ _ _ _ _⟩
theorem nextp_any (s:ByteArray) (a:Int) (w:World) (ht:Tab w) :
  Calls zG 128 #[.string s,zI a] w fun e w'=>e=.returned (nxV s a)∧Below w§ w w':=by
 by_cases h:s.size > 4096
 ·exact nextp_long s a h w
 ·by_cases ha:a < 0∨a > s.size
  ·exact nextp_out s a h ha w
  ·have e:a=((a.toNat:Nat):Int):=by omega
   rw [e]
   exact nextp_in s a.toNat h (by omega) w ht
def Row (w:World) (e:TypeId) (s:Nat) (v:Value) (n:Nat) (f:Nat→Value):Prop:=w.ownsRow 0 e s v n ((List.range (n * s)).map f)
theorem range_map_set (m j:Nat) (f:Nat→Value) (u:Value):((List.range m).map f).set j u=(List.range m).map (fun i=>if i=j then u else f i):=by
 apply List.ext_getElem?
 intro i
 rw [List.getElem?_set,List.getElem?_map,List.getElem?_map,List.length_map,List.length_range]
 by_cases hi:i < m
 ·rw [List.getElem?_range hi]
  by_cases hj:j=i
  ·subst hj; simp [hi]
  ·rw [if_neg hj]
   show some (f i)=some (if i=j then u else f i)
   rw [if_neg (fun h=>hj h.symm)]
 ·rw [List.getElem?_eq_none (by simpa using hi)]
  by_cases hj:j=i
  ·subst hj; simp [hi]
  ·simp [hj]
variable {w : World} {e : TypeId} {s n cap : Nat} {g : Nat} {f f' : Nat → Value} {v : Value}
theorem Row.cell (h:Row w e s (.slice (some ⟨g,0,none⟩) n cap) n f) {j:Nat}(hj:j < n * s):w.cell? ⟨g,j,none⟩=some (f j):=by
 rw [World.ownsRow.cellAt h j hj,List.getElem?_map,List.getElem?_range hj]; rfl
theorem Row.frozen (h:Row w e s (.slice (some ⟨g,0,none⟩) n cap) n f) (j:Nat):w.frozen? ⟨g,j,none⟩=false:=World.ownsRow.frozenAt h j
theorem Row.set (h:Row w e s (.slice (some ⟨g,0,none⟩) n cap) n f) (j:Nat) (u:Value):Row (w.setCell ⟨g,j,none⟩ u) e s (.slice (some ⟨g,0,none⟩) n cap) n (fun i=>if i=j then u else f i):=by
 have:=(World.ownsRow.stored h j u).1
 rwa [range_map_set] at this
theorem Row.congr (h:Row w e s v n f) (he:∀ j,j < n * s→f j=f' j):Row w e s v n f':=by
 unfold Row at h ⊢
 have:(List.range (n * s)).map f=(List.range (n * s)).map f':=List.map_congr_left (fun j hj=>he j (by simpa using hj))
 rwa [this] at h
theorem Row.kept {w':World}{row:Option Nat}(h:Row w e s v n f) (hg:w.grownBy w' row) (hne:v.ownBlock=none∨v.ownBlock≠row):Row w' e s v n f:=World.ownsRow.kept h hg hne
theorem Row.lt (h:Row w e s v n f):∀ k,v.ownBlock=some k→k < w§:=fun k hk=>(World.ownsRow.lt h k hk).2
theorem Row.nil (w:World) (e:TypeId) (s:Nat) (f:Nat→Value):Row w e s (.slice none 0 0) 0 f:=by
 have:=World.ownsRow_nil w 0 e s
 simpa [Row] using this
theorem Row.kind (h:Row w e s v n f):∀ k,v.ownBlock=some k→∃ c fz,w.heap[k]? = some (.cells c e fz):=by
 intro k hk
 rcases h.2 with ⟨rfl,_⟩ | ⟨g',cap',cur,rfl,_,hg,_⟩
 ·simp [Value.ownBlock] at hk
 ·simp [Value.ownBlock] at hk
  subst hk
  exact⟨_,_,hg⟩
theorem Row.of_block {w':World}(h:Row w e s v n f) (hb:∀ k,v.ownBlock=some k→w'.heap[k]? = w.heap[k]?):Row w' e s v n f:=by
 refine⟨h.1,?_⟩
 rcases h.2 with h' | ⟨g',cap',cur,rfl,h1,hg,h2⟩
 ·exact .inl h'
 ·exact .inr ⟨g',cap',cur,rfl,h1,(hb g' rfl).trans hg,h2⟩
theorem Row.alloc (h:Row w e s v n f) (o:Obj):Row (w.alloc o) e s v n f:=World.ownsRow.alloc h o
theorem Row.form (h:Row w e s v n f):∃ ao c,v=.slice ao n c∧(0 < n→∃ g,ao=some ⟨g,0,none⟩)∧((ao=none∧n=0∧c=0)∨∃ g,ao=some ⟨g,0,none⟩):=by
 rcases h.2 with ⟨rfl,rfl⟩ | ⟨g',cap',cur,rfl,_⟩
 ·exact⟨none,0,rfl,fun h=>by omega,.inl ⟨rfl,rfl,rfl⟩⟩
 ·exact⟨_,_,rfl,fun _=>⟨g',rfl⟩,.inr ⟨g',rfl⟩⟩
theorem Row.snoc {v':Value}{news:List Value}{x:Nat→Value}(h:w.ownsRow 0 e s v' (n+1) ((List.range (n * s)).map f ++ news)) (hl:news.length=s) (hx:∀ j,j < s→news[j]? = some (x j)) :
  Row w e s v' (n+1) (fun j=>if j < n * s then f j else x (j - n * s)):=by
 unfold Row
 have:(List.range ((n+1) * s)).map (fun j=>if j < n * s then f j else x (j - n * s))=(List.range (n * s)).map f ++ news:=by
  apply List.ext_getElem?
  intro j
  have hm:(n+1) * s=n * s+s:=by rw [Nat.add_mul,Nat.one_mul]
  by_cases h1:j < n * s
  ·rw [List.getElem?_append_left (by simpa using h1),List.getElem?_map,List.getElem?_map,List.getElem?_range (by omega),List.getElem?_range h1]
   simp [h1]
  ·rw [List.getElem?_append_right (by simpa using Nat.le_of_not_lt h1),List.length_map,List.length_range]
   by_cases h2:j < (n+1) * s
   ·rw [List.getElem?_map,List.getElem?_range h2,hx _ (by omega)]
    simp [h1]
   ·rw [List.getElem?_eq_none (by simpa using Nat.le_of_not_lt h2),List.getElem?_eq_none (by omega)]
 rw [this]; exact h
theorem Row.pop (h:Row w e s (.slice (some ⟨g,0,none⟩) (n+1) cap) (n+1) f):Row w e s (.slice (some ⟨g,0,none⟩) n cap) n f:=by
 unfold Row at h ⊢
 refine ownsRow_pop (last:=(List.range s).map (fun i=>f (n * s+i))) (by simp) ?_
 have:(List.range ((n+1) * s)).map f=(List.range (n * s)).map f ++ (List.range s).map (fun i=>f (n * s+i)):=by
  rw [Nat.add_mul,Nat.one_mul,List.range_add,List.map_append,List.map_map]; rfl
 rwa [this] at h
theorem Tryz.info82:(Tryz.prog.info? 82).map (fun i=>(i.zero,i.size,i.bytes))=some (some (.agg zA10),5,48):=by kernel_rfl
def tkF (A:Nat→Tk) (j:Nat):Value:=if j % 5=0 then zU (A (j / 5)).k else if j % 5=1 then .string (A (j / 5)).x else if j % 5=2 then zU (A (j / 5)).ty else if j % 5=3 then zI (A (j / 5)).n else zI (A (j / 5)).p
def lsF (L:List Tk):Nat→Tk:=fun i=>L.getD i tk0
theorem lsF_lt {L:List Tk}{y:Tk}{i:Nat}(h:i < L.length):lsF (L ++ [y]) i=lsF L i:=by
 unfold lsF
 simp [List.getD,List.getElem?_append_left h]
theorem lsF_at (L:List Tk) (y:Tk):lsF (L ++ [y]) L.length=y:=by
 unfold lsF
 simp [List.getD]
def RowL (w:World) (v:Value) (L:List Tk):Prop:=Row w 82 5 v L.length (tkF (lsF L))
structure RL (W w:World) (v:Value) (L:List Tk):Prop where
 row:RowL w v L
 nb:∀ k,v.ownBlock=some k→W§≤k
 B:Below W§ W w
theorem RL.nil (W:World):RL W W (.slice none 0 0) []:=⟨Row.nil _ _ _ _,fun k h=>by simp [Value.ownBlock] at h,Below.refl _ _⟩
theorem RL.call {W w w':World}{v:Value}{L:List Tk}(h:RL W w v L) (k:Below w§ w w'):RL W w' v L :=
 ⟨h.row.of_block (fun b hb=>k.block b (h.row.lt b hb)),h.nb,h.B.trans (k.mono h.B.size)⟩
theorem RL.alloc {W w:World}{v:Value}{L:List Tk}(h:RL W w v L) (o:Obj):RL W (w.alloc o) v L:=h.call (Bn w o)
theorem RL.drew {W w:World}{v:Value}{L:List Tk}(h:RL W w v L):RL W w.drew v L:=⟨h.row.of_block (fun _ _=>rfl),h.nb,h.B.drew⟩
theorem RL.drewN {W w:World}{v:Value}{L:List Tk}(h:RL W w v L) (n:Nat):RL W (w.drewN n) v L:=⟨h.row.of_block (fun _ _=>rfl),h.nb,below_drew h.B n⟩
theorem RL.hid {W w:World}{v:Value}{L:List Tk}(h:RL W w v L):Hid (RL W w v L):=h
theorem tk_cells (y:Tk):∀ j,j < 5→(tkA y).toList[j]? = some (tkF (fun _=>y) j):=by
 intro j hj
 match j,hj with
 | 0,_=>rfl
 | 1,_=>rfl
 | 2,_=>rfl
 | 3,_=>rfl
 | 4,_=>rfl
theorem app_core {W w0 w':World}{v:Value}{L:List Tk}{y:Tk}{g cap:Nat}(hR:RL W w0 v L)
  (h2:w'.ownsRow 0 82 5 (.slice (some ⟨g,0,none⟩) (L.length+1) cap) (L.length+1) ((List.range (L.length * 5)).map (tkF (lsF L)) ++ (tkA y).toList))
  (h3:(w0.alloc (.cells (tkA y) 82)).grownBy w' v.ownBlock) (h4:v.ownBlock=some g∨g=(w0.alloc (.cells (tkA y) 82))§) :
  RL W w' (.slice (some ⟨g,0,none⟩) (L.length+1) cap) (L ++ [y])∧w0§≤w'§∧∀ b,b < w0§→v.ownBlock≠some b→w'.heap[b]? = w0.heap[b]?:=by
 have hsz:=Sa w0 (.cells (tkA y) 82)
 have hB0:=hR.B.alloc hR.B.size (.cells (tkA y) 82)
 refine⟨⟨?_,?_,hB0.grown h3 hB0.size (fun k hk=>hR.nb k hk)⟩,?_,?_⟩
 ·have hr:=Row.snoc (x:=tkF (fun _=>y)) h2 rfl (fun j hj=>tk_cells y j hj)
  unfold RowL
  rw [List.length_append,List.length_singleton]
  refine hr.congr fun j hj=>?_
  by_cases h:j < L.length * 5
  ·simp only [h,if_true]
   unfold tkF
   rw [lsF_lt (by omega)]
  ·have e:j / 5=L.length:=by omega
   simp only [h,if_false]
   unfold tkF
   rw [e,lsF_at,show (j - L.length * 5) % 5=j % 5 by omega]
 ·intro k hk
  simp [Value.ownBlock] at hk
  subst hk
  rcases h4 with h4 | h4
  ·exact hR.nb _ h4
  ·have:=hR.B.size; omega
 ·have:=h3.size; omega
 ·intro b hb hne
  rw [h3.block b (by omega) (fun e=>hne e.symm)]
  exact Below.heap_alloc _ _ _ hb
theorem news_core (w0:World) (y:Tk):∀ j u,(tkA y).toList[j]? = some u→(w0.alloc (.cells (tkA y) 82)).cell? ((⟨w0§,0,none⟩:Addr).add j)=some u:=World.news_of_block (Hn w0 _)
theorem one_core (y:Tk):∀ u ∈ (tkA y).toList,u.oneCell'=true:=by
 intro u hu
 simp [tkA] at hu
 rcases hu with rfl | rfl | rfl | rfl | rfl <;> rfl
theorem append_token {W w0:World}{ops:Array Oper}{rest:List Oper}{o:Oper}{a:Act}{Q:Exit→Act→World→Prop}(hgd:o.guard=none) (d x:Operand)
  (ho:o.op=.call { callee:=.builtin .append,args:=#[d,x],argTypes:=#[94,94] }) (y:Tk) {v:Value}{L:List Tk}(hR:RL W w0 v L) (hs:a.eval d=v) (hx:a.eval x=.slice (some ⟨w0§,0,none⟩) 1 1) (hlen:L.length≤1000000000)
  (h:∀ v' w',RL W w' v' (L ++ [y])→w0§≤w'§→(∀ b,b < w0§→v.ownBlock≠some b→w'.heap[b]? = w0.heap[b]?)→wpList Tryz.prog ops Q rest (a.put o.dst v') w') :
  wpList Tryz.prog ops Q (o :: rest) a (w0.alloc (.cells (tkA y) 82)):=by
 obtain⟨i0,hi,hz0,hz1,hz2⟩:=info_parts Tryz.info82
 refine wpList_append_lies _ hgd d x 94 ho 0 82 i0 _ 5 48 Tryz.underlying94 hi hz0 hz1 hz2 rfl (by decide) v L.length _ hs (hR.row.alloc _) ⟨w0§,0,none⟩ 1 1 (tkA y).toList hx rfl (news_core w0 y) (one_core y) (by decide) (by unfold maxLen; omega) (by omega) (Nat.zero_le _) _ rfl ?_
 intro g cap w' h2 h3 h4 h5
 obtain⟨q1,q2,q3⟩:=app_core hR h2 h3 h4
 exact h _ w' q1 q2 q3
def oneQ (s:ByteArray) (f:Nat):Nat:=oneP s f+(oneT s f).x.size
def begO (s:ByteArray) (f:Nat):List Tk × Int × Int :=
 if oneE s f≠0 then ([],oneE s f,oneB s f)
 else if (oneT s f).k=0 then ([oneT s f],0,0)
 else if _h:f < oneQ s f∧oneQ s f≤s.size then (oneT s f :: (begO s (oneQ s f)).1,(begO s (oneQ s f)).2)
 else ([],0,0)
termination_by s.size - f
decreasing_by all_goals omega
theorem beg_bad {s:ByteArray}{f:Nat}(h:oneE s f≠0):begO s f=([],oneE s f,oneB s f):=by
 rw [begO,if_pos h]
theorem beg_end {s:ByteArray}{f:Nat}(h:oneE s f=0) (hk:(oneT s f).k=0):begO s f=([oneT s f],0,0):=by
 rw [begO,if_neg (by simp [h]),if_pos hk]
theorem beg_more {s:ByteArray}{f:Nat}(hf:f≤s.size) (h:oneE s f=0) (hk:¬ (oneT s f).k=0):f < oneQ s f∧oneQ s f≤s.size∧(oneT s f).p+((oneT s f).x.size:Int)=(oneQ s f:Nat)∧begO s f=(oneT s f :: (begO s (oneQ s f)).1,(begO s (oneQ s f)).2):=by
 obtain⟨q0,q1,q2,q3⟩:=one_fine s f hf h
 have q4:=q3 hk
 have e1:f < oneQ s f:=by unfold oneQ; omega
 have e2:oneQ s f≤s.size:=q2
 refine⟨e1,e2,by rw [q0]; unfold oneQ; omega,?_⟩
 rw [begO,if_neg (by simp [h]),if_neg hk,dif_pos ⟨e1,e2⟩]
theorem results_t3 {P:Program}{fn:Func}{p u v:Tmp}(h:fn.results=#[.tmp p,.tmp u,.tmp v]) (tmps:Array Value) (w:World):(results fn tmps).run P w=.ok (.tuple #[tmps.getD p undef,tmps.getD u undef,tmps.getD v undef]) w:=by
 simp [results,h]
def tksE (s:ByteArray):Int:=if s.size > 4096 then 110 else (begO s 0).2.1
def tksB (s:ByteArray):Int:=if tksE s=0 then 0 else if s.size > 4096 then 0 else (begO s 0).2.2
def tksL (s:ByteArray):List Tk:=if tksE s=0 then (begO s 0).1 else []
theorem RL.none {W w:World}(h:Below W§ W w):RL W w (.slice none 0 0) []:=⟨Row.nil _ _ _ _,fun k h=>by simp [Value.ownBlock] at h,h⟩
end Go.Proofs.YtkfabnchhjfjjaaGreatDoor
