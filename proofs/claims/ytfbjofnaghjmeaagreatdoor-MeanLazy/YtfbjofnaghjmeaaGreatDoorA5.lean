import Derived.Lib.Bytealg
import Derived.LaidLaws
import Derived.Test.YtfbjofnaghjmeaaGreatDoorA2
import Derived.WalkMore
namespace Go.Proofs.YtfbjofnaghjmeaaGreatDoor
open Go.Proofs.Tryz
set_option maxRecDepth 100000
set_option maxHeartbeats 2000000
open Go.RowKit
def Tab (w : yW) : Prop := w.var? zG "tripwire/lex.words" = some Ut
theorem XX : Tryz.prog.globalNamed "tripwire/lex.words" = some 2 := by kernel_rfl
theorem Tab.on {w w':yW}(h:Tab w) (hb:yD w w'):Tab w':=by
 unfold Tab World.var? at *
 rw [XX] at h ⊢
 simp only [Option.bind_some] at h ⊢
 have hlt:2 < w§:=by
  rcases Nat.lt_or_ge 2 w§ with h' | h'
  ·exact h'
  ·rw [Array.getElem?_eq_none h'] at h;simp at h
 rw [hb.block 2 hlt]
 exact h
theorem Tab.cell {w:yW}(h:Tab w) (i:Nat) (hi:i < 41):w.cell? 2¢i=some (.string (wd i)):=by
 have:=World.var?_cell XX h i
 rw [this]
 unfold Ut wd
 have hl:i < Kt.length:=hi
 simp [List.getElem?_map,List.getElem?_eq_getElem hl,List.getD]
theorem Tab.hid {w:yW}(h:Tab w):Hid (Tab w):=h
theorem Pf (c:UInt8) (w:yW):Calls zG 227 #[zU (c.toNat:Int)] w fun e w'=>e=.returned (.bool (letB c))∧w'=w:=by
 go_enter func227,ntmps227
 go_wp2
 all_goals go_ret
 all_goals refine⟨retB ?_,rfl⟩
 all_goals unfold letB
 ·have h:97≤c.toNat:=by omega
  by_cases h2:c.toNat≤122
  ·rw [decide_eq_true (show (c.toNat:Int)≤122 by omega),decide_eq_true ⟨h,h2⟩]
  ·rw [decide_eq_false (show ¬ (c.toNat:Int)≤122 by omega),decide_eq_false (fun k=>h2 k.2)]
 ·rw [decide_eq_false zY]
theorem Xl (c:UInt8) (w:yW):Calls zG 229 #[zU (c.toNat:Int)] w fun e w'=>e=.returned (.bool (digB c))∧w'=w:=by
 go_enter func229,ntmps229
 go_wp2
 all_goals go_ret
 all_goals refine⟨retB ?_,rfl⟩
 all_goals unfold digB
 ·have h:48≤c.toNat:=by omega
  by_cases h2:c.toNat≤57
  ·rw [decide_eq_true (show (c.toNat:Int)≤57 by omega),decide_eq_true ⟨h,h2⟩]
  ·rw [decide_eq_false (show ¬ (c.toNat:Int)≤57 by omega),decide_eq_false (fun k=>h2 k.2)]
 ·rw [decide_eq_false zY]
theorem Q5 {c:UInt8}{b:Bool}(h:letB c=b) (w:yW):Calls zG 227 #[zU (c.toNat:Int)] w fun e w'=>e=.returned (.bool b)∧w'=w:=h ▸ Pf c w
theorem JU {c:UInt8}{b:Bool}(h:digB c=b) (w:yW):Calls zG 229 #[zU (c.toNat:Int)] w fun e w'=>e=.returned (.bool b)∧w'=w:=h ▸ Xl c w
theorem Qb0 (s:yB) (c:Int) (w:yW):Calls zG 249 #[.string s,zU c] w fun e w'=>e=.returned (zI (Lib.indexByte s.data.toList c.toNat.toUInt8))∧w'=w:=by
 go_enter func249,ntmps249
 go_wp2
 rw [run_callFunc_extern func252 zK zK zK (e:=Extern.BytealgIndexByte.indexByte) zK,Lib.run_indexByteString]
 simp only [Result.andThen]
 rw [Oper.upon_value]
 go_wp2
 go_ret
 exact⟨rfl,rfl⟩
theorem VF (s:yB) (c:Int) (w:yW):Calls zG 246 #[.string s,zU c] w fun e w'=>e=.returned (zI (Lib.indexByte s.data.toList c.toNat.toUInt8))∧w'=w:=by
 go_enter func246,ntmps246
 go_wp2_with (go_at_call 249;refine (Qb0 _ _ _).mono ?_;rintro e w' ⟨rfl,rfl⟩)
 go_ret
 exact⟨rfl,rfl⟩
theorem QbS (s:yB) (w:yW) (ht:Tab w):Calls zG 239 #[.string s] w fun e w'=>e=.returned (.bool (isW s))∧w'=w:=by
 have HC:=zH ht.cell
 clear ht
 go_enter func239,ntmps239
 go_wp2_with fail
 go_loop [4] (fun t=>∃ i:Nat,i≤41∧t=zI i∧Hid (∀ j,j < i→¬ wd j=s)) (fun t=>41 - (intOf t).toNat)
 case atStart=>exact⟨0,by omega,rfl,fun j hj=>by omega⟩
 case round =>
  obtain⟨i,hi,rfl,HR⟩:=hrel
  by_cases hlt:i < 41
  ·have hlt':(i:Int) < 41:=by omega
   have hcell:=HC.out i hlt
   obtain⟨x,ex⟩:∃ x,wd i=x:=jV
   rw [ex] at hcell
   by_cases he:x=s
   ·have hw:=Qbs hlt (ex.trans he)
    subst he
    go_wp2
    go_ret
    exact⟨by first | rfl | exact retB hw.symm,rfl⟩
   ·have hne:=U0 he
    have hn:Hid (∀ j,j < i+1→¬ wd j=s):=fun j hj=>by
     by_cases e:j=i
     ·subst e;rw [ex];exact he
     ·exact HR.out j zY
    clear he ex
    go_wp2
    exact⟨⟨i+1,by omega,by go_num,hn⟩,by simp only [intOf];omega⟩
  ·obtain rfl:i=41:=by omega
   have hw:=QeA HR.out
   go_wp2
   go_ret
   exact⟨by first | rfl | exact retB hw.symm,rfl⟩
theorem Qbw {s:yB}{i:Nat}(h:i < s.size) {c:UInt8}(hc:s[i]=c) (p:UInt8→Bool):hdB p (rest s i)=p c:=by rw [QY s i h,hc];rfl
theorem Pi {s:yB}{i:Nat}(h:s.size≤i) (p:UInt8→Bool):hdB p (rest s i)=false:=by rw [Jt s i h];rfl
theorem QbT (s:yB) (i B:Nat) (w:yW) (hB:zQ w B¢0 (.string s)) (hi:i≤s.size) :
  Calls zG 238 #[zI i,zP B] w fun e w'=>e=.returned (.bool (hdB goB (rest s i)))∧w'=w:=by
 by_cases hlt:i < s.size
 ·have hlt':(i:Int) < (s.size:Int):=by omega
  obtain⟨c,hc⟩:∃ c,s[i]=c:=jV
  rw [Qbw hlt hc]
  cases b1:letB c
  ·cases b2:digB c
   ·have hg:Hid (goB c=((c.toNat:Int) == 95)):=by
     show _=_
     unfold goB
     rw [b1,b2]
     by_cases h:c.toNat=95
     ·rw [h];rfl
     ·have h':((c.toNat:Int) == 95)=false:=beq_false_of_ne zY
      rw [h'];simp [h]
    go_enter func238,ntmps238
    go_wp2_with (first | (go_at_call 227;refine (Q5 b1 _).mono ?_;rintro _ v ⟨rfl,e⟩;obtain rfl:=e.symm) | (go_at_call 229;refine (JU b2 _).mono ?_;rintro _ v ⟨rfl,e⟩;obtain rfl:=e.symm))
    all_goals go_ret
    all_goals exact⟨by rw [hg.out];rfl,rfl⟩
   ·have hg:goB c=true:=by unfold goB;rw [b1,b2];rfl
    rw [hg]
    go_enter func238,ntmps238
    go_wp2_with (first | (go_at_call 227;refine (Q5 b1 _).mono ?_;rintro _ v ⟨rfl,e⟩;obtain rfl:=e.symm) | (go_at_call 229;refine (JU b2 _).mono ?_;rintro _ v ⟨rfl,e⟩;obtain rfl:=e.symm))
    all_goals go_ret
    all_goals exact⟨rfl,rfl⟩
  ·have hg:goB c=true:=by unfold goB;rw [b1];rfl
   rw [hg]
   go_enter func238,ntmps238
   go_wp2_with (go_at_call 227;refine (Q5 b1 _).mono ?_;rintro _ v ⟨rfl,e⟩;obtain rfl:=e.symm)
   all_goals go_ret
   all_goals exact⟨rfl,rfl⟩
 ·rw [Pi zY]
  have hn:¬ (i:Int) < (s.size:Int):=by omega
  go_enter func238,ntmps238
  go_wp2
  go_ret
  exact⟨rfl,rfl⟩
theorem Qec (s:yB) (i B:Nat) (w:yW) (hB:zQ w B¢0 (.string s)) (hi:i≤s.size) :
  Calls zG 240 #[zI i,zP B] w fun e w'=>e=.returned (.bool (hdB digB (rest s i)))∧w'=w:=by
 by_cases hlt:i < s.size
 ·have hlt':(i:Int) < (s.size:Int):=by omega
  obtain⟨c,hc⟩:∃ c,s[i]=c:=jV
  rw [Qbw hlt hc]
  go_enter func240,ntmps240
  go_wp2_with (go_at_call 229;refine (Xl _ _).mono ?_;rintro _ v ⟨rfl,e⟩;obtain rfl:=e.symm)
  all_goals go_ret
  all_goals exact⟨rfl,rfl⟩
 ·rw [Pi zY]
  have hn:¬ (i:Int) < (s.size:Int):=by omega
  go_enter func240,ntmps240
  go_wp2
  go_ret
  exact⟨rfl,rfl⟩
theorem Qah (s:yB) (a B:Nat) (hs:s.size≤140737488355328) (ha:a≤s.size) (w:yW) (hB:zQ w B¢0 (.string s)) (d:Nat) (hd:Hid (d=a+lead goB (rest s a))) :
  Calls zG 237 #[zI a,.func (.func 238) #[] #[zP B]] w fun e w'=>e=.returned (zI d)∧w'=w:=by
 go_enter func237,ntmps237
 go_wp2_with fail
 go_loop [0] (fun t=>∃ i:Nat,a≤i∧i≤s.size∧t=zI i∧Hid (d=i+lead goB (rest s i))) (fun t=>s.size - (intOf t).toNat)
 case atStart=>exact⟨a,Nat.le_refl _,ha,rfl,hd⟩
 case round =>
  obtain⟨i,hi1,hi2,rfl,HR⟩:=hrel
  clear hd
  have cF:=QbT s i B w hB hi2
  cases hb:hdB goB (rest s i)
  ·rw [hb] at cF
   have hs2:Hid (i=d):=by
    show _=_
    rw [HR.out]
    cases hr:rest s i with
    | nil=>rfl
    | cons c l=>rw [hr] at hb;rw [lead,if_neg (by rw [show goB c=false from hb];decide)];rfl
   clear hb
   go_wp2_with fail
   refine cF.mono ?_
   rintro _ v ⟨rfl,e⟩
   obtain rfl:=e.symm
   go_wp2
   go_ret
   exact⟨retI (by rw [hs2.out]),rfl⟩
  ·rw [hb] at cF
   have hlt:i < s.size:=by
    by_cases h:i < s.size
    ·exact h
    ·rw [Pi zY] at hb;cases hb
   have hs2:Hid (d=(i+1)+lead goB (rest s (i+1))):=by
    show _=_
    rw [HR.out]
    have hr:=QY s i hlt
    rw [hr] at hb
    unfold hdB at hb
    rw [hr,lead,if_pos hb];omega
   clear hb HR
   go_wp2_with fail
   refine cF.mono ?_
   rintro _ v ⟨rfl,e⟩
   obtain rfl:=e.symm
   go_wp2_with fail
   exact⟨⟨i+1,by omega,by omega,by go_num,hs2⟩,by simp only [intOf];omega⟩
theorem Qai (s:yB) (a B:Nat) (hs:s.size≤140737488355328) (ha:a≤s.size) (w:yW) (hB:zQ w B¢0 (.string s)) (d:Nat) (hd:Hid (d=a+lead digB (rest s a))) :
  Calls zG 237 #[zI a,.func (.func 240) #[] #[zP B]] w fun e w'=>e=.returned (zI d)∧w'=w:=by
 go_enter func237,ntmps237
 go_wp2_with fail
 go_loop [0] (fun t=>∃ i:Nat,a≤i∧i≤s.size∧t=zI i∧Hid (d=i+lead digB (rest s i))) (fun t=>s.size - (intOf t).toNat)
 case atStart=>exact⟨a,Nat.le_refl _,ha,rfl,hd⟩
 case round =>
  obtain⟨i,hi1,hi2,rfl,HR⟩:=hrel
  clear hd
  have cF:=Qec s i B w hB hi2
  cases hb:hdB digB (rest s i)
  ·rw [hb] at cF
   have hs2:Hid (i=d):=by
    show _=_
    rw [HR.out]
    cases hr:rest s i with
    | nil=>rfl
    | cons c l=>rw [hr] at hb;rw [lead,if_neg (by rw [show digB c=false from hb];decide)];rfl
   clear hb
   go_wp2_with fail
   refine cF.mono ?_
   rintro _ v ⟨rfl,e⟩
   obtain rfl:=e.symm
   go_wp2
   go_ret
   exact⟨retI (by rw [hs2.out]),rfl⟩
  ·rw [hb] at cF
   have hlt:i < s.size:=by
    by_cases h:i < s.size
    ·exact h
    ·rw [Pi zY] at hb;cases hb
   have hs2:Hid (d=(i+1)+lead digB (rest s (i+1))):=by
    show _=_
    rw [HR.out]
    have hr:=QY s i hlt
    rw [hr] at hb
    unfold hdB at hb
    rw [hr,lead,if_pos hb];omega
   clear hb HR
   go_wp2_with fail
   refine cF.mono ?_
   rintro _ v ⟨rfl,e⟩
   obtain rfl:=e.symm
   go_wp2_with fail
   exact⟨⟨i+1,by omega,by omega,by go_num,hs2⟩,by simp only [intOf];omega⟩
def wv:List UInt8→Nat→Option Nat
 | [],n=>some n
 | c :: l,n=>if 10 * n+(c.toNat - 48) > jX then none else wv l (10 * n+(c.toNat - 48))
theorem Ve:∀ (l:List UInt8) (n k n' k':Nat),nmS l n k=some (n',k')→n≤n'∧k'=k+lead digB l
 | [],n,k,n',k',h=>by
  simp only [nmS,Option.some.injEq,Prod.mk.injEq] at h
  obtain⟨rfl,rfl⟩:=h
  exact⟨Nat.le_refl _,rfl⟩
 | c :: l,n,k,n',k',h=>by
  unfold nmS at h
  unfold lead
  by_cases hg:digB c=true
  ·rw [if_pos hg] at h ⊢
   by_cases hn:n > 922337203685477580
   ·rw [if_pos hn] at h;exact absurd h (by simp)
   ·rw [if_neg hn] at h
    have:=Ve l _ _ _ _ h
    exact⟨by omega,by omega⟩
  ·rw [if_neg hg] at h ⊢
   simp only [Option.some.injEq,Prod.mk.injEq] at h
   obtain⟨rfl,rfl⟩:=h
   exact⟨Nat.le_refl _,rfl⟩
theorem QcS:∀ (l:List UInt8) (n k:Nat),n≤jX →
  wv (l.take (lead digB l)) n=(match nmS l n k with | none=>none | some (n',_)=>if n' > jX then none else some n')
 | [],n,k,h=>by simp only [nmS,lead,List.take_zero,wv];rw [if_neg zY]
 | c :: l,n,k,h=>by
  unfold lead nmS
  by_cases hg:digB c=true
  ·rw [if_pos hg,if_pos hg,List.take_succ_cons]
   have hdc:48≤c.toNat∧c.toNat≤57:=by unfold digB at hg;exact of_decide_eq_true hg
   unfold wv
   by_cases ho:10 * n+(c.toNat - 48) > jX
   ·rw [if_pos ho]
    by_cases hn:n > 922337203685477580
    ·rw [if_pos hn]
    ·rw [if_neg hn]
     cases hm:nmS l (10 * n+(c.toNat - 48)) (k+1) with
     | none=>rfl
     | some q =>
      obtain⟨n',k'⟩:=q
      have:=(Ve _ _ _ _ _ hm).1
      simp only
      rw [if_pos zY]
   ·rw [if_neg ho,if_neg zY]
    exact QcS l _ _ zY
  ·rw [if_neg hg,if_neg hg]
   simp only [List.take_zero,wv]
   rw [if_neg zY]
theorem Fh {p:UInt8→Bool}:∀ (l:List UInt8) (c:UInt8),c ∈ l.take (lead p l)→p c=true
 | [],c,h=>by simp at h
 | x :: l,c,h=>by
  unfold lead at h
  by_cases hx:p x=true
  ·rw [if_pos hx,List.take_succ_cons,List.mem_cons] at h
   rcases h with rfl | h
   ·exact hx
   ·exact Fh l c h
  ·rw [if_neg hx] at h;simp at h
theorem Qcj (s:yB) (a d e:Nat) (hd:d=a+lead digB (rest s a)) (he:e=if nbTy (rest s d)=1 then d else d+1) :
  nbO s a=(match wv ((rest s a).take (lead digB (rest s a))) 0 with | none=>none | some n=>if (d - a > 1∧hd0 (rest s a)=true) then none else if badH (rest s e)=true then none else some (n,e,nbTy (rest s d))):=by
 rw [QcS (rest s a) 0 0 zY]
 cases hm:nmS (rest s a) 0 0 with
 | none=>unfold nbO;rw [hm]
 | some q =>
  obtain⟨n,k⟩:=q
  obtain⟨_,hk⟩:=Ve _ _ _ _ _ hm
  have hk2:d - a=k:=by omega
  rw [QZ (i:=d) (by rw [hm,hk2]) zY,← he]
  simp only
  by_cases hb:n > jX
  ·simp [hb]
  ·simp only [hb,false_or,if_false]
theorem QbU (s:yB) (a:Nat) (hs:s.size≤140737488355328) (ha:a≤s.size) (w:yW) :
  Calls zG 241 #[.string s,zI a] w fun e w'=>e=.returned (.tuple #[zU (nbTy (rest s a)),zI ((if nbTy (rest s a)=1 then a else a+1:Nat):Int)])∧w'=w:=by
 by_cases hlt:a < s.size
 ·have hne:((a:Int) == (s.size:Int))=false:=beq_false_of_ne zY
  have hlt':(a:Int) < (s.size:Int):=by omega
  have hr:=QY s a hlt
  obtain⟨c,hc⟩:∃ c,s[a]=c:=jV
  rw [hc] at hr
  rw [hr]
  have K:nbTy (c :: rest s (a+1))=if c.toNat=113 then 2 else if c.toNat=112 then 3 else if c.toNat=116 then 4 else 1:=rfl
  rw [K]
  clear K hr
  by_cases kt:c.toNat=116
  ·have xt:((c.toNat:Int) == 116)=true:=by rw [kt];rfl
   rw [if_neg zY,if_neg zY,if_pos kt,if_neg (by decide)]
   go_enter func241,ntmps241
   go_wp2_with fail
   exact bodyPost_ret (by simp [results]) rfl ⟨rfl,rfl⟩
  ·have xt:((c.toNat:Int) == 116)=false:=beq_false_of_ne zY
   by_cases kp:c.toNat=112
   ·have xp:((c.toNat:Int) == 112)=true:=by rw [kp];rfl
    rw [if_neg zY,if_pos kp,if_neg (by decide)]
    go_enter func241,ntmps241
    go_wp2_with fail
    exact bodyPost_ret (by simp [results]) rfl ⟨rfl,rfl⟩
   ·have xp:((c.toNat:Int) == 112)=false:=beq_false_of_ne zY
    by_cases kq:c.toNat=113
    ·have xq:((c.toNat:Int) == 113)=true:=by rw [kq];rfl
     rw [if_pos kq,if_neg (by decide)]
     go_enter func241,ntmps241
     go_wp2_with fail
     exact bodyPost_ret (by simp [results]) rfl ⟨rfl,rfl⟩
    ·have xq:((c.toNat:Int) == 113)=false:=beq_false_of_ne zY
     rw [if_neg kq,if_neg kp,if_neg kt,if_pos rfl]
     go_enter func241,ntmps241
     go_wp2_with fail
     exact bodyPost_ret (by simp [results]) rfl ⟨rfl,rfl⟩
 ·obtain rfl:a=s.size:=by omega
  rw [Jt s s.size (Nat.le_refl _)]
  show Calls zG 241 #[.string s,zI s.size] w fun e w'=>e=.returned (.tuple #[zU 1,zI (s.size:Int)])∧w'=w
  go_enter func241,ntmps241
  go_wp2_with fail
  exact bodyPost_ret (by simp [results]) rfl ⟨rfl,rfl⟩
theorem KQ {P:Program}{fn:Func}{p u:Tmp}(h:fn.results=#[.tmp p,.tmp u]) (tmps:Array Value) (w:yW):(results fn tmps).run P w=.ok (.tuple #[tmps.getD p undef,tmps.getD u undef]) w:=by
 simp [results,h]
def wvN (o:Option Nat):Int:=match o with | none=>0 | some n=>n
theorem Pe (x:yB) (hx:x.size≤140737488355328) (w:yW):Calls zG 243 #[.string x] w fun e w'=>e=.returned (.bool (decide (x.size > 1) && hd0 (rest x 0)))∧w'=w:=by
 by_cases h:x.size > 1
 ·have h':(1:Int) < (x.size:Int):=by omega
  have h0:0 < x.size:=by omega
  have h0':(0:Int) < (x.size:Int):=by omega
  have hr:=QY x 0 h0
  obtain⟨c,hc⟩:∃ c,x[0]=c:=jV
  rw [hc] at hr
  have K:Hid ((decide (x.size > 1) && hd0 (rest x 0))=((c.toNat:Int) == 48)):=by
   show _=_
   rw [decide_eq_true h,hr]
   show decide (c.toNat=48)=_
   by_cases hk:c.toNat=48
   ·rw [hk];rfl
   ·rw [decide_eq_false hk,beq_false_of_ne zY]
  clear hr
  go_enter func243,ntmps243
  go_wp2
  go_ret
  exact⟨retB (by rw [K.out]),rfl⟩
 ·have h':¬ (1:Int) < (x.size:Int):=by omega
  rw [decide_eq_false h]
  go_enter func243,ntmps243
  go_wp2
  go_ret
  exact⟨rfl,rfl⟩
theorem Fj (s:yB) (a:Nat) (ha:a≤s.size) (w:yW):Calls zG 244 #[.string s,zI a] w fun e w'=>e=.returned (.bool (badH (rest s a)))∧w'=w:=by
 by_cases hlt:a < s.size
 ·have hne:((a:Int) == (s.size:Int))=false:=beq_false_of_ne zY
  have hlt':(a:Int) < (s.size:Int):=by omega
  have hr:=QY s a hlt
  obtain⟨c,hc⟩:∃ c,s[a]=c:=jV
  rw [hc] at hr
  rw [hr]
  obtain⟨R,eR⟩:∃ R,badH (c :: rest s (a+1))=R:=jV
  have K:Hid (R=(goB c || upB c)):=eR.symm
  rw [eR]
  clear hr eR
  cases b1:letB c
  ·by_cases u1:65≤c.toNat
   ·by_cases u2:c.toNat≤90
    ·have hu:upB c=true:=by unfold upB;exact decide_eq_true ⟨u1,u2⟩
     have KR:Hid (R=true):=by show _=_;rw [K.out,hu,Bool.or_true]
     have u1':(65:Int)≤(c.toNat:Int):=by omega
     have u2':(c.toNat:Int)≤90:=by omega
     clear K
     go_enter func244,ntmps244
     go_wp2_with (first | (go_at_call 227;refine (Q5 b1 _).mono ?_;rintro _ v ⟨rfl,e⟩;obtain rfl:=e.symm) | (go_at_call 229;refine (Xl _ _).mono ?_;rintro _ v ⟨rfl,e⟩;obtain rfl:=e.symm))
     all_goals go_ret
     all_goals exact⟨retB (by rw [KR.out]),rfl⟩
    ·have hu:upB c=false:=by unfold upB;exact decide_eq_false zY
     have b2:digB c=false:=by unfold digB;exact decide_eq_false zY
     have KR:Hid (R=((c.toNat:Int) == 95)):=by
      show _=_
      rw [K.out,hu]
      unfold goB
      rw [b1,b2]
      by_cases h:c.toNat=95
      ·rw [h];rfl
      ·rw [show ((c.toNat:Int) == 95)=false from beq_false_of_ne zY,decide_eq_false h];rfl
     have u1':(65:Int)≤(c.toNat:Int):=by omega
     have u2':¬ (c.toNat:Int)≤90:=by omega
     clear K
     go_enter func244,ntmps244
     go_wp2_with (first | (go_at_call 227;refine (Q5 b1 _).mono ?_;rintro _ v ⟨rfl,e⟩;obtain rfl:=e.symm) | (go_at_call 229;refine (JU b2 _).mono ?_;rintro _ v ⟨rfl,e⟩;obtain rfl:=e.symm))
     all_goals go_ret
     all_goals exact⟨retB (by rw [KR.out,decide_eq_false zY];rfl),rfl⟩
   ·have hu:upB c=false:=by unfold upB;exact decide_eq_false zY
    have u1':¬ (65:Int)≤(c.toNat:Int):=by omega
    cases b2:digB c
    ·have KR:Hid (R=false):=by
      show _=_
      rw [K.out,hu]
      unfold goB
      rw [b1,b2,decide_eq_false zY];rfl
     have x95:((c.toNat:Int) == 95)=false:=beq_false_of_ne zY
     clear K
     go_enter func244,ntmps244
     go_wp2_with (first | (go_at_call 227;refine (Q5 b1 _).mono ?_;rintro _ v ⟨rfl,e⟩;obtain rfl:=e.symm) | (go_at_call 229;refine (JU b2 _).mono ?_;rintro _ v ⟨rfl,e⟩;obtain rfl:=e.symm))
     all_goals go_ret
     all_goals exact⟨retB (by rw [KR.out]),rfl⟩
    ·have KR:Hid (R=true):=by
      show _=_
      rw [K.out]
      unfold goB
      rw [b2];simp
     clear K
     go_enter func244,ntmps244
     go_wp2_with (first | (go_at_call 227;refine (Q5 b1 _).mono ?_;rintro _ v ⟨rfl,e⟩;obtain rfl:=e.symm) | (go_at_call 229;refine (JU b2 _).mono ?_;rintro _ v ⟨rfl,e⟩;obtain rfl:=e.symm))
     all_goals go_ret
     all_goals exact⟨retB (by rw [KR.out]),rfl⟩
  ·have KR:Hid (R=true):=by
    show _=_
    rw [K.out]
    unfold goB
    rw [b1];simp
   clear K
   go_enter func244,ntmps244
   go_wp2_with (go_at_call 227;refine (Q5 b1 _).mono ?_;rintro _ v ⟨rfl,e⟩;obtain rfl:=e.symm)
   all_goals go_ret
   all_goals exact⟨retB (by rw [KR.out]),rfl⟩
 ·obtain rfl:a=s.size:=by omega
  rw [Jt s s.size (Nat.le_refl _)]
  go_enter func244,ntmps244
  go_wp2
  go_ret
  exact⟨rfl,rfl⟩
theorem QbQ (x:yB) (hx:x.size≤140737488355328) (hd:∀ c ∈ rest x 0,digB c=true) (w:yW) :
  Calls zG 242 #[.string x] w fun e w'=>e=.returned (.tuple #[zI (wvN (wv (rest x 0) 0)),.bool (wv (rest x 0) 0).isSome])∧w'=w:=by
 obtain⟨o,ho⟩:∃ o,wv (rest x 0) 0=o:=jV
 have HO:Hid (wv (rest x 0) 0=o):=ho
 have HD:=zH hd
 rw [ho]
 clear ho hd
 go_enter func242,ntmps242
 go_wp2_with fail
 go_loop [4,9] (fun t u=>∃ i n:Nat,i≤x.size∧u=zI i∧t=zI n∧n≤jX∧Hid (wv (rest x i) n=o)) (fun _ u=>x.size - (intOf u).toNat)
 case atStart=>exact⟨0,0,by omega,rfl,rfl,by omega,HO⟩
 case round =>
  obtain⟨i,n,hi,rfl,rfl,hn,HR⟩:=hrel
  clear HO
  by_cases hlt:i < x.size
  ·have hlt':(i:Int) < (x.size:Int):=by omega
   have hr:=QY x i hlt
   obtain⟨c,hc⟩:∃ c,x[i]=c:=jV
   rw [hc] at hr
   have hdc:digB c=true:=by
    refine HD.out c ?_
    have:rest x i=(rest x 0).drop i:=by unfold rest;simp
    exact List.mem_of_mem_drop (i:=i) (by rw [← this,hr];simp)
   obtain⟨k1,k2⟩:48≤c.toNat∧c.toNat≤57:=by unfold digB at hdc;exact of_decide_eq_true hdc
   obtain⟨g,hg⟩:∃ g:Nat,c.toNat=g+48:=⟨c.toNat - 48,by omega⟩
   have hgI:(c.toNat:Int) - 48=(g:Int):=by omega
   have K:Hid (wv (rest x i) n=if 10 * n+g > jX then none else wv (rest x (i+1)) (10 * n+g)):=by
    show _=_
    rw [hr,wv,show c.toNat - 48=g by omega]
   have k1':(48:Int)≤(c.toNat:Int):=by omega
   have hg9:g≤9:=by omega
   clear hr hdc
   by_cases hb:10 * n+g > jX
   ·have hb':(jX - (g:Int)) / 10 < (n:Int):=by omega
    have KO:Hid (o=none):=by show _=_;rw [← HR.out,K.out,if_pos hb]
    clear K HR
    go_wp2_with fail
    exact bodyPost_ret (KQ (p:=2) (u:=3) rfl _ _) rfl ⟨by rw [KO.out];rfl,rfl⟩
   ·have hb':¬ (jX - (g:Int)) / 10 < (n:Int):=by omega
    have KO:Hid (wv (rest x (i+1)) (10 * n+g)=o):=by show _=_;rw [← HR.out,K.out,if_neg hb]
    clear K HR
    go_wp2_with fail
    exact⟨⟨i+1,10 * n+g,by omega,by go_num,by rw [show (n:Int) * 10+(g:Int)=((10 * n+g:Nat):Int) by omega],by omega,KO⟩,by simp only [intOf];omega⟩
  ·obtain rfl:i=x.size:=by omega
   have hn':¬ (x.size:Int) < (x.size:Int):=by omega
   have KO:Hid (o=some n):=by show _=_;rw [← HR.out,Jt x x.size (Nat.le_refl _)];rfl
   clear HR
   go_wp2_with fail
   exact bodyPost_ret (KQ (p:=2) (u:=3) rfl _ _) rfl ⟨by rw [KO.out];rfl,rfl⟩
def tkP (a:Nat):Tk:=⟨0,⟨#[]⟩,0,0,a⟩
def pnT (s:yB) (a:Nat):Tk:=if nmE s a=0 then nmT s a else tkP a
theorem QbR (s:yB) (a:Nat) (hs:s.size≤140737488355328) (ha:a≤s.size) (w:yW) (ht:Tab w) :
  Calls zG 228 #[.string s,zI a] w fun e w'=>e=.returned (.tuple #[.agg (tkA (pnT s a)),zI (nmE s a)])∧yD w w':=by
 obtain⟨d,hd⟩:∃ d,a+lead goB (rest s a)=d:=jV
 have hd1:a≤d:=by omega
 have hd2:d≤s.size:=by have:=KV goB (rest s a);rw [Jl] at this;omega
 have HT:Hid (nmT s a=if d - a > 16 then tk0 else ⟨if isW (s.extract a d)=true then 1 else 2,s.extract a d,0,0,a⟩):=by show _=_;unfold nmT;rw [hd,show lead goB (rest s a)=d - a by omega]
 have HE:Hid (nmE s a=if d - a > 16 then 112 else 0):=by show _=_;unfold nmE;rw [show lead goB (rest s a)=d - a by omega]
 have HD:=zH hd.symm
 have hS0:(zA w #[.string s] 9).heap[w§]? = (zC #[.string s] 9):=Qc w _
 have hB0:=Qk w (.cells #[.string s] 9) (.cells (tkA tk0) 233)
 have hR0:TkH ((zA w #[.string s] 9).alloc (.cells (tkA tk0) 233)) (w§+1) tk0:=by rw [← Qe w (.cells #[.string s] 9)];exact Qc _ _
 have hS1:((zA w #[.string s] 9).alloc (.cells (tkA tk0) 233)).heap[w§]? = (zC #[.string s] 9):=Qz hS0 (by rw [Qe];omega)
 have hz0:((zA w #[.string s] 9).alloc (.cells (tkA tk0) 233))§=w§+2:=by rw [Qe,Qe]
 have hT0:=ht.on hB0
 obtain⟨W,eW⟩:∃ W,(zA w #[.string s] 9).alloc (.cells (tkA tk0) 233)=W:=jV
 rw [eW] at hB0 hR0 hS1 hz0 hT0
 have hc:=Qa hS1 0
 have HRR:=hR0.hid
 have HTab:=hT0.hid
 have HB:=zH hB0
 have cR:=Qah s a w§ hs ha W hc d HD
 unfold tkA tk0 at eW
 dsimp only at eW
 clear hd ht hS0 hS1 hT0 hR0 hB0 HD
 go_enter func228,ntmps228
 go_wp2_with fail
 clear eW
 refine cR.mono ?_
 rintro _ v ⟨rfl,e⟩
 obtain rfl:=e.symm
 clear cR
 by_cases h16:d - a > 16
 ·have h16':(16:Int) < (d:Int) - (a:Int):=by omega
  have KE:Hid (nmE s a=112):=by show _=_;rw [HE.out,if_pos h16]
  have KT:Hid (pnT s a=tkP a):=by show _=_;unfold pnT;rw [KE.out,if_neg (by decide)]
  obtain⟨r0,r1,r2,r3,r4⟩:=HRR.out.cells
  obtain⟨f0,f1,f2,f3,f4⟩:=HRR.out.froz
  clear HT HE
  go_wp2_with fail
  exact bodyPost_ret (Qi (p:=4) (u:=5) (ty:=233) rfl _ _ (w§+1) 233 (tkA (tkP a)) (0,0) _ rfl (HRR.out.put (tkP a)) underlying233 rfl zK) rfl ⟨by rw [KT.out,KE.out];rfl,Qu HB.out zY _ _ _ _ _⟩
 ·have h16':¬ (16:Int) < (d:Int) - (a:Int):=by omega
  have KE:Hid (nmE s a=0):=by show _=_;rw [HE.out,if_neg h16]
  obtain⟨x,ex⟩:∃ x,s.extract a d=x:=jV
  have KT:Hid (pnT s a=⟨if isW x=true then 1 else 2,x,0,0,a⟩):=by show _=_;unfold pnT;rw [KE.out,if_pos rfl,HT.out,if_neg h16,ex]
  have hY:TkH (zA W (tkA ⟨2,x,0,0,a⟩) 233) W§ ⟨2,x,0,0,a⟩:=Qc W _
  rw [hz0] at hY
  have hR:TkH (zA W (tkA ⟨2,x,0,0,a⟩) 233) (w§+1) tk0:=Qz HRR.out HRR.out.lt
  have hB2:=HB.out.alloc HB.out.size (.cells (tkA ⟨2,x,0,0,a⟩) 233)
  have hT2:=HTab.out.on (Qb W (.cells (tkA ⟨2,x,0,0,a⟩) 233))
  obtain⟨V,eV⟩:∃ V,W.alloc (.cells (tkA ⟨2,x,0,0,a⟩) 233)=V:=jV
  rw [eV] at hY hR hB2 hT2
  have HY:=hY.hid
  have HR2:=hR.hid
  have HB2:=zH hB2
  have cW:=QbS x V hT2
  unfold tkA at eV
  dsimp only at eV
  clear HT HE hY hR hB2 hT2
  obtain⟨z0,z1,z2,z3,z4⟩:=HY.out.cells
  go_wp2_with fail
  clear eV
  refine cW.mono ?_
  rintro _ v ⟨rfl,e⟩
  obtain rfl:=e.symm
  clear cW
  cases hw:isW x
  ·have KT2:Hid (pnT s a=⟨2,x,0,0,a⟩):=by show _=_;rw [KT.out,hw];rfl
   obtain⟨r0,r1,r2,r3,r4⟩:=HR2.out.cells
   obtain⟨f0,f1,f2,f3,f4⟩:=HR2.out.froz
   clear KT
   go_wp2_with fail
   exact bodyPost_ret (Qi (p:=4) (u:=5) (ty:=233) rfl _ _ (w§+1) 233 (tkA ⟨2,x,0,0,a⟩) (0,0) _ rfl (HR2.out.put ⟨2,x,0,0,a⟩) underlying233 rfl zK) rfl ⟨by rw [KT2.out,KE.out];rfl,Qu HB2.out zY _ _ _ _ _⟩
  ·have KT2:Hid (pnT s a=⟨1,x,0,0,a⟩):=by show _=_;rw [KT.out,hw];rfl
   obtain⟨U,eU⟩:∃ U,V.setCell ⟨w§+2,0,none⟩ (zU 1)=U:=jV
   have HY3:Hid (TkH U (w§+2) ⟨1,x,0,0,a⟩):=by show TkH U _ _;rw [← eU];exact Qp _ HY.out
   have HR3:Hid (TkH U (w§+1) tk0):=by show TkH U _ _;rw [← eU];exact (Below.heap_setCell _ _ _ _ (by simp)).trans HR2.out
   have hB4:yD w U:=by rw [← eU];exact HB2.out.setCell (p:=⟨w§+2,0,none⟩) (by simp) _
   obtain⟨g0,g1,g2,g3,g4⟩:=HY.out.froz
   obtain⟨y0,y1,y2,y3,y4⟩:=HY3.out.cells
   obtain⟨r0,r1,r2,r3,r4⟩:=HR3.out.cells
   obtain⟨f0,f1,f2,f3,f4⟩:=HR3.out.froz
   clear KT
   go_wp2_with fail
   exact bodyPost_ret (Qi (p:=4) (u:=5) (ty:=233) rfl _ _ (w§+1) 233 (tkA ⟨1,x,0,0,a⟩) (0,0) _ rfl (HR3.out.put ⟨1,x,0,0,a⟩) underlying233 rfl zK) rfl ⟨by rw [KT2.out,KE.out];rfl,Qu hB4 zY _ _ _ _ _⟩
def pbT (s:yB) (a:Nat):Tk:=if nbE s a=0 then nbT s a else tkP a
theorem QdT {s:yB}{a:Nat}(h:nbO s a=none):Hid (pbT s a=tkP a∧nbE s a=113):=by
 obtain⟨_,h2⟩:=(Kq h).out
 exact⟨by unfold pbT;rw [h2,if_neg (by decide)],h2⟩
theorem QhV {s:yB}{a n e:Nat}{ty:Int}(h:nbO s a=some (n,e,ty)):Hid (pbT s a=⟨3,s.extract a e,ty,n,a⟩∧nbE s a=0):=by
 obtain⟨h1,h2⟩:=(JT h).out
 exact⟨by unfold pbT;rw [h2,if_pos rfl,h1],h2⟩
def nbM (o:Option Nat) (g bg:Bool) (e:Nat) (ty:Int):Option (Nat × Nat × Int):=match o with | none=>none | some n=>if g=true then none else if bg=true then none else some (n,e,ty)
theorem Qih {s:yB}{a d e:Nat}(hd:d=a+lead digB (rest s a)) (he:e=if nbTy (rest s d)=1 then d else d+1) :
  nbO s a=nbM (wv ((rest s a).take (lead digB (rest s a))) 0) (decide (d - a > 1) && hd0 (rest s a)) (badH (rest s e)) e (nbTy (rest s d)):=by
 rw [Qcj s a d e hd he]
 unfold nbM
 cases wv ((rest s a).take (lead digB (rest s a))) 0 with
 | none=>rfl
 | some n =>
  simp only
  by_cases h:d - a > 1∧hd0 (rest s a)=true
  ·rw [if_pos h,if_pos (by rw [decide_eq_true h.1,h.2];rfl)]
  ·have h2:(decide (d - a > 1) && hd0 (rest s a))=false:=by
    by_cases h1:d - a > 1
    ·rw [decide_eq_true h1,Bool.true_and]
     cases hh:hd0 (rest s a)
     ·rfl
     ·exact absurd ⟨h1,hh⟩ h
    ·rw [decide_eq_false h1];rfl
   rw [if_neg h,h2];rfl
theorem QgR (s:yB) (w:yW):∃ W,(zA w #[.string s] 9).alloc (.cells zv 233)=W ∧
  Hid (TkH W (w§+1) tk0)∧zQ W w§¢0 (.string s)∧Hid (yD w W)∧W§=w§+2:=by
 refine⟨_,rfl,?_,?_,Qk w _ _,by rw [Qe,Qe]⟩
 ·show TkH _ _ _
  have:=Qc (zA w #[.string s] 9) (.cells (tkA tk0) 233)
  rw [Qe] at this
  exact this
 ·exact Qa (Qz (Qc w (.cells #[.string s] 9)) (by rw [Qe];omega)) 0
theorem P8 (s:yB) (a:Nat) (hs:s.size≤140737488355328) (ha:a < s.size) (hdg:hdB digB (rest s a)=true) (w:yW) :
  Calls zG 230 #[.string s,zI a] w fun e w'=>e=.returned (.tuple #[.agg (tkA (pbT s a)),zI (nbE s a)])∧yD w w':=by
 obtain⟨d,hd⟩:∃ d,d=a+lead digB (rest s a):=jV
 obtain⟨e,he⟩:∃ e,e=if nbTy (rest s d)=1 then d else d+1:=jV
 have hp0:=Ub hdg
 have hd1:a≤d:=by omega
 have hd2:d≤s.size:=by have:=KV digB (rest s a);rw [Jl] at this;omega
 have he1:a≤e:=by rw [he];split <;> omega
 have he2:e≤s.size:=by
  rw [he]
  by_cases h:nbTy (rest s d)=1
  ·rw [if_pos h];exact hd2
  ·rw [if_neg h];exact Fa h
 obtain⟨x,ex⟩:∃ x,s.extract a d=x:=jV
 have hxl:x.data.toList=(rest s a).take (lead digB (rest s a)):=by rw [← ex,hd];exact Uf _ _ _
 have hx0:rest x 0=(rest s a).take (lead digB (rest s a)):=by rw [← hxl];unfold rest;simp
 have hxs:x.size=d - a:=by rw [← ex];exact Ue s a d hd2
 have hx00:hd0 (rest x 0)=hd0 (rest s a):=by rw [hx0];exact Fp hp0 _
 have hO:=Qih hd he
 rw [← hx0,← hx00] at hO
 have cT:=QbU s d hs hd2
 rw [← he] at cT
 have cW:=QbQ x zY (fun c hc=>by rw [hx0] at hc;exact Fh _ c hc)
 have cP:=Pe x zY
 have cG:=Fj s e he2
 obtain⟨W,eW,HR,hc,HB,hz⟩:=QgR s w
 have cR:=Qai s a w§ hs (Nat.le_of_lt ha) W hc d hd
 obtain⟨o,ho⟩:∃ o,wv (rest x 0) 0=o:=jV
 rw [ho] at hO cW
 obtain⟨ty,hty⟩:∃ ty,nbTy (rest s d)=ty:=jV
 rw [hty] at hO cT
 rw [hxs] at cP
 obtain⟨bp,hbp⟩:∃ bp,(decide (d - a > 1) && hd0 (rest x 0))=bp:=jV
 rw [hbp] at hO cP
 obtain⟨bg,hbg⟩:∃ bg,badH (rest s e)=bg:=jV
 rw [hbg] at hO cG
 have HO:=zH hO
 obtain⟨r0,r1,r2,r3,r4⟩:=HR.out.cells
 obtain⟨f0,f1,f2,f3,f4⟩:=HR.out.froz
 clear hO hd he hp0 hxl hx0 hx00 ho hty hbp hbg hdg
 cases o with
 | none =>
  have K:=QdT HO.out
  simp only [Option.isSome,wvN] at cW
  clear HO
  go_enter func230,ntmps230
  go_wp2_with (first | (go_at_call 237;refine cR.mono ?_;rintro _ v ⟨rfl,q⟩;obtain rfl:=q.symm) | (go_at_call 241;refine (cT _).mono ?_;rintro _ v ⟨rfl,q⟩;obtain rfl:=q.symm) | (go_at_call 242;refine (cW _).mono ?_;rintro _ v ⟨rfl,q⟩;obtain rfl:=q.symm) | (go_at_call 243;refine (cP _).mono ?_;rintro _ v ⟨rfl,q⟩;obtain rfl:=q.symm) | (go_at_call 244;refine (cG _).mono ?_;rintro _ v ⟨rfl,q⟩;obtain rfl:=q.symm))
  exact bodyPost_ret (Qi (p:=4) (u:=5) (ty:=233) rfl _ _ (w§+1) 233 (tkA (tkP a)) (0,0) _ rfl (HR.out.put (tkP a)) underlying233 rfl zK) rfl ⟨by rw [K.out.1,K.out.2];rfl,Qu HB.out zY _ _ _ _ _⟩
 | some n =>
  simp only [Option.isSome,wvN] at cW
  cases bp
  ·cases bg
   ·have K:=QhV HO.out
    obtain⟨y,ey⟩:∃ y,s.extract a e=y:=jV
    rw [ey] at K
    clear HO
    go_enter func230,ntmps230
    go_wp2_with (first | (go_at_call 237;refine cR.mono ?_;rintro _ v ⟨rfl,q⟩;obtain rfl:=q.symm) | (go_at_call 241;refine (cT _).mono ?_;rintro _ v ⟨rfl,q⟩;obtain rfl:=q.symm) | (go_at_call 242;refine (cW _).mono ?_;rintro _ v ⟨rfl,q⟩;obtain rfl:=q.symm) | (go_at_call 243;refine (cP _).mono ?_;rintro _ v ⟨rfl,q⟩;obtain rfl:=q.symm) | (go_at_call 244;refine (cG _).mono ?_;rintro _ v ⟨rfl,q⟩;obtain rfl:=q.symm))
    exact bodyPost_ret (Qi (p:=4) (u:=5) (ty:=233) rfl _ _ (w§+1) 233 (tkA ⟨3,y,ty,n,a⟩) (0,0) _ rfl (HR.out.put ⟨3,y,ty,n,a⟩) underlying233 rfl zK) rfl ⟨by rw [K.out.1,K.out.2];rfl,Qu HB.out zY _ _ _ _ _⟩
   ·have K:=QdT HO.out
    clear HO
    go_enter func230,ntmps230
    go_wp2_with (first | (go_at_call 237;refine cR.mono ?_;rintro _ v ⟨rfl,q⟩;obtain rfl:=q.symm) | (go_at_call 241;refine (cT _).mono ?_;rintro _ v ⟨rfl,q⟩;obtain rfl:=q.symm) | (go_at_call 242;refine (cW _).mono ?_;rintro _ v ⟨rfl,q⟩;obtain rfl:=q.symm) | (go_at_call 243;refine (cP _).mono ?_;rintro _ v ⟨rfl,q⟩;obtain rfl:=q.symm) | (go_at_call 244;refine (cG _).mono ?_;rintro _ v ⟨rfl,q⟩;obtain rfl:=q.symm))
    exact bodyPost_ret (Qi (p:=4) (u:=5) (ty:=233) rfl _ _ (w§+1) 233 (tkA (tkP a)) (0,0) _ rfl (HR.out.put (tkP a)) underlying233 rfl zK) rfl ⟨by rw [K.out.1,K.out.2];rfl,Qu HB.out zY _ _ _ _ _⟩
  ·have K:=QdT HO.out
   clear HO
   go_enter func230,ntmps230
   go_wp2_with (first | (go_at_call 237;refine cR.mono ?_;rintro _ v ⟨rfl,q⟩;obtain rfl:=q.symm) | (go_at_call 241;refine (cT _).mono ?_;rintro _ v ⟨rfl,q⟩;obtain rfl:=q.symm) | (go_at_call 242;refine (cW _).mono ?_;rintro _ v ⟨rfl,q⟩;obtain rfl:=q.symm) | (go_at_call 243;refine (cP _).mono ?_;rintro _ v ⟨rfl,q⟩;obtain rfl:=q.symm) | (go_at_call 244;refine (cG _).mono ?_;rintro _ v ⟨rfl,q⟩;obtain rfl:=q.symm))
   exact bodyPost_ret (Qi (p:=4) (u:=5) (ty:=233) rfl _ _ (w§+1) 233 (tkA (tkP a)) (0,0) _ rfl (HR.out.put (tkP a)) underlying233 rfl zK) rfl ⟨by rw [K.out.1,K.out.2];rfl,Qu HB.out zY _ _ _ _ _⟩
set_option maxHeartbeats 4000000
def Kw (s:yB) (a:Nat):Bool:=(List.range 6).any (mkB s a)
theorem QaB (i:Nat) (h:i < 6):(mk i).size=2:=by
 have:∀ i,i < 6→(mk i).size=2:=by decide
 exact this i h
theorem QaC (i:Nat) (h:6≤i) (h2:i < 23):(mk i).size=1:=by
 have:∀ i,i < 23→6≤i→(mk i).size=1:=by decide
 exact this i h2 h
theorem Qgc {s:yB}{a:Nat}(h:a+2≤s.size) (i:Nat) (hi:i < 6):mkB s a i=((s.extract a (a+2)).toList == (mk i).data.toList):=by
 unfold mkB
 rw [QaB i hi,decide_eq_true h,ByteArray.toList_eq,Bool.true_and]
theorem QdV {s:yB}{a:Nat}(h:a+2≤s.size) {x:yB}(hx:s.extract a (a+2)=x):Kw s a=((x.toList == [61,61]) || ((x.toList == [33,61]) || ((x.toList == [60,61]) || ((x.toList == [62,61]) || ((x.toList == [38,38]) || (x.toList == [124,124])))))):=by
 unfold Kw
 have e:∀ i,i < 6→mkB s a i=(x.toList == (mk i).data.toList):=fun i hi=>by rw [Qgc h i hi,hx]
 rw [show List.range 6 = [0,1,2,3,4,5] from rfl]
 simp only [List.any_cons,List.any_nil,Bool.or_false]
 rw [e 0 (by decide),e 1 (by decide),e 2 (by decide),e 3 (by decide),e 4 (by decide),e 5 (by decide)]
 rfl
theorem P2 {s:yB}{a:Nat}(h:¬ a+2≤s.size):Kw s a=false:=by
 unfold Kw
 rw [List.any_eq_false]
 intro i hi
 have hi6:i < 6:=by simpa using hi
 unfold mkB
 rw [QaB i hi6,decide_eq_false h]
 simp
theorem QaH (s:yB) (a:Nat) (hs:s.size≤140737488355328) (ha:a≤s.size) (w:yW) :
  Calls zG 245 #[.string s,zI a] w fun e w'=>e=.returned (.bool (Kw s a))∧w'=w:=by
 by_cases h:a+2≤s.size
 ·obtain⟨d,hd⟩:∃ d,d=a+2:=jV
  have hdI:(a:Int)+2=(d:Int):=by omega
  have hd1:a≤d:=by omega
  have hd2:d≤s.size:=by omega
  have h':¬ (s.size:Int) < (d:Int):=by omega
  obtain⟨x,ex⟩:∃ x,s.extract a d=x:=jV
  have hP:=QdV h (x:=x) (by rw [← hd];exact ex)
  obtain⟨b,eb⟩:∃ b,Kw s a=b:=jV
  rw [eb] at hP ⊢
  have KB:=zH hP
  clear hd h hP eb
  cases q0:(x.toList == [61,61])
  ·cases q1:(x.toList == [33,61])
   ·cases q2:(x.toList == [60,61])
    ·cases q3:(x.toList == [62,61])
     ·cases q4:(x.toList == [38,38])
      ·cases q5:(x.toList == [124,124])
       ·have KB2:Hid (b=false):=by show _=_;rw [KB.out,q0,q1,q2,q3,q4,q5];rfl
        clear KB
        go_enter func245,ntmps245
        go_wp2
        go_ret
        exact⟨retB (by rw [KB2.out]),rfl⟩
       ·have KB2:Hid (b=true):=by show _=_;rw [KB.out,q0,q1,q2,q3,q4,q5];simp
        clear KB
        go_enter func245,ntmps245
        go_wp2
        go_ret
        exact⟨retB (by rw [KB2.out]),rfl⟩
      ·have KB2:Hid (b=true):=by show _=_;rw [KB.out,q0,q1,q2,q3,q4];simp
       clear KB
       go_enter func245,ntmps245
       go_wp2
       go_ret
       exact⟨retB (by rw [KB2.out]),rfl⟩
     ·have KB2:Hid (b=true):=by show _=_;rw [KB.out,q0,q1,q2,q3];simp
      clear KB
      go_enter func245,ntmps245
      go_wp2
      go_ret
      exact⟨retB (by rw [KB2.out]),rfl⟩
    ·have KB2:Hid (b=true):=by show _=_;rw [KB.out,q0,q1,q2];simp
     clear KB
     go_enter func245,ntmps245
     go_wp2
     go_ret
     exact⟨retB (by rw [KB2.out]),rfl⟩
   ·have KB2:Hid (b=true):=by show _=_;rw [KB.out,q0,q1];simp
    clear KB
    go_enter func245,ntmps245
    go_wp2
    go_ret
    exact⟨retB (by rw [KB2.out]),rfl⟩
  ·have KB2:Hid (b=true):=by show _=_;rw [KB.out,q0];simp
   clear KB
   go_enter func245,ntmps245
   go_wp2
   go_ret
   exact⟨retB (by rw [KB2.out]),rfl⟩
 ·have h':(s.size:Int) < (a:Int)+2:=by omega
  rw [P2 h]
  go_enter func245,ntmps245
  go_wp2
  go_ret
  exact⟨rfl,rfl⟩
def Ku:List UInt8:=[123,125,40,41,44,59,63,58,61,33,60,62,43,45,42,47,37]
theorem VY:∀ (l:List UInt8) (c:UInt8),c ∈ l→0≤Lib.indexByte l c
 | [],c,h=>by simp at h
 | b :: l,c,h=>by
  unfold Lib.indexByte
  by_cases hb:b == c
  ·rw [if_pos hb];exact Int.le_refl _
  ·rw [if_neg hb]
   rw [List.mem_cons] at h
   rcases h with rfl | h
   ·simp at hb
   ·have:=VY l c h
    rw [if_neg (by simp;omega)];omega
theorem Fl:∀ (l:List UInt8) (c:UInt8),c ∉ l→Lib.indexByte l c = -1
 | [],c,h=>rfl
 | b :: l,c,h=>by
  rw [List.mem_cons,not_or] at h
  have:=Fl l c h.2
  unfold Lib.indexByte
  rw [if_neg (by simpa using (fun e:b=c=>h.1 e.symm)),this]
  rfl
theorem QaD {s:yB}{a i:Nat}(h:mkO s a=some i):i < 23∧mkB s a i=true∧∀ j,j < i→mkB s a j=false:=by
 unfold mkO at h
 rw [List.find?_range_eq_some] at h
 exact⟨by simpa using h.2.1,h.1,fun j hj=>by simpa using h.2.2 j hj⟩
theorem QaE {s:yB}{a i:Nat}(h:mkB s a i=true):a+(mk i).size≤s.size∧s.extract a (a+(mk i).size)=mk i:=by
 unfold mkB at h
 rw [Bool.and_eq_true] at h
 exact⟨of_decide_eq_true h.1,Xc (by simpa using h.2)⟩
theorem Qep {s:yB}{a:Nat}(h:Kw s a=true):a+2≤s.size∧mkT s a=⟨4,s.extract a (a+2),0,0,a⟩∧mkE s a=0:=by
 unfold Kw at h
 rw [List.any_eq_true] at h
 obtain⟨j,hj,hm⟩:=h
 have hj6:j < 6:=by simpa using hj
 cases ho:mkO s a with
 | none =>
  unfold mkO at ho
  rw [List.find?_eq_none] at ho
  exact absurd hm (ho j (by simp;omega))
 | some i =>
  obtain⟨h1,h2,h3⟩:=QaD ho
  have hi6:i < 6:=by
   by_cases hij:i≤j
   ·omega
   ·rw [h3 j zY] at hm;cases hm
  obtain⟨h4,h5⟩:=QaE h2
  rw [QaB i hi6] at h4 h5
  refine⟨h4,?_,?_⟩
  ·unfold mkT;rw [ho,h5]
  ·unfold mkE;rw [ho]
theorem QbD {s:yB}{a:Nat}{c:UInt8}(ha:a < s.size) (hc:s[a]=c):s.extract a (a+1)=⟨#[c]⟩:=by
 rw [Pn,QY s a ha,hc];rfl
theorem Qeq {s:yB}{a:Nat}{c:UInt8}(ha:a < s.size) (hc:s[a]=c) (h:Kw s a=false) (hm:c ∈ Ku):mkT s a=⟨4,s.extract a (a+1),0,0,a⟩∧mkE s a=0:=by
 have hex:=QbD ha hc
 have hj:∃ j,6≤j∧j < 23∧mk j=⟨#[c]⟩:=by
  have:∀ c ∈ Ku,∃ j,j < 23∧(6≤j∧(mk j).data.toList = [c]):=by decide
  obtain⟨j,h1,h2,h3⟩:=this c hm
  exact⟨j,h2,h1,Xc h3⟩
 obtain⟨j,j1,j2,j3⟩:=hj
 have hB:mkB s a j=true:=by
  unfold mkB
  rw [QaC j j1 j2,hex,j3,decide_eq_true zY];simp
 cases ho:mkO s a with
 | none =>
  unfold mkO at ho
  rw [List.find?_eq_none] at ho
  exact absurd hB (ho j (by simp;omega))
 | some i =>
  obtain⟨h1,h2,_⟩:=QaD ho
  have hi6:6≤i:=by
   by_cases hi:6≤i
   ·exact hi
   ·unfold Kw at h
    rw [List.any_eq_false] at h
    exact absurd h2 (h i (by simp;omega))
  obtain⟨h4,h5⟩:=QaE h2
  rw [QaC i hi6 h1] at h4 h5
  refine⟨?_,?_⟩
  ·unfold mkT;rw [ho,h5]
  ·unfold mkE;rw [ho]
theorem Qgd {s:yB}{a:Nat}{c:UInt8}(ha:a < s.size) (hc:s[a]=c) (h:Kw s a=false) (hm:c ∉ Ku):mkE s a=111:=by
 have hex:=QbD ha hc
 cases ho:mkO s a with
 | none=>unfold mkE;rw [ho]
 | some i =>
  exfalso
  obtain⟨h1,h2,_⟩:=QaD ho
  have hi6:6≤i:=by
   by_cases hi:6≤i
   ·exact hi
   ·unfold Kw at h
    rw [List.any_eq_false] at h
    exact absurd h2 (h i (by simp;omega))
  obtain⟨h4,h5⟩:=QaE h2
  rw [QaC i hi6 h1,hex] at h5
  have:∀ i,i < 23→6≤i→∀ c ∈ (mk i).data.toList,c ∈ Ku:=by decide
  exact hm (this i h1 hi6 c (by rw [← h5];simp))
def pmT (s:yB) (a:Nat):Tk:=if mkE s a=0 then mkT s a else tkP a
theorem QbL (w:yW):∃ W,w.alloc (.cells zv 233)=W ∧
  Hid (TkH W w§ tk0)∧Hid (yD w W)∧W§=w§+1 :=
 ⟨_,rfl,Qc w _,Qb w _,by rw [Qe]⟩
theorem Qcm (s:yB) (a:Nat) (hs:s.size≤140737488355328) (ha:a < s.size) (w:yW) :
  Calls zG 231 #[.string s,zI a] w fun e w'=>e=.returned (.tuple #[.agg (tkA (pmT s a)),zI (mkE s a)])∧yD w w':=by
 have haI:(a:Int) < (s.size:Int):=by omega
 obtain⟨c,hc⟩:∃ c,s[a]=c:=jV
 have cI:=VF Zy (c.toNat:Int)
 have hcc:((c.toNat:Int)).toNat.toUInt8=c:=by simp
 have cP:=QaH s a hs (Nat.le_of_lt ha)
 obtain⟨W,eW,HR,HB,hz⟩:=QbL w
 obtain⟨r0,r1,r2,r3,r4⟩:=HR.out.cells
 obtain⟨f0,f1,f2,f3,f4⟩:=HR.out.froz
 cases hp:Kw s a
 ·rw [hp] at cP
  by_cases hm:c ∈ Ku
  ·obtain⟨m1,m2⟩:=Qeq ha hc hp hm
   have hi:0≤Lib.indexByte Ku c:=VY _ _ hm
   obtain⟨g,hg⟩:∃ g,Lib.indexByte Ku c=g:=jV
   rw [hg] at hi
   have cI2:∀ w,Calls zG 246 #[.string Zy,zU (c.toNat:Int)] w fun e w'=>e=.returned (zI g)∧w'=w:=fun w=>by
    have:=cI w
    rw [hcc,show (ByteArray.mk #[123,125,40,41,44,59,63,58,61,33,60,62,43,45,42,47,37]).data.toList=Ku from rfl,hg] at this
    exact this
   obtain⟨d,hd⟩:∃ d,d=a+1:=jV
   have hdI:(a:Int)+1=(d:Int):=by omega
   have hd1:a≤d:=by omega
   have hd2:d≤s.size:=by omega
   obtain⟨x,ex⟩:∃ x,s.extract a d=x:=jV
   have K:Hid (pmT s a=⟨4,x,0,0,a⟩∧mkE s a=0):=⟨by unfold pmT;rw [m2,if_pos rfl,m1,← hd,ex],m2⟩
   clear m1 m2 hd hm cI hg hcc hp
   go_enter func231,ntmps231
   go_wp2_with (first | (go_at_call 245;refine (cP _).mono ?_;rintro _ v ⟨rfl,q⟩;obtain rfl:=q.symm) | (go_at_call 246;refine (cI2 _).mono ?_;rintro _ v ⟨rfl,q⟩;obtain rfl:=q.symm))
   exact bodyPost_ret (Qi (p:=4) (u:=5) (ty:=233) rfl _ _ w§ 233 (tkA ⟨4,x,0,0,a⟩) (0,0) _ rfl (HR.out.put ⟨4,x,0,0,a⟩) underlying233 rfl zK) rfl ⟨by rw [K.out.1,K.out.2];rfl,Qu HB.out (Nat.le_refl _) _ _ _ _ _⟩
  ·have m2:=Qgd ha hc hp hm
   have hi:Lib.indexByte Ku c = -1:=Fl _ _ hm
   have cI2:∀ w,Calls zG 246 #[.string Zy,zU (c.toNat:Int)] w fun e w'=>e=.returned (zI (-1))∧w'=w:=fun w=>by
    have:=cI w
    rw [hcc,show (ByteArray.mk #[123,125,40,41,44,59,63,58,61,33,60,62,43,45,42,47,37]).data.toList=Ku from rfl,hi] at this
    exact this
   have K:Hid (pmT s a=tkP a∧mkE s a=111):=⟨by unfold pmT;rw [m2,if_neg (by decide)],m2⟩
   clear m2 hm cI hi hcc hp
   go_enter func231,ntmps231
   go_wp2_with (first | (go_at_call 245;refine (cP _).mono ?_;rintro _ v ⟨rfl,q⟩;obtain rfl:=q.symm) | (go_at_call 246;refine (cI2 _).mono ?_;rintro _ v ⟨rfl,q⟩;obtain rfl:=q.symm))
   exact bodyPost_ret (Qi (p:=4) (u:=5) (ty:=233) rfl _ _ w§ 233 (tkA (tkP a)) (0,0) _ rfl (HR.out.put (tkP a)) underlying233 rfl zK) rfl ⟨by rw [K.out.1,K.out.2];rfl,Qu HB.out (Nat.le_refl _) _ _ _ _ _⟩
 ·rw [hp] at cP
  obtain⟨m0,m1,m2⟩:=Qep hp
  obtain⟨d,hd⟩:∃ d,d=a+2:=jV
  have hdI:(a:Int)+2=(d:Int):=by omega
  have hd1:a≤d:=by omega
  have hd2:d≤s.size:=by omega
  obtain⟨x,ex⟩:∃ x,s.extract a d=x:=jV
  have K:Hid (pmT s a=⟨4,x,0,0,a⟩∧mkE s a=0):=⟨by unfold pmT;rw [m2,if_pos rfl,m1,← hd,ex],m2⟩
  clear m0 m1 m2 hd cI hcc hp
  go_enter func231,ntmps231
  go_wp2_with (go_at_call 245;refine (cP _).mono ?_;rintro _ v ⟨rfl,q⟩;obtain rfl:=q.symm)
  exact bodyPost_ret (Qi (p:=4) (u:=5) (ty:=233) rfl _ _ w§ 233 (tkA ⟨4,x,0,0,a⟩) (0,0) _ rfl (HR.out.put ⟨4,x,0,0,a⟩) underlying233 rfl zK) rfl ⟨by rw [K.out.1,K.out.2];rfl,Qu HB.out (Nat.le_refl _) _ _ _ _ _⟩
set_option maxHeartbeats 8000000
theorem QbZ (s:yB) (a:Nat) (hs:s.size≤140737488355328) (ha:a≤s.size) (d:Nat) (hd:Hid (d=a+ov (rest s a) false)) (w:yW) :
  Calls zG 226 #[.string s,zI a] w fun e w'=>e=.returned (zI d)∧w'=w:=by
 go_enter func226,ntmps226
 go_wp2_with fail
 go_step3
 go_wp2_with fail
 go_step3
 go_wp2_with fail
 go_loop [1,5] (fun t r=>∃ (i:Nat) (b:Bool),a≤i∧i≤s.size∧t=zI i∧r=.bool b∧Hid (d=i+ov (rest s i) b)) (fun t _=>s.size - (intOf t).toNat)
 case atStart=>exact⟨a,false,Nat.le_refl _,ha,rfl,rfl,hd⟩
 case round =>
  obtain⟨i,b,hi1,hi2,rfl,rfl,HR⟩:=hrel
  clear hd
  by_cases hlt:i < s.size
  ·have hlt':(i:Int) < (s.size:Int):=by omega
   have hr:=QY s i hlt
   obtain⟨c,hc⟩:∃ c,s[i]=c:=jV
   rw [hc] at hr
   have hcl:=K0 c
   have hq:=zH hr
   clear hr
   by_cases k10:c.toNat=10
   ·have x10:((c.toNat:Int) == 10)=true:=by rw [k10];rfl
    have hs2:Hid (d=(i+1)+ov (rest s (i+1)) false):=by
     show _=_
     have e:remB b c=false:=by unfold remB;rw [if_neg zY,if_pos k10]
     have e2:Jj c=true:=by unfold Jj;simp [k10]
     rw [HR.out,hq.out,XL (by rw [e2];simp),e];omega
    go_wp2_with fail
    exact⟨⟨i+1,false,by omega,by omega,by go_num,rfl,hs2⟩,by simp only [intOf];omega⟩
   ·have x10:((c.toNat:Int) == 10)=false:=beq_false_of_ne zY
    by_cases kb:c.toNat=32∨c.toNat=9∨c.toNat=13
    ·have e:remB b c=b:=by unfold remB;rw [if_neg zY,if_neg zY]
     have e2:Jj c=true:=by unfold Jj;simp;omega
     have hs2:Hid (d=(i+1)+ov (rest s (i+1)) b):=by
      show _=_
      rw [HR.out,hq.out,XL (by rw [e2];simp),e];omega
     clear e e2
     rcases kb with h | h | h
     ·have x32:((c.toNat:Int) == 32)=true:=by rw [h];rfl
      go_wp2_with fail
      exact⟨⟨i+1,b,by omega,by omega,by go_num,rfl,hs2⟩,by simp only [intOf];omega⟩
     ·have x32:((c.toNat:Int) == 32)=false:=beq_false_of_ne zY
      have x9:((c.toNat:Int) == 9)=true:=by rw [h];rfl
      go_wp2_with fail
      exact⟨⟨i+1,b,by omega,by omega,by go_num,rfl,hs2⟩,by simp only [intOf];omega⟩
     ·have x32:((c.toNat:Int) == 32)=false:=beq_false_of_ne zY
      have x9:((c.toNat:Int) == 9)=false:=beq_false_of_ne zY
      have x13:((c.toNat:Int) == 13)=true:=by rw [h];rfl
      go_wp2_with fail
      exact⟨⟨i+1,b,by omega,by omega,by go_num,rfl,hs2⟩,by simp only [intOf];omega⟩
    ·have x32:((c.toNat:Int) == 32)=false:=beq_false_of_ne zY
     have x9:((c.toNat:Int) == 9)=false:=beq_false_of_ne zY
     have x13:((c.toNat:Int) == 13)=false:=beq_false_of_ne zY
     have e2:Jj c=false:=by unfold Jj;simp;omega
     by_cases k35:c.toNat=35
     ·have x35:((c.toNat:Int) == 35)=true:=by rw [k35];rfl
      have e:remB b c=true:=by unfold remB;rw [if_pos k35]
      have hs2:Hid (d=(i+1)+ov (rest s (i+1)) true):=by
       show _=_
       rw [HR.out,hq.out,XL (by rw [e];simp),e];omega
      clear e e2
      go_wp2_with fail
      exact⟨⟨i+1,true,by omega,by omega,by go_num,rfl,hs2⟩,by simp only [intOf];omega⟩
     ·have x35:((c.toNat:Int) == 35)=false:=beq_false_of_ne zY
      have e:remB b c=b:=by unfold remB;rw [if_neg k35,if_neg k10]
      cases b
      ·have hs2:Hid (i=d):=by show _=_;rw [HR.out,hq.out,X6 e e2];omega
       clear e e2
       go_wp2
       go_ret
       exact⟨retI (by rw [hs2.out]),rfl⟩
      ·have hs2:Hid (d=(i+1)+ov (rest s (i+1)) true):=by
        show _=_
        rw [HR.out,hq.out,XL (by rw [e];simp),e];omega
       clear e e2
       go_wp2_with fail
       exact⟨⟨i+1,true,by omega,by omega,by go_num,rfl,hs2⟩,by simp only [intOf];omega⟩
  ·have hn:¬ (i:Int) < (s.size:Int):=by omega
   have hs2:Hid (i=d):=by show _=_;rw [HR.out,Jt s i zY];rfl
   go_wp2
   go_ret
   exact⟨retI (by rw [hs2.out]),rfl⟩
end Go.Proofs.YtfbjofnaghjmeaaGreatDoor
