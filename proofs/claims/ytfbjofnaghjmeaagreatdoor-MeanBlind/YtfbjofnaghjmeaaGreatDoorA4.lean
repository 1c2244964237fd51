import Derived.Test.YtfbjofnaghjmeaaGreatDoorA0
import Derived.Test.YtfbjofnaghjmeaaGreatDoorA3
import Derived.Test.YtfbjofnaghjmeaaGreatDoorA1
import Derived.WalkMore
namespace Go.Proofs.YtfbjofnaghjmeaaGreatDoor
set_option maxHeartbeats 8000000
set_option maxRecDepth 100000
open Go.RowKit
def wv:List UInt8→Nat→Option Nat
 | [],n=>some n
 | c :: l,n=>if 10 * n+(c.toNat - 48) > 9223372036854775807 then none else wv l (10 * n+(c.toNat - 48))
theorem nmS_mono:∀ (l:List UInt8) (n k n' k':Nat),nmS l n k=some (n',k')→n≤n'∧k'=k+lead digB l
 | [],n,k,n',k',h=>by
  simp only [nmS,Option.some.injEq,Prod.mk.injEq] at h
  obtain⟨rfl,rfl⟩:=h
  exact⟨Nat.le_refl _,rfl⟩
 | c :: l,n,k,n',k',h=>by
  unfold nmS at h
  unfold lead
  by_cases hg:digB c=true
  ·rw [if_pos hg] at h ⊢
   by_cases hn:n > 922337203685477580
   ·rw [if_pos hn] at h; exact absurd h (by simp)
   ·rw [if_neg hn] at h
    have:=nmS_mono l _ _ _ _ h
    exact⟨by omega,by omega⟩
  ·rw [if_neg hg] at h ⊢
   simp only [Option.some.injEq,Prod.mk.injEq] at h
   obtain⟨rfl,rfl⟩:=h
   exact⟨Nat.le_refl _,rfl⟩
theorem wv_nmS:∀ (l:List UInt8) (n k:Nat),n≤9223372036854775807 →
  wv (l.take (lead digB l)) n=(match nmS l n k with | none=>none | some (n',_)=>if n' > 9223372036854775807 then none else some n')
 | [],n,k,h=>by simp only [nmS,lead,List.take_zero,wv]; rw [if_neg (by omega)]
 | c :: l,n,k,h=>by
  unfold lead nmS
  by_cases hg:digB c=true
  ·rw [if_pos hg,if_pos hg,List.take_succ_cons]
   have hdc:48≤c.toNat∧c.toNat≤57:=by unfold digB at hg; exact of_decide_eq_true hg
   unfold wv
   by_cases ho:10 * n+(c.toNat - 48) > 9223372036854775807
   ·rw [if_pos ho]
    by_cases hn:n > 922337203685477580
    ·rw [if_pos hn]
    ·rw [if_neg hn]
     cases hm:nmS l (10 * n+(c.toNat - 48)) (k+1) with
     | none=>rfl
     | some q =>
      obtain⟨n',k'⟩:=q
      have:=(nmS_mono _ _ _ _ _ hm).1
      simp only
      rw [if_pos (by omega)]
   ·rw [if_neg ho,if_neg (by omega)]
    exact wv_nmS l _ _ (by omega)
  ·rw [if_neg hg,if_neg hg]
   simp only [List.take_zero,wv]
   rw [if_neg (by omega)]
theorem lead_all {p:UInt8→Bool}:∀ (l:List UInt8) (c:UInt8),c ∈ l.take (lead p l)→p c=true
 | [],c,h=>by simp at h
 | x :: l,c,h=>by
  unfold lead at h
  by_cases hx:p x=true
  ·rw [if_pos hx,List.take_succ_cons,List.mem_cons] at h
   rcases h with rfl | h
   ·exact hx
   ·exact lead_all l c h
  ·rw [if_neg hx] at h; simp at h
theorem nbO_parts (s:yB) (a d e:Nat) (hd:d=a+lead digB (rest s a)) (he:e=if nbTy (rest s d)=1 then d else d+1) :
  nbO s a=(match wv ((rest s a).take (lead digB (rest s a))) 0 with | none=>none | some n=>if (d - a > 1∧hd0 (rest s a)=true) then none else if badH (rest s e)=true then none else some (n,e,nbTy (rest s d))):=by
 rw [wv_nmS (rest s a) 0 0 (by omega)]
 cases hm:nmS (rest s a) 0 0 with
 | none=>unfold nbO; rw [hm]
 | some q =>
  obtain⟨n,k⟩:=q
  obtain⟨_,hk⟩:=nmS_mono _ _ _ _ _ hm
  have hk2:d - a=k:=by omega
  rw [nbO_of (i:=d) (by rw [hm,hk2]) (by omega),← he]
  simp only
  by_cases hb:n > 9223372036854775807
  ·simp [hb]
  ·simp only [hb,false_or,if_false]
theorem typed_any (s:yB) (a:Nat) (hs:s.size≤140737488355328) (ha:a≤s.size) (w:yW) :
  Calls zG 241 #[.string s,zI a] w fun e w'=>e=.returned (.tuple #[zU (nbTy (rest s a)),zI ((if nbTy (rest s a)=1 then a else a+1:Nat):Int)])∧w'=w:=by
 by_cases hlt:a < s.size
 ·have hne:((a:Int) == (s.size:Int))=false:=beq_false_of_ne (by omega)
  have hlt':(a:Int) < (s.size:Int):=by omega
  have hr:=rest_at s a hlt
  obtain⟨c,hc⟩:∃ c,s[a]=c:=⟨_,rfl⟩
  rw [hc] at hr
  rw [hr]
  have K:nbTy (c :: rest s (a+1))=if c.toNat=113 then 2 else if c.toNat=112 then 3 else if c.toNat=116 then 4 else 1:=rfl
  rw [K]
  clear K hr
  by_cases kt:c.toNat=116
  ·have xt:((c.toNat:Int) == 116)=true:=by rw [kt]; rfl
   rw [if_neg (by omega),if_neg (by omega),if_pos kt,if_neg (by decide)]
   go_enter Tryz.func241,Tryz.ntmps241
   go_wp2_with fail
   exact bodyPost_ret (by simp [results]) rfl ⟨rfl,rfl⟩
  ·have xt:((c.toNat:Int) == 116)=false:=beq_false_of_ne (by omega)
   by_cases kp:c.toNat=112
   ·have xp:((c.toNat:Int) == 112)=true:=by rw [kp]; rfl
    rw [if_neg (by omega),if_pos kp,if_neg (by decide)]
    go_enter Tryz.func241,Tryz.ntmps241
    go_wp2_with fail
    exact bodyPost_ret (by simp [results]) rfl ⟨rfl,rfl⟩
   ·have xp:((c.toNat:Int) == 112)=false:=beq_false_of_ne (by omega)
    by_cases kq:c.toNat=113
    ·have xq:((c.toNat:Int) == 113)=true:=by rw [kq]; rfl
     rw [if_pos kq,if_neg (by decide)]
     go_enter Tryz.func241,Tryz.ntmps241
     go_wp2_with fail
     exact bodyPost_ret (by simp [results]) rfl ⟨rfl,rfl⟩
    ·have xq:((c.toNat:Int) == 113)=false:=beq_false_of_ne (by omega)
     rw [if_neg kq,if_neg kp,if_neg kt,if_pos rfl]
     go_enter Tryz.func241,Tryz.ntmps241
     go_wp2_with fail
     exact bodyPost_ret (by simp [results]) rfl ⟨rfl,rfl⟩
 ·obtain rfl:a=s.size:=by omega
  rw [rest_end s s.size (Nat.le_refl _)]
  show Calls zG 241 #[.string s,zI s.size] w fun e w'=>e=.returned (.tuple #[zU 1,zI (s.size:Int)])∧w'=w
  go_enter Tryz.func241,Tryz.ntmps241
  go_wp2_with fail
  exact bodyPost_ret (by simp [results]) rfl ⟨rfl,rfl⟩
theorem results_t2 {P:Program}{fn:Func}{p u:Tmp}(h:fn.results=#[.tmp p,.tmp u]) (tmps:Array Value) (w:yW):(results fn tmps).run P w=.ok (.tuple #[tmps.getD p undef,tmps.getD u undef]) w:=by
 simp [results,h]
def wvN (o:Option Nat):Int:=match o with | none=>0 | some n=>n
theorem isPadded_any (x:yB) (hx:x.size≤140737488355328) (w:yW):Calls zG 243 #[.string x] w fun e w'=>e=.returned (.bool (decide (x.size > 1) && hd0 (rest x 0)))∧w'=w:=by
 by_cases h:x.size > 1
 ·have h':(1:Int) < (x.size:Int):=by omega
  have h0:0 < x.size:=by omega
  have h0':(0:Int) < (x.size:Int):=by omega
  have hr:=rest_at x 0 h0
  obtain⟨c,hc⟩:∃ c,x[0]=c:=⟨_,rfl⟩
  rw [hc] at hr
  have K:Hid ((decide (x.size > 1) && hd0 (rest x 0))=((c.toNat:Int) == 48)):=by
   show _=_
   rw [decide_eq_true h,hr]
   show decide (c.toNat=48)=_
   by_cases hk:c.toNat=48
   ·rw [hk]; rfl
   ·rw [decide_eq_false hk,beq_false_of_ne (by omega)]
  clear hr
  go_enter Tryz.func243,Tryz.ntmps243
  go_wp2_with fail
  go_ret
  exact⟨retB (by rw [K.out]),rfl⟩
 ·have h':¬ (1:Int) < (x.size:Int):=by omega
  rw [decide_eq_false h]
  go_enter Tryz.func243,Tryz.ntmps243
  go_wp2_with fail
  go_ret
  exact⟨rfl,rfl⟩
theorem isGlued_any (s:yB) (a:Nat) (ha:a≤s.size) (w:yW):Calls zG 244 #[.string s,zI a] w fun e w'=>e=.returned (.bool (badH (rest s a)))∧w'=w:=by
 by_cases hlt:a < s.size
 ·have hne:((a:Int) == (s.size:Int))=false:=beq_false_of_ne (by omega)
  have hlt':(a:Int) < (s.size:Int):=by omega
  have hr:=rest_at s a hlt
  obtain⟨c,hc⟩:∃ c,s[a]=c:=⟨_,rfl⟩
  rw [hc] at hr
  rw [hr]
  obtain⟨R,eR⟩:∃ R,badH (c :: rest s (a+1))=R:=⟨_,rfl⟩
  have K:Hid (R=(goB c || upB c)):=eR.symm
  rw [eR]
  clear hr eR
  cases b1:letB c
  ·by_cases u1:65≤c.toNat
   ·by_cases u2:c.toNat≤90
    ·have hu:upB c=true:=by unfold upB; exact decide_eq_true ⟨u1,u2⟩
     have KR:Hid (R=true):=by show _=_; rw [K.out,hu,Bool.or_true]
     have u1':(65:Int)≤(c.toNat:Int):=by omega
     have u2':(c.toNat:Int)≤90:=by omega
     clear K
     go_enter Tryz.func244,Tryz.ntmps244
     go_wp2_with (first | (go_at_call 227; refine (isLetter_b b1 _).mono ?_; rintro _ v ⟨rfl,e⟩; obtain rfl:=e.symm) | (go_at_call 229; refine (isDigit_any _ _).mono ?_; rintro _ v ⟨rfl,e⟩; obtain rfl:=e.symm))
     all_goals go_ret
     all_goals exact⟨retB (by rw [KR.out]),rfl⟩
    ·have hu:upB c=false:=by unfold upB; exact decide_eq_false (by omega)
     have b2:digB c=false:=by unfold digB; exact decide_eq_false (by omega)
     have KR:Hid (R=((c.toNat:Int) == 95)):=by
      show _=_
      rw [K.out,hu]
      unfold goB
      rw [b1,b2]
      by_cases h:c.toNat=95
      ·rw [h]; rfl
      ·rw [show ((c.toNat:Int) == 95)=false from beq_false_of_ne (by omega),decide_eq_false h]; rfl
     have u1':(65:Int)≤(c.toNat:Int):=by omega
     have u2':¬ (c.toNat:Int)≤90:=by omega
     clear K
     go_enter Tryz.func244,Tryz.ntmps244
     go_wp2_with (first | (go_at_call 227; refine (isLetter_b b1 _).mono ?_; rintro _ v ⟨rfl,e⟩; obtain rfl:=e.symm) | (go_at_call 229; refine (isDigit_b b2 _).mono ?_; rintro _ v ⟨rfl,e⟩; obtain rfl:=e.symm))
     all_goals go_ret
     all_goals exact⟨retB (by rw [KR.out,decide_eq_false (by omega)]; rfl),rfl⟩
   ·have hu:upB c=false:=by unfold upB; exact decide_eq_false (by omega)
    have u1':¬ (65:Int)≤(c.toNat:Int):=by omega
    cases b2:digB c
    ·have KR:Hid (R=false):=by
      show _=_
      rw [K.out,hu]
      unfold goB
      rw [b1,b2,decide_eq_false (by omega)]; rfl
     have x95:((c.toNat:Int) == 95)=false:=beq_false_of_ne (by omega)
     clear K
     go_enter Tryz.func244,Tryz.ntmps244
     go_wp2_with (first | (go_at_call 227; refine (isLetter_b b1 _).mono ?_; rintro _ v ⟨rfl,e⟩; obtain rfl:=e.symm) | (go_at_call 229; refine (isDigit_b b2 _).mono ?_; rintro _ v ⟨rfl,e⟩; obtain rfl:=e.symm))
     all_goals go_ret
     all_goals exact⟨retB (by rw [KR.out]),rfl⟩
    ·have KR:Hid (R=true):=by
      show _=_
      rw [K.out]
      unfold goB
      rw [b2]; simp
     clear K
     go_enter Tryz.func244,Tryz.ntmps244
     go_wp2_with (first | (go_at_call 227; refine (isLetter_b b1 _).mono ?_; rintro _ v ⟨rfl,e⟩; obtain rfl:=e.symm) | (go_at_call 229; refine (isDigit_b b2 _).mono ?_; rintro _ v ⟨rfl,e⟩; obtain rfl:=e.symm))
     all_goals go_ret
     all_goals exact⟨retB (by rw [KR.out]),rfl⟩
  ·have KR:Hid (R=true):=by
    show _=_
    rw [K.out]
    unfold goB
    rw [b1]; simp
   clear K
   go_enter Tryz.func244,Tryz.ntmps244
   go_wp2_with (go_at_call 227; refine (isLetter_b b1 _).mono ?_; rintro _ v ⟨rfl,e⟩; obtain rfl:=e.symm)
   all_goals go_ret
   all_goals exact⟨retB (by rw [KR.out]),rfl⟩
 ·obtain rfl:a=s.size:=by omega
  rw [rest_end s s.size (Nat.le_refl _)]
  go_enter Tryz.func244,Tryz.ntmps244
  go_wp2_with fail
  go_ret
  exact⟨rfl,rfl⟩
theorem worth_any (x:yB) (hx:x.size≤140737488355328) (hd:∀ c ∈ rest x 0,digB c=true) (w:yW) :
  Calls zG 242 #[.string x] w fun e w'=>e=.returned (.tuple #[zI (wvN (wv (rest x 0) 0)),.bool (wv (rest x 0) 0).isSome])∧w'=w:=by
 obtain⟨o,ho⟩:∃ o,wv (rest x 0) 0=o:=⟨_,rfl⟩
 have HO:Hid (wv (rest x 0) 0=o):=ho
 have HD:Hid (∀ c ∈ rest x 0,digB c=true):=hd
 rw [ho]
 clear ho hd
 go_enter Tryz.func242,Tryz.ntmps242
 go_wp2_with fail
 go_loop [4,9] (fun t u=>∃ i n:Nat,i≤x.size∧u=zI i∧t=zI n∧n≤9223372036854775807∧Hid (wv (rest x i) n=o)) (fun _ u=>x.size - (intOf u).toNat)
 case atStart=>exact⟨0,0,by omega,rfl,rfl,by omega,HO⟩
 case round =>
  obtain⟨i,n,hi,rfl,rfl,hn,HR⟩:=hrel
  clear HO
  by_cases hlt:i < x.size
  ·have hlt':(i:Int) < (x.size:Int):=by omega
   have hr:=rest_at x i hlt
   obtain⟨c,hc⟩:∃ c,x[i]=c:=⟨_,rfl⟩
   rw [hc] at hr
   have hdc:digB c=true:=by
    refine HD.out c ?_
    have:rest x i=(rest x 0).drop i:=by unfold rest; simp
    exact List.mem_of_mem_drop (i:=i) (by rw [← this,hr]; simp)
   obtain⟨k1,k2⟩:48≤c.toNat∧c.toNat≤57:=by unfold digB at hdc; exact of_decide_eq_true hdc
   obtain⟨g,hg⟩:∃ g:Nat,c.toNat=g+48:=⟨c.toNat - 48,by omega⟩
   have hgI:(c.toNat:Int) - 48=(g:Int):=by omega
   have K:Hid (wv (rest x i) n=if 10 * n+g > 9223372036854775807 then none else wv (rest x (i+1)) (10 * n+g)):=by
    show _=_
    rw [hr,wv,show c.toNat - 48=g by omega]
   have k1':(48:Int)≤(c.toNat:Int):=by omega
   have hg9:g≤9:=by omega
   clear hr hdc
   by_cases hb:10 * n+g > 9223372036854775807
   ·have hb':(9223372036854775807 - (g:Int)) / 10 < (n:Int):=by omega
    have KO:Hid (o=none):=by show _=_; rw [← HR.out,K.out,if_pos hb]
    clear K HR
    go_wp2_with fail
    exact bodyPost_ret (results_t2 (p:=2) (u:=3) rfl _ _) rfl ⟨by rw [KO.out]; rfl,rfl⟩
   ·have hb':¬ (9223372036854775807 - (g:Int)) / 10 < (n:Int):=by omega
    have KO:Hid (wv (rest x (i+1)) (10 * n+g)=o):=by show _=_; rw [← HR.out,K.out,if_neg hb]
    clear K HR
    go_wp2_with fail
    exact⟨⟨i+1,10 * n+g,by omega,by go_num,by rw [show (n:Int) * 10+(g:Int)=((10 * n+g:Nat):Int) by omega],by omega,KO⟩,by simp only [intOf]; omega⟩
  ·obtain rfl:i=x.size:=by omega
   have hn':¬ (x.size:Int) < (x.size:Int):=by omega
   have KO:Hid (o=some n):=by show _=_; rw [← HR.out,rest_end x x.size (Nat.le_refl _)]; rfl
   clear HR
   go_wp2_with fail
   exact bodyPost_ret (results_t2 (p:=2) (u:=3) rfl _ _) rfl ⟨by rw [KO.out]; rfl,rfl⟩
def tkP (a:Nat):Tk:=⟨0,⟨#[]⟩,0,0,a⟩
def pnT (s:yB) (a:Nat):Tk:=if nmE s a=0 then nmT s a else tkP a
theorem wordp_any (s:yB) (a:Nat) (hs:s.size≤140737488355328) (ha:a≤s.size) (w:yW) (ht:Tab w) :
  Calls zG 228 #[.string s,zI a] w fun e w'=>e=.returned (.tuple #[.agg (tkA (pnT s a)),zI (nmE s a)])∧yD w w':=by
 obtain⟨d,hd⟩:∃ d,a+lead goB (rest s a)=d:=⟨_,rfl⟩
 have hd1:a≤d:=by omega
 have hd2:d≤s.size:=by have:=lead_le goB (rest s a); rw [rest_len] at this; omega
 have HT:Hid (nmT s a=if d - a > 16 then tk0 else ⟨if isW (s.extract a d)=true then 1 else 2,s.extract a d,0,0,a⟩):=by show _=_; unfold nmT; rw [hd,show lead goB (rest s a)=d - a by omega]
 have HE:Hid (nmE s a=if d - a > 16 then 112 else 0):=by show _=_; unfold nmE; rw [show lead goB (rest s a)=d - a by omega]
 have HD:Hid (d=a+lead goB (rest s a)):=hd.symm
 have hS0:(w.alloc (.cells #[.string s] 9)).heap[w§]? = (zC #[.string s] 9):=heap_new w _
 have hB0:=below_two w (.cells #[.string s] 9) (.cells (tkA tk0) 233)
 have hR0:TkH ((w.alloc (.cells #[.string s] 9)).alloc (.cells (tkA tk0) 233)) (w§+1) tk0:=by rw [← size_alloc w (.cells #[.string s] 9)]; exact heap_new _ _
 have hS1:((w.alloc (.cells #[.string s] 9)).alloc (.cells (tkA tk0) 233)).heap[w§]? = (zC #[.string s] 9):=heap_old hS0 (by rw [size_alloc]; omega)
 have hz0:((w.alloc (.cells #[.string s] 9)).alloc (.cells (tkA tk0) 233))§=w§+2:=by rw [size_alloc,size_alloc]
 have hT0:=ht.on hB0
 obtain⟨W,eW⟩:∃ W,(w.alloc (.cells #[.string s] 9)).alloc (.cells (tkA tk0) 233)=W:=⟨_,rfl⟩
 rw [eW] at hB0 hR0 hS1 hz0 hT0
 have hc:=cell_of hS1 0
 have HRR:=hR0.hid
 have HTab:=hT0.hid
 have HB:Hid (yD w W):=hB0
 have cR:=reachW_any s a w§ hs ha W hc d HD
 unfold tkA tk0 at eW
 dsimp only at eW
 clear hd ht hS0 hS1 hT0 hR0 hB0 HD
 go_enter Tryz.func228,Tryz.ntmps228
 go_wp2_with fail
 clear eW
 refine cR.mono ?_
 rintro _ v ⟨rfl,e⟩
 obtain rfl:=e.symm
 clear cR
 by_cases h16:d - a > 16
 ·have h16':(16:Int) < (d:Int) - (a:Int):=by omega
  have KE:Hid (nmE s a=112):=by show _=_; rw [HE.out,if_pos h16]
  have KT:Hid (pnT s a=tkP a):=by show _=_; unfold pnT; rw [KE.out,if_neg (by decide)]
  obtain⟨r0,r1,r2,r3,r4⟩:=HRR.out.cells
  obtain⟨f0,f1,f2,f3,f4⟩:=HRR.out.froz
  clear HT HE
  go_wp2_with fail
  exact bodyPost_ret (results_two (p:=4) (u:=5) (ty:=233) rfl _ _ (w§+1) 233 (tkA (tkP a)) (0,0) _ rfl (HRR.out.put (tkP a)) Tryz.underlying233 rfl zK) rfl ⟨by rw [KT.out,KE.out]; rfl,below_put HB.out (by omega) _ _ _ _ _⟩
 ·have h16':¬ (16:Int) < (d:Int) - (a:Int):=by omega
  have KE:Hid (nmE s a=0):=by show _=_; rw [HE.out,if_neg h16]
  obtain⟨x,ex⟩:∃ x,s.extract a d=x:=⟨_,rfl⟩
  have KT:Hid (pnT s a=⟨if isW x=true then 1 else 2,x,0,0,a⟩):=by show _=_; unfold pnT; rw [KE.out,if_pos rfl,HT.out,if_neg h16,ex]
  have hY:TkH (W.alloc (.cells (tkA ⟨2,x,0,0,a⟩) 233)) W§ ⟨2,x,0,0,a⟩:=heap_new W _
  rw [hz0] at hY
  have hR:TkH (W.alloc (.cells (tkA ⟨2,x,0,0,a⟩) 233)) (w§+1) tk0:=heap_old HRR.out HRR.out.lt
  have hB2:=HB.out.alloc HB.out.size (.cells (tkA ⟨2,x,0,0,a⟩) 233)
  have hT2:=HTab.out.on (below_new W (.cells (tkA ⟨2,x,0,0,a⟩) 233))
  obtain⟨V,eV⟩:∃ V,W.alloc (.cells (tkA ⟨2,x,0,0,a⟩) 233)=V:=⟨_,rfl⟩
  rw [eV] at hY hR hB2 hT2
  have HY:=hY.hid
  have HR2:=hR.hid
  have HB2:Hid (yD w V):=hB2
  have cW:=wordP_any x V hT2
  unfold tkA at eV
  dsimp only at eV
  clear HT HE hY hR hB2 hT2
  obtain⟨z0,z1,z2,z3,z4⟩:=HY.out.cells
  go_wp2_with fail
  clear eV
  refine cW.mono ?_
  rintro _ v ⟨rfl,e⟩
  obtain rfl:=e.symm
  clear cW
  cases hw:isW x
  ·have KT2:Hid (pnT s a=⟨2,x,0,0,a⟩):=by show _=_; rw [KT.out,hw]; rfl
   obtain⟨r0,r1,r2,r3,r4⟩:=HR2.out.cells
   obtain⟨f0,f1,f2,f3,f4⟩:=HR2.out.froz
   clear KT
   go_wp2_with fail
   exact bodyPost_ret (results_two (p:=4) (u:=5) (ty:=233) rfl _ _ (w§+1) 233 (tkA ⟨2,x,0,0,a⟩) (0,0) _ rfl (HR2.out.put ⟨2,x,0,0,a⟩) Tryz.underlying233 rfl zK) rfl ⟨by rw [KT2.out,KE.out]; rfl,below_put HB2.out (by omega) _ _ _ _ _⟩
  ·have KT2:Hid (pnT s a=⟨1,x,0,0,a⟩):=by show _=_; rw [KT.out,hw]; rfl
   obtain⟨U,eU⟩:∃ U,V.setCell ⟨w§+2,0,none⟩ (zU 1)=U:=⟨_,rfl⟩
   have HY3:Hid (TkH U (w§+2) ⟨1,x,0,0,a⟩):=by show TkH U _ _; rw [← eU]; exact heap_set _ HY.out
   have HR3:Hid (TkH U (w§+1) tk0):=by show TkH U _ _; rw [← eU]; exact (Below.heap_setCell _ _ _ _ (by simp)).trans HR2.out
   have hB4:yD w U:=by rw [← eU]; exact HB2.out.setCell (p:=⟨w§+2,0,none⟩) (by simp) _
   obtain⟨g0,g1,g2,g3,g4⟩:=HY.out.froz
   obtain⟨y0,y1,y2,y3,y4⟩:=HY3.out.cells
   obtain⟨r0,r1,r2,r3,r4⟩:=HR3.out.cells
   obtain⟨f0,f1,f2,f3,f4⟩:=HR3.out.froz
   clear KT
   go_wp2_with fail
   exact bodyPost_ret (results_two (p:=4) (u:=5) (ty:=233) rfl _ _ (w§+1) 233 (tkA ⟨1,x,0,0,a⟩) (0,0) _ rfl (HR3.out.put ⟨1,x,0,0,a⟩) Tryz.underlying233 rfl zK) rfl ⟨by rw [KT2.out,KE.out]; rfl,below_put hB4 (by omega) _ _ _ _ _⟩
def pbT (s:yB) (a:Nat):Tk:=if nbE s a=0 then nbT s a else tkP a
theorem pb_no {s:yB}{a:Nat}(h:nbO s a=none):Hid (pbT s a=tkP a∧nbE s a=113):=by
 obtain⟨_,h2⟩:=(nb_no h).out
 exact⟨by unfold pbT; rw [h2,if_neg (by decide)],h2⟩
theorem pb_yes {s:yB}{a n e:Nat}{ty:Int}(h:nbO s a=some (n,e,ty)):Hid (pbT s a=⟨3,s.extract a e,ty,n,a⟩∧nbE s a=0):=by
 obtain⟨h1,h2⟩:=(nb_yes h).out
 exact⟨by unfold pbT; rw [h2,if_pos rfl,h1],h2⟩
def nbM (o:Option Nat) (g bg:Bool) (e:Nat) (ty:Int):Option (Nat × Nat × Int):=match o with | none=>none | some n=>if g=true then none else if bg=true then none else some (n,e,ty)
theorem nbM_of {s:yB}{a d e:Nat}(hd:d=a+lead digB (rest s a)) (he:e=if nbTy (rest s d)=1 then d else d+1) :
  nbO s a=nbM (wv ((rest s a).take (lead digB (rest s a))) 0) (decide (d - a > 1) && hd0 (rest s a)) (badH (rest s e)) e (nbTy (rest s d)):=by
 rw [nbO_parts s a d e hd he]
 unfold nbM
 cases wv ((rest s a).take (lead digB (rest s a))) 0 with
 | none=>rfl
 | some n =>
  simp only
  by_cases h:d - a > 1∧hd0 (rest s a)=true
  ·rw [if_pos h,if_pos (by rw [decide_eq_true h.1,h.2]; rfl)]
  ·have h2:(decide (d - a > 1) && hd0 (rest s a))=false:=by
    by_cases h1:d - a > 1
    ·rw [decide_eq_true h1,Bool.true_and]
     cases hh:hd0 (rest s a)
     ·rfl
     ·exact absurd ⟨h1,hh⟩ h
    ·rw [decide_eq_false h1]; rfl
   rw [if_neg h,h2]; rfl
theorem box_two (s:yB) (w:yW):∃ W,(w.alloc (.cells #[.string s] 9)).alloc (.cells zt 233)=W ∧
  Hid (TkH W (w§+1) tk0)∧W.cell? w§¢0=some (.string s)∧Hid (yD w W)∧W§=w§+2:=by
 refine⟨_,rfl,?_,?_,below_two w _ _,by rw [size_alloc,size_alloc]⟩
 ·show TkH _ _ _
  have:=heap_new (w.alloc (.cells #[.string s] 9)) (.cells (tkA tk0) 233)
  rw [size_alloc] at this
  exact this
 ·exact cell_of (heap_old (heap_new w (.cells #[.string s] 9)) (by rw [size_alloc]; omega)) 0
theorem numberp_any (s:yB) (a:Nat) (hs:s.size≤140737488355328) (ha:a < s.size) (hdg:hdB digB (rest s a)=true) (w:yW) :
  Calls zG 230 #[.string s,zI a] w fun e w'=>e=.returned (.tuple #[.agg (tkA (pbT s a)),zI (nbE s a)])∧yD w w':=by
 obtain⟨d,hd⟩:∃ d,d=a+lead digB (rest s a):=⟨_,rfl⟩
 obtain⟨e,he⟩:∃ e,e=if nbTy (rest s d)=1 then d else d+1:=⟨_,rfl⟩
 have hp0:=lead_pos hdg
 have hd1:a≤d:=by omega
 have hd2:d≤s.size:=by have:=lead_le digB (rest s a); rw [rest_len] at this; omega
 have he1:a≤e:=by rw [he]; split <;> omega
 have he2:e≤s.size:=by
  rw [he]
  by_cases h:nbTy (rest s d)=1
  ·rw [if_pos h]; exact hd2
  ·rw [if_neg h]; exact nbTy_nil h
 obtain⟨x,ex⟩:∃ x,s.extract a d=x:=⟨_,rfl⟩
 have hxl:x.data.toList=(rest s a).take (lead digB (rest s a)):=by rw [← ex,hd]; exact ext_list _ _ _
 have hx0:rest x 0=(rest s a).take (lead digB (rest s a)):=by rw [← hxl]; unfold rest; simp
 have hxs:x.size=d - a:=by rw [← ex]; exact ext_size s a d hd2
 have hx00:hd0 (rest x 0)=hd0 (rest s a):=by rw [hx0]; exact hd0_take hp0 _
 have hO:=nbM_of hd he
 rw [← hx0,← hx00] at hO
 have cT:=typed_any s d hs hd2
 rw [← he] at cT
 have cW:=worth_any x (by omega) (fun c hc=>by rw [hx0] at hc; exact lead_all _ c hc)
 have cP:=isPadded_any x (by omega)
 have cG:=isGlued_any s e he2
 obtain⟨W,eW,HR,hc,HB,hz⟩:=box_two s w
 have cR:=reachN_any s a w§ hs (Nat.le_of_lt ha) W hc d hd
 obtain⟨o,ho⟩:∃ o,wv (rest x 0) 0=o:=⟨_,rfl⟩
 rw [ho] at hO cW
 obtain⟨ty,hty⟩:∃ ty,nbTy (rest s d)=ty:=⟨_,rfl⟩
 rw [hty] at hO cT
 rw [hxs] at cP
 obtain⟨bp,hbp⟩:∃ bp,(decide (d - a > 1) && hd0 (rest x 0))=bp:=⟨_,rfl⟩
 rw [hbp] at hO cP
 obtain⟨bg,hbg⟩:∃ bg,badH (rest s e)=bg:=⟨_,rfl⟩
 rw [hbg] at hO cG
 have HO:Hid (nbO s a=nbM o bp bg e ty):=hO
 obtain⟨r0,r1,r2,r3,r4⟩:=HR.out.cells
 obtain⟨f0,f1,f2,f3,f4⟩:=HR.out.froz
 clear hO hd he hp0 hxl hx0 hx00 ho hty hbp hbg hdg
 cases o with
 | none =>
  have K:=pb_no HO.out
  simp only [Option.isSome,wvN] at cW
  clear HO
  go_enter Tryz.func230,Tryz.ntmps230
  go_wp2_with (first | (go_at_call 237; refine cR.mono ?_; rintro _ v ⟨rfl,q⟩; obtain rfl:=q.symm) | (go_at_call 241; refine (cT _).mono ?_; rintro _ v ⟨rfl,q⟩; obtain rfl:=q.symm) | (go_at_call 242; refine (cW _).mono ?_; rintro _ v ⟨rfl,q⟩; obtain rfl:=q.symm) | (go_at_call 243; refine (cP _).mono ?_; rintro _ v ⟨rfl,q⟩; obtain rfl:=q.symm) | (go_at_call 244; refine (cG _).mono ?_; rintro _ v ⟨rfl,q⟩; obtain rfl:=q.symm))
  exact bodyPost_ret (results_two (p:=4) (u:=5) (ty:=233) rfl _ _ (w§+1) 233 (tkA (tkP a)) (0,0) _ rfl (HR.out.put (tkP a)) Tryz.underlying233 rfl zK) rfl ⟨by rw [K.out.1,K.out.2]; rfl,below_put HB.out (by omega) _ _ _ _ _⟩
 | some n =>
  simp only [Option.isSome,wvN] at cW
  cases bp
  ·cases bg
   ·have K:=pb_yes HO.out
    obtain⟨y,ey⟩:∃ y,s.extract a e=y:=⟨_,rfl⟩
    rw [ey] at K
    clear HO
    go_enter Tryz.func230,Tryz.ntmps230
    go_wp2_with (first | (go_at_call 237; refine cR.mono ?_; rintro _ v ⟨rfl,q⟩; obtain rfl:=q.symm) | (go_at_call 241; refine (cT _).mono ?_; rintro _ v ⟨rfl,q⟩; obtain rfl:=q.symm) | (go_at_call 242; refine (cW _).mono ?_; rintro _ v ⟨rfl,q⟩; obtain rfl:=q.symm) | (go_at_call 243; refine (cP _).mono ?_; rintro _ v ⟨rfl,q⟩; obtain rfl:=q.symm) | (go_at_call 244; refine (cG _).mono ?_; rintro _ v ⟨rfl,q⟩; obtain rfl:=q.symm))
    exact bodyPost_ret (results_two (p:=4) (u:=5) (ty:=233) rfl _ _ (w§+1) 233 (tkA ⟨3,y,ty,n,a⟩) (0,0) _ rfl (HR.out.put ⟨3,y,ty,n,a⟩) Tryz.underlying233 rfl zK) rfl ⟨by rw [K.out.1,K.out.2]; rfl,below_put HB.out (by omega) _ _ _ _ _⟩
   ·have K:=pb_no HO.out
    clear HO
    go_enter Tryz.func230,Tryz.ntmps230
    go_wp2_with (first | (go_at_call 237; refine cR.mono ?_; rintro _ v ⟨rfl,q⟩; obtain rfl:=q.symm) | (go_at_call 241; refine (cT _).mono ?_; rintro _ v ⟨rfl,q⟩; obtain rfl:=q.symm) | (go_at_call 242; refine (cW _).mono ?_; rintro _ v ⟨rfl,q⟩; obtain rfl:=q.symm) | (go_at_call 243; refine (cP _).mono ?_; rintro _ v ⟨rfl,q⟩; obtain rfl:=q.symm) | (go_at_call 244; refine (cG _).mono ?_; rintro _ v ⟨rfl,q⟩; obtain rfl:=q.symm))
    exact bodyPost_ret (results_two (p:=4) (u:=5) (ty:=233) rfl _ _ (w§+1) 233 (tkA (tkP a)) (0,0) _ rfl (HR.out.put (tkP a)) Tryz.underlying233 rfl zK) rfl ⟨by rw [K.out.1,K.out.2]; rfl,below_put HB.out (by omega) _ _ _ _ _⟩
  ·have K:=pb_no HO.out
   clear HO
   go_enter Tryz.func230,Tryz.ntmps230
   go_wp2_with (first | (go_at_call 237; refine cR.mono ?_; rintro _ v ⟨rfl,q⟩; obtain rfl:=q.symm) | (go_at_call 241; refine (cT _).mono ?_; rintro _ v ⟨rfl,q⟩; obtain rfl:=q.symm) | (go_at_call 242; refine (cW _).mono ?_; rintro _ v ⟨rfl,q⟩; obtain rfl:=q.symm) | (go_at_call 243; refine (cP _).mono ?_; rintro _ v ⟨rfl,q⟩; obtain rfl:=q.symm) | (go_at_call 244; refine (cG _).mono ?_; rintro _ v ⟨rfl,q⟩; obtain rfl:=q.symm))
   exact bodyPost_ret (results_two (p:=4) (u:=5) (ty:=233) rfl _ _ (w§+1) 233 (tkA (tkP a)) (0,0) _ rfl (HR.out.put (tkP a)) Tryz.underlying233 rfl zK) rfl ⟨by rw [K.out.1,K.out.2]; rfl,below_put HB.out (by omega) _ _ _ _ _⟩
def pairB (s:yB) (a:Nat):Bool:=(List.range 6).any (mkB s a)
theorem mk_two (i:Nat) (h:i < 6):(mk i).size=2:=by
 have:∀ i,i < 6→(mk i).size=2:=by decide
 exact this i h
theorem mk_one (i:Nat) (h:6≤i) (h2:i < 23):(mk i).size=1:=by
 have:∀ i,i < 23→6≤i→(mk i).size=1:=by decide
 exact this i h2 h
theorem mkB_two {s:yB}{a:Nat}(h:a+2≤s.size) (i:Nat) (hi:i < 6):mkB s a i=((s.extract a (a+2)).toList == (mk i).data.toList):=by
 unfold mkB
 rw [mk_two i hi,decide_eq_true h,ByteArray.toList_eq,Bool.true_and]
theorem pairB_of {s:yB}{a:Nat}(h:a+2≤s.size) {x:yB}(hx:s.extract a (a+2)=x):pairB s a=((x.toList == [61,61]) || ((x.toList == [33,61]) || ((x.toList == [60,61]) || ((x.toList == [62,61]) || ((x.toList == [38,38]) || (x.toList == [124,124])))))):=by
 unfold pairB
 have e:∀ i,i < 6→mkB s a i=(x.toList == (mk i).data.toList):=fun i hi=>by rw [mkB_two h i hi,hx]
 rw [show List.range 6 = [0,1,2,3,4,5] from rfl]
 simp only [List.any_cons,List.any_nil,Bool.or_false]
 rw [e 0 (by decide),e 1 (by decide),e 2 (by decide),e 3 (by decide),e 4 (by decide),e 5 (by decide)]
 rfl
theorem pairB_short {s:yB}{a:Nat}(h:¬ a+2≤s.size):pairB s a=false:=by
 unfold pairB
 rw [List.any_eq_false]
 intro i hi
 have hi6:i < 6:=by simpa using hi
 unfold mkB
 rw [mk_two i hi6,decide_eq_false h]
 simp
theorem isPair_any (s:yB) (a:Nat) (hs:s.size≤140737488355328) (ha:a≤s.size) (w:yW) :
  Calls zG 245 #[.string s,zI a] w fun e w'=>e=.returned (.bool (pairB s a))∧w'=w:=by
 by_cases h:a+2≤s.size
 ·obtain⟨d,hd⟩:∃ d,d=a+2:=⟨_,rfl⟩
  have hdI:(a:Int)+2=(d:Int):=by omega
  have hd1:a≤d:=by omega
  have hd2:d≤s.size:=by omega
  have h':¬ (s.size:Int) < (d:Int):=by omega
  obtain⟨x,ex⟩:∃ x,s.extract a d=x:=⟨_,rfl⟩
  have hP:=pairB_of h (x:=x) (by rw [← hd]; exact ex)
  obtain⟨b,eb⟩:∃ b,pairB s a=b:=⟨_,rfl⟩
  rw [eb] at hP ⊢
  have KB:Hid (b=((x.toList == [61,61]) || ((x.toList == [33,61]) || ((x.toList == [60,61]) || ((x.toList == [62,61]) || ((x.toList == [38,38]) || (x.toList == [124,124]))))))):=hP
  clear hd h hP eb
  cases q0:(x.toList == [61,61])
  ·cases q1:(x.toList == [33,61])
   ·cases q2:(x.toList == [60,61])
    ·cases q3:(x.toList == [62,61])
     ·cases q4:(x.toList == [38,38])
      ·cases q5:(x.toList == [124,124])
       ·have KB2:Hid (b=false):=by show _=_; rw [KB.out,q0,q1,q2,q3,q4,q5]; rfl
        clear KB
        go_enter Tryz.func245,Tryz.ntmps245
        go_wp2_with fail
        go_ret
        exact⟨retB (by rw [KB2.out]),rfl⟩
       ·have KB2:Hid (b=true):=by show _=_; rw [KB.out,q0,q1,q2,q3,q4,q5]; simp
        clear KB
        go_enter Tryz.func245,Tryz.ntmps245
        go_wp2_with fail
        go_ret
        exact⟨retB (by rw [KB2.out]),rfl⟩
      ·have KB2:Hid (b=true):=by show _=_; rw [KB.out,q0,q1,q2,q3,q4]; simp
       clear KB
       go_enter Tryz.func245,Tryz.ntmps245
       go_wp2_with fail
       go_ret
       exact⟨retB (by rw [KB2.out]),rfl⟩
     ·have KB2:Hid (b=true):=by show _=_; rw [KB.out,q0,q1,q2,q3]; simp
      clear KB
      go_enter Tryz.func245,Tryz.ntmps245
      go_wp2_with fail
      go_ret
      exact⟨retB (by rw [KB2.out]),rfl⟩
    ·have KB2:Hid (b=true):=by show _=_; rw [KB.out,q0,q1,q2]; simp
     clear KB
     go_enter Tryz.func245,Tryz.ntmps245
     go_wp2_with fail
     go_ret
     exact⟨retB (by rw [KB2.out]),rfl⟩
   ·have KB2:Hid (b=true):=by show _=_; rw [KB.out,q0,q1]; simp
    clear KB
    go_enter Tryz.func245,Tryz.ntmps245
    go_wp2_with fail
    go_ret
    exact⟨retB (by rw [KB2.out]),rfl⟩
  ·have KB2:Hid (b=true):=by show _=_; rw [KB.out,q0]; simp
   clear KB
   go_enter Tryz.func245,Tryz.ntmps245
   go_wp2_with fail
   go_ret
   exact⟨retB (by rw [KB2.out]),rfl⟩
 ·have h':(s.size:Int) < (a:Int)+2:=by omega
  rw [pairB_short h]
  go_enter Tryz.func245,Tryz.ntmps245
  go_wp2_with fail
  go_ret
  exact⟨rfl,rfl⟩
def marks1:List UInt8:=[123,125,40,41,44,59,63,58,61,33,60,62,43,45,42,47,37]
theorem index_mem:∀ (l:List UInt8) (c:UInt8),c ∈ l→0≤Lib.indexByte l c
 | [],c,h=>by simp at h
 | b :: l,c,h=>by
  unfold Lib.indexByte
  by_cases hb:b == c
  ·rw [if_pos hb]; exact Int.le_refl _
  ·rw [if_neg hb]
   rw [List.mem_cons] at h
   rcases h with rfl | h
   ·simp at hb
   ·have:=index_mem l c h
    rw [if_neg (by simp; omega)]; omega
theorem index_no:∀ (l:List UInt8) (c:UInt8),c ∉ l→Lib.indexByte l c = -1
 | [],c,h=>rfl
 | b :: l,c,h=>by
  rw [List.mem_cons,not_or] at h
  have:=index_no l c h.2
  unfold Lib.indexByte
  rw [if_neg (by simpa using (fun e:b=c=>h.1 e.symm)),this]
  rfl
theorem mkO_at {s:yB}{a i:Nat}(h:mkO s a=some i):i < 23∧mkB s a i=true∧∀ j,j < i→mkB s a j=false:=by
 unfold mkO at h
 rw [List.find?_range_eq_some] at h
 exact⟨by simpa using h.2.1,h.1,fun j hj=>by simpa using h.2.2 j hj⟩
theorem mkB_at {s:yB}{a i:Nat}(h:mkB s a i=true):a+(mk i).size≤s.size∧s.extract a (a+(mk i).size)=mk i:=by
 unfold mkB at h
 rw [Bool.and_eq_true] at h
 exact⟨of_decide_eq_true h.1,str_eq (by simpa using h.2)⟩
theorem mark_two {s:yB}{a:Nat}(h:pairB s a=true):a+2≤s.size∧mkT s a=⟨4,s.extract a (a+2),0,0,a⟩∧mkE s a=0:=by
 unfold pairB at h
 rw [List.any_eq_true] at h
 obtain⟨j,hj,hm⟩:=h
 have hj6:j < 6:=by simpa using hj
 cases ho:mkO s a with
 | none =>
  unfold mkO at ho
  rw [List.find?_eq_none] at ho
  exact absurd hm (ho j (by simp; omega))
 | some i =>
  obtain⟨h1,h2,h3⟩:=mkO_at ho
  have hi6:i < 6:=by
   by_cases hij:i≤j
   ·omega
   ·rw [h3 j (by omega)] at hm; cases hm
  obtain⟨h4,h5⟩:=mkB_at h2
  rw [mk_two i hi6] at h4 h5
  refine⟨h4,?_,?_⟩
  ·unfold mkT; rw [ho,h5]
  ·unfold mkE; rw [ho]
theorem ext_one {s:yB}{a:Nat}{c:UInt8}(ha:a < s.size) (hc:s[a]=c):s.extract a (a+1)=⟨#[c]⟩:=by
 rw [ext_eq,rest_at s a ha,hc]; rfl
theorem mark_one {s:yB}{a:Nat}{c:UInt8}(ha:a < s.size) (hc:s[a]=c) (h:pairB s a=false) (hm:c ∈ marks1):mkT s a=⟨4,s.extract a (a+1),0,0,a⟩∧mkE s a=0:=by
 have hex:=ext_one ha hc
 have hj:∃ j,6≤j∧j < 23∧mk j=⟨#[c]⟩:=by
  have:∀ c ∈ marks1,∃ j,j < 23∧(6≤j∧(mk j).data.toList = [c]):=by decide
  obtain⟨j,h1,h2,h3⟩:=this c hm
  exact⟨j,h2,h1,str_eq h3⟩
 obtain⟨j,j1,j2,j3⟩:=hj
 have hB:mkB s a j=true:=by
  unfold mkB
  rw [mk_one j j1 j2,hex,j3,decide_eq_true (by omega)]; simp
 cases ho:mkO s a with
 | none =>
  unfold mkO at ho
  rw [List.find?_eq_none] at ho
  exact absurd hB (ho j (by simp; omega))
 | some i =>
  obtain⟨h1,h2,_⟩:=mkO_at ho
  have hi6:6≤i:=by
   by_cases hi:6≤i
   ·exact hi
   ·unfold pairB at h
    rw [List.any_eq_false] at h
    exact absurd h2 (h i (by simp; omega))
  obtain⟨h4,h5⟩:=mkB_at h2
  rw [mk_one i hi6 h1] at h4 h5
  refine⟨?_,?_⟩
  ·unfold mkT; rw [ho,h5]
  ·unfold mkE; rw [ho]
theorem mark_no {s:yB}{a:Nat}{c:UInt8}(ha:a < s.size) (hc:s[a]=c) (h:pairB s a=false) (hm:c ∉ marks1):mkE s a=111:=by
 have hex:=ext_one ha hc
 cases ho:mkO s a with
 | none=>unfold mkE; rw [ho]
 | some i =>
  exfalso
  obtain⟨h1,h2,_⟩:=mkO_at ho
  have hi6:6≤i:=by
   by_cases hi:6≤i
   ·exact hi
   ·unfold pairB at h
    rw [List.any_eq_false] at h
    exact absurd h2 (h i (by simp; omega))
  obtain⟨h4,h5⟩:=mkB_at h2
  rw [mk_one i hi6 h1,hex] at h5
  have:∀ i,i < 23→6≤i→∀ c ∈ (mk i).data.toList,c ∈ marks1:=by decide
  exact hm (this i h1 hi6 c (by rw [← h5]; simp))
def pmT (s:yB) (a:Nat):Tk:=if mkE s a=0 then mkT s a else tkP a
theorem box_one (w:yW):∃ W,w.alloc (.cells zt 233)=W ∧
  Hid (TkH W w§ tk0)∧Hid (yD w W)∧W§=w§+1 :=
 ⟨_,rfl,heap_new w _,below_new w _,by rw [size_alloc]⟩
theorem markp_any (s:yB) (a:Nat) (hs:s.size≤140737488355328) (ha:a < s.size) (w:yW) :
  Calls zG 231 #[.string s,zI a] w fun e w'=>e=.returned (.tuple #[.agg (tkA (pmT s a)),zI (mkE s a)])∧yD w w':=by
 have haI:(a:Int) < (s.size:Int):=by omega
 obtain⟨c,hc⟩:∃ c,s[a]=c:=⟨_,rfl⟩
 have cI:=indexByte_any Zz (c.toNat:Int)
 have hcc:((c.toNat:Int)).toNat.toUInt8=c:=by simp
 have cP:=isPair_any s a hs (Nat.le_of_lt ha)
 obtain⟨W,eW,HR,HB,hz⟩:=box_one w
 obtain⟨r0,r1,r2,r3,r4⟩:=HR.out.cells
 obtain⟨f0,f1,f2,f3,f4⟩:=HR.out.froz
 cases hp:pairB s a
 ·rw [hp] at cP
  by_cases hm:c ∈ marks1
  ·obtain⟨m1,m2⟩:=mark_one ha hc hp hm
   have hi:0≤Lib.indexByte marks1 c:=index_mem _ _ hm
   obtain⟨g,hg⟩:∃ g,Lib.indexByte marks1 c=g:=⟨_,rfl⟩
   rw [hg] at hi
   have cI2:∀ w,Calls zG 246 #[.string Zz,zU (c.toNat:Int)] w fun e w'=>e=.returned (zI g)∧w'=w:=fun w=>by
    have:=cI w
    rw [hcc,show (ByteArray.mk #[123,125,40,41,44,59,63,58,61,33,60,62,43,45,42,47,37]).data.toList=marks1 from rfl,hg] at this
    exact this
   obtain⟨d,hd⟩:∃ d,d=a+1:=⟨_,rfl⟩
   have hdI:(a:Int)+1=(d:Int):=by omega
   have hd1:a≤d:=by omega
   have hd2:d≤s.size:=by omega
   obtain⟨x,ex⟩:∃ x,s.extract a d=x:=⟨_,rfl⟩
   have K:Hid (pmT s a=⟨4,x,0,0,a⟩∧mkE s a=0):=⟨by unfold pmT; rw [m2,if_pos rfl,m1,← hd,ex],m2⟩
   clear m1 m2 hd hm cI hg hcc hp
   go_enter Tryz.func231,Tryz.ntmps231
   go_wp2_with (first | (go_at_call 245; refine (cP _).mono ?_; rintro _ v ⟨rfl,q⟩; obtain rfl:=q.symm) | (go_at_call 246; refine (cI2 _).mono ?_; rintro _ v ⟨rfl,q⟩; obtain rfl:=q.symm))
   exact bodyPost_ret (results_two (p:=4) (u:=5) (ty:=233) rfl _ _ w§ 233 (tkA ⟨4,x,0,0,a⟩) (0,0) _ rfl (HR.out.put ⟨4,x,0,0,a⟩) Tryz.underlying233 rfl zK) rfl ⟨by rw [K.out.1,K.out.2]; rfl,below_put HB.out (Nat.le_refl _) _ _ _ _ _⟩
  ·have m2:=mark_no ha hc hp hm
   have hi:Lib.indexByte marks1 c = -1:=index_no _ _ hm
   have cI2:∀ w,Calls zG 246 #[.string Zz,zU (c.toNat:Int)] w fun e w'=>e=.returned (zI (-1))∧w'=w:=fun w=>by
    have:=cI w
    rw [hcc,show (ByteArray.mk #[123,125,40,41,44,59,63,58,61,33,60,62,43,45,42,47,37]).data.toList=marks1 from rfl,hi] at this
    exact this
   have K:Hid (pmT s a=tkP a∧mkE s a=111):=⟨by unfold pmT; rw [m2,if_neg (by decide)],m2⟩
   clear m2 hm cI hi hcc hp
   go_enter Tryz.func231,Tryz.ntmps231
   go_wp2_with (first | (go_at_call 245; refine (cP _).mono ?_; rintro _ v ⟨rfl,q⟩; obtain rfl:=q.symm) | (go_at_call 246; refine (cI2 _).mono ?_; rintro _ v ⟨rfl,q⟩; obtain rfl:=q.symm))
   exact bodyPost_ret (results_two (p:=4) (u:=5) (ty:=233) rfl _ _ w§ 233 (tkA (tkP a)) (0,0) _ rfl (HR.out.put (tkP a)) Tryz.underlying233 rfl zK) rfl ⟨by rw [K.out.1,K.out.2]; rfl,below_put HB.out (Nat.le_refl _) _ _ _ _ _⟩
 ·rw [hp] at cP
  obtain⟨m0,m1,m2⟩:=mark_two hp
  obtain⟨d,hd⟩:∃ d,d=a+2:=⟨_,rfl⟩
  have hdI:(a:Int)+2=(d:Int):=by omega
  have hd1:a≤d:=by omega
  have hd2:d≤s.size:=by omega
  obtain⟨x,ex⟩:∃ x,s.extract a d=x:=⟨_,rfl⟩
  have K:Hid (pmT s a=⟨4,x,0,0,a⟩∧mkE s a=0):=⟨by unfold pmT; rw [m2,if_pos rfl,m1,← hd,ex],m2⟩
  clear m0 m1 m2 hd cI hcc hp
  go_enter Tryz.func231,Tryz.ntmps231
  go_wp2_with (go_at_call 245; refine (cP _).mono ?_; rintro _ v ⟨rfl,q⟩; obtain rfl:=q.symm)
  exact bodyPost_ret (results_two (p:=4) (u:=5) (ty:=233) rfl _ _ w§ 233 (tkA ⟨4,x,0,0,a⟩) (0,0) _ rfl (HR.out.put ⟨4,x,0,0,a⟩) Tryz.underlying233 rfl zK) rfl ⟨by rw [K.out.1,K.out.2]; rfl,below_put HB.out (Nat.le_refl _) _ _ _ _ _⟩
theorem start_any (s:yB) (a:Nat) (hs:s.size≤140737488355328) (ha:a≤s.size) (d:Nat) (hd:Hid (d=a+ov (rest s a) false)) (w:yW) :
  Calls zG 226 #[.string s,zI a] w fun e w'=>e=.returned (zI d)∧w'=w:=by
 go_enter Tryz.func226,Tryz.ntmps226
 go_wp2_with fail
 go_step3
 go_wp2_with fail
 go_step3
 go_wp2_with fail
 go_loop [1,5] (fun t r=>∃ (i:Nat) (b:Bool),a≤i∧i≤s.size∧t=zI i∧r=.bool b∧Hid (d=i+ov (rest s i) b)) (fun t _=>s.size - (intOf t).toNat)
 case atStart=>exact⟨a,false,Nat.le_refl _,ha,rfl,rfl,hd⟩
 case round =>
  obtain⟨i,b,hi1,hi2,rfl,rfl,HR⟩:=hrel
  clear hd
  by_cases hlt:i < s.size
  ·have hlt':(i:Int) < (s.size:Int):=by omega
   have hr:=rest_at s i hlt
   obtain⟨c,hc⟩:∃ c,s[i]=c:=⟨_,rfl⟩
   rw [hc] at hr
   have hcl:=byte_lt c
   have hq:Hid (rest s i=c :: rest s (i+1)):=hr
   clear hr
   by_cases k10:c.toNat=10
   ·have x10:((c.toNat:Int) == 10)=true:=by rw [k10]; rfl
    have hs2:Hid (d=(i+1)+ov (rest s (i+1)) false):=by
     show _=_
     have e:remB b c=false:=by unfold remB; rw [if_neg (by omega),if_pos k10]
     have e2:blankB c=true:=by unfold blankB; simp [k10]
     rw [HR.out,hq.out,ov_go (by rw [e2]; simp),e]; omega
    go_wp2_with fail
    exact⟨⟨i+1,false,by omega,by omega,by go_num,rfl,hs2⟩,by simp only [intOf]; omega⟩
   ·have x10:((c.toNat:Int) == 10)=false:=beq_false_of_ne (by omega)
    by_cases kb:c.toNat=32∨c.toNat=9∨c.toNat=13
    ·have e:remB b c=b:=by unfold remB; rw [if_neg (by omega),if_neg (by omega)]
     have e2:blankB c=true:=by unfold blankB; simp; omega
     have hs2:Hid (d=(i+1)+ov (rest s (i+1)) b):=by
      show _=_
      rw [HR.out,hq.out,ov_go (by rw [e2]; simp),e]; omega
     clear e e2
     rcases kb with h | h | h
     ·have x32:((c.toNat:Int) == 32)=true:=by rw [h]; rfl
      go_wp2_with fail
      exact⟨⟨i+1,b,by omega,by omega,by go_num,rfl,hs2⟩,by simp only [intOf]; omega⟩
     ·have x32:((c.toNat:Int) == 32)=false:=beq_false_of_ne (by omega)
      have x9:((c.toNat:Int) == 9)=true:=by rw [h]; rfl
      go_wp2_with fail
      exact⟨⟨i+1,b,by omega,by omega,by go_num,rfl,hs2⟩,by simp only [intOf]; omega⟩
     ·have x32:((c.toNat:Int) == 32)=false:=beq_false_of_ne (by omega)
      have x9:((c.toNat:Int) == 9)=false:=beq_false_of_ne (by omega)
      have x13:((c.toNat:Int) == 13)=true:=by rw [h]; rfl
      go_wp2_with fail
      exact⟨⟨i+1,b,by omega,by omega,by go_num,rfl,hs2⟩,by simp only [intOf]; omega⟩
    ·have x32:((c.toNat:Int) == 32)=false:=beq_false_of_ne (by omega)
     have x9:((c.toNat:Int) == 9)=false:=beq_false_of_ne (by omega)
     have x13:((c.toNat:Int) == 13)=false:=beq_false_of_ne (by omega)
     have e2:blankB c=false:=by unfold blankB; simp; omega
     by_cases k35:c.toNat=35
     ·have x35:((c.toNat:Int) == 35)=true:=by rw [k35]; rfl
      have e:remB b c=true:=by unfold remB; rw [if_pos k35]
      have hs2:Hid (d=(i+1)+ov (rest s (i+1)) true):=by
       show _=_
       rw [HR.out,hq.out,ov_go (by rw [e]; simp),e]; omega
      clear e e2
      go_wp2_with fail
      exact⟨⟨i+1,true,by omega,by omega,by go_num,rfl,hs2⟩,by simp only [intOf]; omega⟩
     ·have x35:((c.toNat:Int) == 35)=false:=beq_false_of_ne (by omega)
      have e:remB b c=b:=by unfold remB; rw [if_neg k35,if_neg k10]
      cases b
      ·have hs2:Hid (i=d):=by show _=_; rw [HR.out,hq.out,ov_stop e e2]; omega
       clear e e2
       go_wp2_with fail
       go_ret
       exact⟨retI (by rw [hs2.out]),rfl⟩
      ·have hs2:Hid (d=(i+1)+ov (rest s (i+1)) true):=by
        show _=_
        rw [HR.out,hq.out,ov_go (by rw [e]; simp),e]; omega
       clear e e2
       go_wp2_with fail
       exact⟨⟨i+1,true,by omega,by omega,by go_num,rfl,hs2⟩,by simp only [intOf]; omega⟩
  ·have hn:¬ (i:Int) < (s.size:Int):=by omega
   have hs2:Hid (i=d):=by show _=_; rw [HR.out,rest_end s i (by omega)]; rfl
   go_wp2_with fail
   go_ret
   exact⟨retI (by rw [hs2.out]),rfl⟩
end Go.Proofs.YtfbjofnaghjmeaaGreatDoor
