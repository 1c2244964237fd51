import Derived.Test.YtoogodlnnijikaaGreatDoorA0
import Derived.Test.YtoogodlnnijikaaGreatDoorA1
import Derived.Lib.Bytealg
import Derived.LaidLaws
namespace Go.Proofs.YtoogodlnnijikaaGreatDoor
open Go.RowKit
def Tab (w : World) : Prop := w.var? Tryz.prog "tripwire/lex.words" = some wordsV
theorem words_global : Tryz.prog.globalNamed "tripwire/lex.words" = some 2 := by kernel_rfl
theorem Tab.on {w w':World}(h:Tab w) (hb:Below w§ w w'):Tab w':=by
 unfold Tab World.var? at *
 rw [words_global] at h ⊢
 simp only [Option.bind_some] at h ⊢
 have hlt:2 < w§:=by
  rcases Nat.lt_or_ge 2 w§ with h' | h'
  ·exact h'
  ·rw [Array.getElem?_eq_none h'] at h; simp at h
 rw [hb.block 2 hlt]
 exact h
theorem Tab.cell {w:World}(h:Tab w) (i:Nat) (hi:i < 41):w.cell? ⟨2,i,none⟩=some (.string (wd i)):=by
 have:=World.var?_cell words_global h i
 rw [this]
 unfold wordsV wd
 have hl:i < wordsL.length:=hi
 simp [List.getElem?_map,List.getElem?_eq_getElem hl,List.getD]
theorem Tab.hid {w:World}(h:Tab w):Hid (Tab w):=h
theorem isLetter_any (c:UInt8) (w:World):Calls zG 169 #[zU (c.toNat:Int)] w fun e w'=>e=.returned (.bool (letB c))∧w'=w:=by
 go_enter Tryz.func169,Tryz.ntmps169
 go_wp2
 all_goals go_ret
 all_goals refine⟨retB ?_,rfl⟩
 all_goals unfold letB
 ·have h:97≤c.toNat:=by omega
  by_cases h2:c.toNat≤122
  ·rw [decide_eq_true (show (c.toNat:Int)≤122 by omega),decide_eq_true ⟨h,h2⟩]
  ·rw [decide_eq_false (show ¬ (c.toNat:Int)≤122 by omega),decide_eq_false (fun k=>h2 k.2)]
 ·rw [decide_eq_false (by omega)]
theorem isDigit_any (c:UInt8) (w:World):Calls zG 171 #[zU (c.toNat:Int)] w fun e w'=>e=.returned (.bool (digB c))∧w'=w:=by
 go_enter Tryz.func171,Tryz.ntmps171
 go_wp2
 all_goals go_ret
 all_goals refine⟨retB ?_,rfl⟩
 all_goals unfold digB
 ·have h:48≤c.toNat:=by omega
  by_cases h2:c.toNat≤57
  ·rw [decide_eq_true (show (c.toNat:Int)≤57 by omega),decide_eq_true ⟨h,h2⟩]
  ·rw [decide_eq_false (show ¬ (c.toNat:Int)≤57 by omega),decide_eq_false (fun k=>h2 k.2)]
 ·rw [decide_eq_false (by omega)]
theorem isLetter_b {c:UInt8}{b:Bool}(h:letB c=b) (w:World):Calls zG 169 #[zU (c.toNat:Int)] w fun e w'=>e=.returned (.bool b)∧w'=w:=h ▸ isLetter_any c w
theorem isDigit_b {c:UInt8}{b:Bool}(h:digB c=b) (w:World):Calls zG 171 #[zU (c.toNat:Int)] w fun e w'=>e=.returned (.bool b)∧w'=w:=h ▸ isDigit_any c w
set_option maxRecDepth 100000 in
theorem slite_any (s:ByteArray) (c:Int) (w:World):Calls zG 193 #[.string s,zU c] w fun e w'=>e=.returned (zI (Lib.indexByte s.data.toList c.toNat.toUInt8))∧w'=w:=by
 go_enter Tryz.func193,Tryz.ntmps193
 go_wp2
 rw [run_callFunc_extern Tryz.func196 zK zK zK (e:=Extern.BytealgIndexByte.indexByte) zK,Lib.run_indexByteString]
 simp only [Result.andThen]
 rw [Oper.upon_value]
 go_wp2
 go_ret
 exact⟨rfl,rfl⟩
set_option maxRecDepth 100000 in
theorem indexByte_any (s:ByteArray) (c:Int) (w:World):Calls zG 190 #[.string s,zU c] w fun e w'=>e=.returned (zI (Lib.indexByte s.data.toList c.toNat.toUInt8))∧w'=w:=by
 go_enter Tryz.func190,Tryz.ntmps190
 go_wp2_with (go_at_call 193; refine (slite_any _ _ _).mono ?_; rintro e w' ⟨rfl,rfl⟩)
 go_ret
 exact⟨rfl,rfl⟩
set_option maxHeartbeats 2000000 in
theorem wordP_any (s:ByteArray) (w:World) (ht:Tab w):Calls zG 183 #[.string s] w fun e w'=>e=.returned (.bool (isW s))∧w'=w:=by
 have HC:Hid (∀ j,j < 41→w.cell? ⟨2,j,none⟩=some (.string (wd j))):=ht.cell
 clear ht
 go_enter Tryz.func183,Tryz.ntmps183
 go_wp2_with fail
 go_loop [4] (fun t=>∃ i:Nat,i≤41∧t=zI i∧Hid (∀ j,j < i→¬ wd j=s)) (fun t=>41 - (intOf t).toNat)
 case atStart=>exact⟨0,by omega,rfl,fun j hj=>by omega⟩
 case round =>
  obtain⟨i,hi,rfl,HR⟩:=hrel
  by_cases hlt:i < 41
  ·have hlt':(i:Int) < 41:=by omega
   have hcell:=HC.out i hlt
   obtain⟨x,ex⟩:∃ x,wd i=x:=⟨_,rfl⟩
   rw [ex] at hcell
   by_cases he:x=s
   ·have hw:=isW_yes hlt (ex.trans he)
    subst he
    go_wp2
    go_ret
    exact⟨by first | rfl | exact retB hw.symm,rfl⟩
   ·have hne:=seq_ne he
    have hn:Hid (∀ j,j < i+1→¬ wd j=s):=fun j hj=>by
     by_cases e:j=i
     ·subst e; rw [ex]; exact he
     ·exact HR.out j (by omega)
    clear he ex
    go_wp2
    exact⟨⟨i+1,by omega,by go_num,hn⟩,by simp only [intOf]; omega⟩
  ·obtain rfl:i=41:=by omega
   have hw:=isW_no HR.out
   go_wp2
   go_ret
   exact⟨by first | rfl | exact retB hw.symm,rfl⟩
theorem hd_at {s:ByteArray}{i:Nat}(h:i < s.size) {c:UInt8}(hc:s[i]=c) (p:UInt8→Bool):hdB p (rest s i)=p c:=by rw [rest_at s i h,hc]; rfl
theorem hd_out {s:ByteArray}{i:Nat}(h:s.size≤i) (p:UInt8→Bool):hdB p (rest s i)=false:=by rw [rest_end s i h]; rfl
set_option maxHeartbeats 2000000 in
theorem wordC_any (s:ByteArray) (i B:Nat) (w:World) (hB:w.cell? ⟨B,0,none⟩=some (.string s)) (hi:i≤s.size) :
  Calls zG 182 #[zI i,zP B] w fun e w'=>e=.returned (.bool (hdB goB (rest s i)))∧w'=w:=by
 by_cases hlt:i < s.size
 ·have hlt':(i:Int) < (s.size:Int):=by omega
  obtain⟨c,hc⟩:∃ c,s[i]=c:=⟨_,rfl⟩
  rw [hd_at hlt hc]
  cases b1:letB c
  ·cases b2:digB c
   ·have hg:Hid (goB c=((c.toNat:Int) == 95)):=by
     show _=_
     unfold goB
     rw [b1,b2]
     by_cases h:c.toNat=95
     ·rw [h]; rfl
     ·have h':((c.toNat:Int) == 95)=false:=beq_false_of_ne (by omega)
      rw [h']; simp [h]
    go_enter Tryz.func182,Tryz.ntmps182
    go_wp2_with (first | (go_at_call 169; refine (isLetter_b b1 _).mono ?_; rintro _ v ⟨rfl,e⟩; obtain rfl:=e.symm) | (go_at_call 171; refine (isDigit_b b2 _).mono ?_; rintro _ v ⟨rfl,e⟩; obtain rfl:=e.symm))
    all_goals go_ret
    all_goals exact⟨by rw [hg.out]; rfl,rfl⟩
   ·have hg:goB c=true:=by unfold goB; rw [b1,b2]; rfl
    rw [hg]
    go_enter Tryz.func182,Tryz.ntmps182
    go_wp2_with (first | (go_at_call 169; refine (isLetter_b b1 _).mono ?_; rintro _ v ⟨rfl,e⟩; obtain rfl:=e.symm) | (go_at_call 171; refine (isDigit_b b2 _).mono ?_; rintro _ v ⟨rfl,e⟩; obtain rfl:=e.symm))
    all_goals go_ret
    all_goals exact⟨rfl,rfl⟩
  ·have hg:goB c=true:=by unfold goB; rw [b1]; rfl
   rw [hg]
   go_enter Tryz.func182,Tryz.ntmps182
   go_wp2_with (go_at_call 169; refine (isLetter_b b1 _).mono ?_; rintro _ v ⟨rfl,e⟩; obtain rfl:=e.symm)
   all_goals go_ret
   all_goals exact⟨rfl,rfl⟩
 ·rw [hd_out (by omega)]
  have hn:¬ (i:Int) < (s.size:Int):=by omega
  go_enter Tryz.func182,Tryz.ntmps182
  go_wp2_with fail
  go_ret
  exact⟨rfl,rfl⟩
set_option maxHeartbeats 2000000 in
theorem numC_any (s:ByteArray) (i B:Nat) (w:World) (hB:w.cell? ⟨B,0,none⟩=some (.string s)) (hi:i≤s.size) :
  Calls zG 184 #[zI i,zP B] w fun e w'=>e=.returned (.bool (hdB digB (rest s i)))∧w'=w:=by
 by_cases hlt:i < s.size
 ·have hlt':(i:Int) < (s.size:Int):=by omega
  obtain⟨c,hc⟩:∃ c,s[i]=c:=⟨_,rfl⟩
  rw [hd_at hlt hc]
  go_enter Tryz.func184,Tryz.ntmps184
  go_wp2_with (go_at_call 171; refine (isDigit_any _ _).mono ?_; rintro _ v ⟨rfl,e⟩; obtain rfl:=e.symm)
  all_goals go_ret
  all_goals exact⟨rfl,rfl⟩
 ·rw [hd_out (by omega)]
  have hn:¬ (i:Int) < (s.size:Int):=by omega
  go_enter Tryz.func184,Tryz.ntmps184
  go_wp2_with fail
  go_ret
  exact⟨rfl,rfl⟩
set_option maxHeartbeats 2000000 in
theorem reachW_any (s:ByteArray) (a B:Nat) (hs:s.size≤140737488355328) (ha:a≤s.size) (w:World) (hB:w.cell? ⟨B,0,none⟩=some (.string s)) (d:Nat) (hd:Hid (d=a+lead goB (rest s a))) :
  Calls zG 181 #[zI a,.func (.func 182) #[] #[zP B]] w fun e w'=>e=.returned (zI d)∧w'=w:=by
 go_enter Tryz.func181,Tryz.ntmps181
 go_wp2_with fail
 go_loop [0] (fun t=>∃ i:Nat,a≤i∧i≤s.size∧t=zI i∧Hid (d=i+lead goB (rest s i))) (fun t=>s.size - (intOf t).toNat)
 case atStart=>exact⟨a,Nat.le_refl _,ha,rfl,hd⟩
 case round =>
  obtain⟨i,hi1,hi2,rfl,HR⟩:=hrel
  clear hd
  have cF:=wordC_any s i B w hB hi2
  cases hb:hdB goB (rest s i)
  ·rw [hb] at cF
   have hs2:Hid (i=d):=by
    show _=_
    rw [HR.out]
    cases hr:rest s i with
    | nil=>rfl
    | cons c l=>rw [hr] at hb; rw [lead,if_neg (by rw [show goB c=false from hb]; decide)]; rfl
   clear hb
   go_wp2_with fail
   refine cF.mono ?_
   rintro _ v ⟨rfl,e⟩
   obtain rfl:=e.symm
   go_wp2_with fail
   go_ret
   exact⟨retI (by rw [hs2.out]),rfl⟩
  ·rw [hb] at cF
   have hlt:i < s.size:=by
    by_cases h:i < s.size
    ·exact h
    ·rw [hd_out (by omega)] at hb; cases hb
   have hs2:Hid (d=(i+1)+lead goB (rest s (i+1))):=by
    show _=_
    rw [HR.out]
    have hr:=rest_at s i hlt
    rw [hr] at hb
    unfold hdB at hb
    rw [hr,lead,if_pos hb]; omega
   clear hb HR
   go_wp2_with fail
   refine cF.mono ?_
   rintro _ v ⟨rfl,e⟩
   obtain rfl:=e.symm
   go_wp2_with fail
   exact⟨⟨i+1,by omega,by omega,by go_num,hs2⟩,by simp only [intOf]; omega⟩
set_option maxHeartbeats 2000000 in
theorem reachN_any (s:ByteArray) (a B:Nat) (hs:s.size≤140737488355328) (ha:a≤s.size) (w:World) (hB:w.cell? ⟨B,0,none⟩=some (.string s)) (d:Nat) (hd:Hid (d=a+lead digB (rest s a))) :
  Calls zG 181 #[zI a,.func (.func 184) #[] #[zP B]] w fun e w'=>e=.returned (zI d)∧w'=w:=by
 go_enter Tryz.func181,Tryz.ntmps181
 go_wp2_with fail
 go_loop [0] (fun t=>∃ i:Nat,a≤i∧i≤s.size∧t=zI i∧Hid (d=i+lead digB (rest s i))) (fun t=>s.size - (intOf t).toNat)
 case atStart=>exact⟨a,Nat.le_refl _,ha,rfl,hd⟩
 case round =>
  obtain⟨i,hi1,hi2,rfl,HR⟩:=hrel
  clear hd
  have cF:=numC_any s i B w hB hi2
  cases hb:hdB digB (rest s i)
  ·rw [hb] at cF
   have hs2:Hid (i=d):=by
    show _=_
    rw [HR.out]
    cases hr:rest s i with
    | nil=>rfl
    | cons c l=>rw [hr] at hb; rw [lead,if_neg (by rw [show digB c=false from hb]; decide)]; rfl
   clear hb
   go_wp2_with fail
   refine cF.mono ?_
   rintro _ v ⟨rfl,e⟩
   obtain rfl:=e.symm
   go_wp2_with fail
   go_ret
   exact⟨retI (by rw [hs2.out]),rfl⟩
  ·rw [hb] at cF
   have hlt:i < s.size:=by
    by_cases h:i < s.size
    ·exact h
    ·rw [hd_out (by omega)] at hb; cases hb
   have hs2:Hid (d=(i+1)+lead digB (rest s (i+1))):=by
    show _=_
    rw [HR.out]
    have hr:=rest_at s i hlt
    rw [hr] at hb
    unfold hdB at hb
    rw [hr,lead,if_pos hb]; omega
   clear hb HR
   go_wp2_with fail
   refine cF.mono ?_
   rintro _ v ⟨rfl,e⟩
   obtain rfl:=e.symm
   go_wp2_with fail
   exact⟨⟨i+1,by omega,by omega,by go_num,hs2⟩,by simp only [intOf]; omega⟩
def wv:List UInt8→Nat→Option Nat
 | [],n=>some n
 | c :: l,n=>if 10 * n+(c.toNat - 48) > 9223372036854775807 then none else wv l (10 * n+(c.toNat - 48))
theorem nmS_mono:∀ (l:List UInt8) (n k n' k':Nat),nmS l n k=some (n',k')→n≤n'∧k'=k+lead digB l
 | [],n,k,n',k',h=>by
  simp only [nmS,Option.some.injEq,Prod.mk.injEq] at h
  obtain⟨rfl,rfl⟩:=h
  exact⟨Nat.le_refl _,rfl⟩
 | c :: l,n,k,n',k',h=>by
  unfold nmS at h
  unfold lead
  by_cases hg:digB c=true
  ·rw [if_pos hg] at h ⊢
   by_cases hn:n > 922337203685477580
   ·rw [if_pos hn] at h; exact absurd h (by simp)
   ·rw [if_neg hn] at h
    have:=nmS_mono l _ _ _ _ h
    exact⟨by omega,by omega⟩
  ·rw [if_neg hg] at h ⊢
   simp only [Option.some.injEq,Prod.mk.injEq] at h
   obtain⟨rfl,rfl⟩:=h
   exact⟨Nat.le_refl _,rfl⟩
theorem wv_nmS:∀ (l:List UInt8) (n k:Nat),n≤9223372036854775807 →
  wv (l.take (lead digB l)) n=(match nmS l n k with | none=>none | some (n',_)=>if n' > 9223372036854775807 then none else some n')
 | [],n,k,h=>by simp only [nmS,lead,List.take_zero,wv]; rw [if_neg (by omega)]
 | c :: l,n,k,h=>by
  unfold lead nmS
  by_cases hg:digB c=true
  ·rw [if_pos hg,if_pos hg,List.take_succ_cons]
   have hdc:48≤c.toNat∧c.toNat≤57:=by unfold digB at hg; exact of_decide_eq_true hg
   unfold wv
   by_cases ho:10 * n+(c.toNat - 48) > 9223372036854775807
   ·rw [if_pos ho]
    by_cases hn:n > 922337203685477580
    ·rw [if_pos hn]
    ·rw [if_neg hn]
     cases hm:nmS l (10 * n+(c.toNat - 48)) (k+1) with
     | none=>rfl
     | some q =>
      obtain⟨n',k'⟩:=q
      have:=(nmS_mono _ _ _ _ _ hm).1
      simp only
      rw [if_pos (by omega)]
   ·rw [if_neg ho,if_neg (by omega)]
    exact wv_nmS l _ _ (by omega)
  ·rw [if_neg hg,if_neg hg]
   simp only [List.take_zero,wv]
   rw [if_neg (by omega)]
theorem lead_all {p:UInt8→Bool}:∀ (l:List UInt8) (c:UInt8),c ∈ l.take (lead p l)→p c=true
 | [],c,h=>by simp at h
 | x :: l,c,h=>by
  unfold lead at h
  by_cases hx:p x=true
  ·rw [if_pos hx,List.take_succ_cons,List.mem_cons] at h
   rcases h with rfl | h
   ·exact hx
   ·exact lead_all l c h
  ·rw [if_neg hx] at h; simp at h
theorem nbO_parts (s:ByteArray) (a d e:Nat) (hd:d=a+lead digB (rest s a)) (he:e=if nbTy (rest s d)=1 then d else d+1) :
  nbO s a=(match wv ((rest s a).take (lead digB (rest s a))) 0 with | none=>none | some n=>if (d - a > 1∧hd0 (rest s a)=true) then none else if badH (rest s e)=true then none else some (n,e,nbTy (rest s d))):=by
 rw [wv_nmS (rest s a) 0 0 (by omega)]
 cases hm:nmS (rest s a) 0 0 with
 | none=>unfold nbO; rw [hm]
 | some q =>
  obtain⟨n,k⟩:=q
  obtain⟨_,hk⟩:=nmS_mono _ _ _ _ _ hm
  have hk2:d - a=k:=by omega
  rw [nbO_of (i:=d) (by rw [hm,hk2]) (by omega),← he]
  simp only
  by_cases hb:n > 9223372036854775807
  ·simp [hb]
  ·simp only [hb,false_or,if_false]
set_option maxHeartbeats 2000000 in
theorem typed_any (s:ByteArray) (a:Nat) (hs:s.size≤140737488355328) (ha:a≤s.size) (w:World) :
  Calls zG 185 #[.string s,zI a] w fun e w'=>e=.returned (.tuple #[zU (nbTy (rest s a)),zI ((if nbTy (rest s a)=1 then a else a+1:Nat):Int)])∧w'=w:=by
 by_cases hlt:a < s.size
 ·have hne:((a:Int) == (s.size:Int))=false:=beq_false_of_ne (by omega)
  have hlt':(a:Int) < (s.size:Int):=by omega
  have hr:=rest_at s a hlt
  obtain⟨c,hc⟩:∃ c,s[a]=c:=⟨_,rfl⟩
  rw [hc] at hr
  rw [hr]
  have K:nbTy (c :: rest s (a+1))=if c.toNat=113 then 2 else if c.toNat=112 then 3 else if c.toNat=116 then 4 else 1:=rfl
  rw [K]
  clear K hr
  by_cases kt:c.toNat=116
  ·have xt:((c.toNat:Int) == 116)=true:=by rw [kt]; rfl
   rw [if_neg (by omega),if_neg (by omega),if_pos kt,if_neg (by decide)]
   go_enter Tryz.func185,Tryz.ntmps185
   go_wp2_with fail
   exact bodyPost_ret (by simp [results]) rfl ⟨rfl,rfl⟩
  ·have xt:((c.toNat:Int) == 116)=false:=beq_false_of_ne (by omega)
   by_cases kp:c.toNat=112
   ·have xp:((c.toNat:Int) == 112)=true:=by rw [kp]; rfl
    rw [if_neg (by omega),if_pos kp,if_neg (by decide)]
    go_enter Tryz.func185,Tryz.ntmps185
    go_wp2_with fail
    exact bodyPost_ret (by simp [results]) rfl ⟨rfl,rfl⟩
   ·have xp:((c.toNat:Int) == 112)=false:=beq_false_of_ne (by omega)
    by_cases kq:c.toNat=113
    ·have xq:((c.toNat:Int) == 113)=true:=by rw [kq]; rfl
     rw [if_pos kq,if_neg (by decide)]
     go_enter Tryz.func185,Tryz.ntmps185
     go_wp2_with fail
     exact bodyPost_ret (by simp [results]) rfl ⟨rfl,rfl⟩
    ·have xq:((c.toNat:Int) == 113)=false:=beq_false_of_ne (by omega)
     rw [if_neg kq,if_neg kp,if_neg kt,if_pos rfl]
     go_enter Tryz.func185,Tryz.ntmps185
     go_wp2_with fail
     exact bodyPost_ret (by simp [results]) rfl ⟨rfl,rfl⟩
 ·obtain rfl:a=s.size:=by omega
  rw [rest_end s s.size (Nat.le_refl _)]
  show Calls zG 185 #[.string s,zI s.size] w fun e w'=>e=.returned (.tuple #[zU 1,zI (s.size:Int)])∧w'=w
  go_enter Tryz.func185,Tryz.ntmps185
  go_wp2_with fail
  exact bodyPost_ret (by simp [results]) rfl ⟨rfl,rfl⟩
theorem results_t2 {P:Program}{fn:Func}{p u:Tmp}(h:fn.results=#[.tmp p,.tmp u]) (tmps:Array Value) (w:World):(results fn tmps).run P w=.ok (.tuple #[tmps.getD p undef,tmps.getD u undef]) w:=by
 simp [results,h]
def wvN (o:Option Nat):Int:=match o with | none=>0 | some n=>n
theorem isPadded_any (x:ByteArray) (hx:x.size≤140737488355328) (w:World):Calls zG 187 #[.string x] w fun e w'=>e=.returned (.bool (decide (x.size > 1) && hd0 (rest x 0)))∧w'=w:=by
 by_cases h:x.size > 1
 ·have h':(1:Int) < (x.size:Int):=by omega
  have h0:0 < x.size:=by omega
  have h0':(0:Int) < (x.size:Int):=by omega
  have hr:=rest_at x 0 h0
  obtain⟨c,hc⟩:∃ c,x[0]=c:=⟨_,rfl⟩
  rw [hc] at hr
  have K:Hid ((decide (x.size > 1) && hd0 (rest x 0))=((c.toNat:Int) == 48)):=by
   show _=_
   rw [decide_eq_true h,hr]
   show decide (c.toNat=48)=_
   by_cases hk:c.toNat=48
   ·rw [hk]; rfl
   ·rw [decide_eq_false hk,beq_false_of_ne (by omega)]
  clear hr
  go_enter Tryz.func187,Tryz.ntmps187
  go_wp2_with fail
  go_ret
  exact⟨retB (by rw [K.out]),rfl⟩
 ·have h':¬ (1:Int) < (x.size:Int):=by omega
  rw [decide_eq_false h]
  go_enter Tryz.func187,Tryz.ntmps187
  go_wp2_with fail
  go_ret
  exact⟨rfl,rfl⟩
set_option maxHeartbeats 2000000 in
theorem isGlued_any (s:ByteArray) (a:Nat) (ha:a≤s.size) (w:World):Calls zG 188 #[.string s,zI a] w fun e w'=>e=.returned (.bool (badH (rest s a)))∧w'=w:=by
 by_cases hlt:a < s.size
 ·have hne:((a:Int) == (s.size:Int))=false:=beq_false_of_ne (by omega)
  have hlt':(a:Int) < (s.size:Int):=by omega
  have hr:=rest_at s a hlt
  obtain⟨c,hc⟩:∃ c,s[a]=c:=⟨_,rfl⟩
  rw [hc] at hr
  rw [hr]
  obtain⟨R,eR⟩:∃ R,badH (c :: rest s (a+1))=R:=⟨_,rfl⟩
  have K:Hid (R=(goB c || upB c)):=eR.symm
  rw [eR]
  clear hr eR
  cases b1:letB c
  ·by_cases u1:65≤c.toNat
   ·by_cases u2:c.toNat≤90
    ·have hu:upB c=true:=by unfold upB; exact decide_eq_true ⟨u1,u2⟩
     have KR:Hid (R=true):=by show _=_; rw [K.out,hu,Bool.or_true]
     have u1':(65:Int)≤(c.toNat:Int):=by omega
     have u2':(c.toNat:Int)≤90:=by omega
     clear K
     go_enter Tryz.func188,Tryz.ntmps188
     go_wp2_with (first | (go_at_call 169; refine (isLetter_b b1 _).mono ?_; rintro _ v ⟨rfl,e⟩; obtain rfl:=e.symm) | (go_at_call 171; refine (isDigit_any _ _).mono ?_; rintro _ v ⟨rfl,e⟩; obtain rfl:=e.symm))
     all_goals go_ret
     all_goals exact⟨retB (by rw [KR.out]),rfl⟩
    ·have hu:upB c=false:=by unfold upB; exact decide_eq_false (by omega)
     have b2:digB c=false:=by unfold digB; exact decide_eq_false (by omega)
     have KR:Hid (R=((c.toNat:Int) == 95)):=by
      show _=_
      rw [K.out,hu]
      unfold goB
      rw [b1,b2]
      by_cases h:c.toNat=95
      ·rw [h]; rfl
      ·rw [show ((c.toNat:Int) == 95)=false from beq_false_of_ne (by omega),decide_eq_false h]; rfl
     have u1':(65:Int)≤(c.toNat:Int):=by omega
     have u2':¬ (c.toNat:Int)≤90:=by omega
     clear K
     go_enter Tryz.func188,Tryz.ntmps188
     go_wp2_with (first | (go_at_call 169; refine (isLetter_b b1 _).mono ?_; rintro _ v ⟨rfl,e⟩; obtain rfl:=e.symm) | (go_at_call 171; refine (isDigit_b b2 _).mono ?_; rintro _ v ⟨rfl,e⟩; obtain rfl:=e.symm))
     all_goals go_ret
     all_goals exact⟨retB (by rw [KR.out,decide_eq_false (by omega)]; rfl),rfl⟩
   ·have hu:upB c=false:=by unfold upB; exact decide_eq_false (by omega)
    have u1':¬ (65:Int)≤(c.toNat:Int):=by omega
    cases b2:digB c
    ·have KR:Hid (R=false):=by
      show _=_
      rw [K.out,hu]
      unfold goB
      rw [b1,b2,decide_eq_false (by omega)]; rfl
     have x95:((c.toNat:Int) == 95)=false:=beq_false_of_ne (by omega)
     clear K
     go_enter Tryz.func188,Tryz.ntmps188
     go_wp2_with (first | (go_at_call 169; refine (isLetter_b b1 _).mono ?_; rintro _ v ⟨rfl,e⟩; obtain rfl:=e.symm) | (go_at_call 171; refine (isDigit_b b2 _).mono ?_; rintro _ v ⟨rfl,e⟩; obtain rfl:=e.symm))
     all_goals go_ret
     all_goals exact⟨retB (by rw [KR.out]),rfl⟩
    ·have KR:Hid (R=true):=by
      show _=_
      rw [K.out]
      unfold goB
      rw [b2]; simp
     clear K
     go_enter Tryz.func188,Tryz.ntmps188
     go_wp2_with (first | (go_at_call 169; refine (isLetter_b b1 _).mono ?_; rintro _ v ⟨rfl,e⟩; obtain rfl:=e.symm) | (go_at_call 171; refine (isDigit_b b2 _).mono ?_; rintro _ v ⟨rfl,e⟩; obtain rfl:=e.symm))
     all_goals go_ret
     all_goals exact⟨retB (by rw [KR.out]),rfl⟩
  ·have KR:Hid (R=true):=by
    show _=_
    rw [K.out]
    unfold goB
    rw [b1]; simp
   clear K
   go_enter Tryz.func188,Tryz.ntmps188
   go_wp2_with (go_at_call 169; refine (isLetter_b b1 _).mono ?_; rintro _ v ⟨rfl,e⟩; obtain rfl:=e.symm)
   all_goals go_ret
   all_goals exact⟨retB (by rw [KR.out]),rfl⟩
 ·obtain rfl:a=s.size:=by omega
  rw [rest_end s s.size (Nat.le_refl _)]
  go_enter Tryz.func188,Tryz.ntmps188
  go_wp2_with fail
  go_ret
  exact⟨rfl,rfl⟩
set_option maxHeartbeats 2000000 in
theorem worth_any (x:ByteArray) (hx:x.size≤140737488355328) (hd:∀ c ∈ rest x 0,digB c=true) (w:World) :
  Calls zG 186 #[.string x] w fun e w'=>e=.returned (.tuple #[zI (wvN (wv (rest x 0) 0)),.bool (wv (rest x 0) 0).isSome])∧w'=w:=by
 obtain⟨o,ho⟩:∃ o,wv (rest x 0) 0=o:=⟨_,rfl⟩
 have HO:Hid (wv (rest x 0) 0=o):=ho
 have HD:Hid (∀ c ∈ rest x 0,digB c=true):=hd
 rw [ho]
 clear ho hd
 go_enter Tryz.func186,Tryz.ntmps186
 go_wp2_with fail
 go_loop [4,9] (fun t u=>∃ i n:Nat,i≤x.size∧u=zI i∧t=zI n∧n≤9223372036854775807∧Hid (wv (rest x i) n=o)) (fun _ u=>x.size - (intOf u).toNat)
 case atStart=>exact⟨0,0,by omega,rfl,rfl,by omega,HO⟩
 case round =>
  obtain⟨i,n,hi,rfl,rfl,hn,HR⟩:=hrel
  clear HO
  by_cases hlt:i < x.size
  ·have hlt':(i:Int) < (x.size:Int):=by omega
   have hr:=rest_at x i hlt
   obtain⟨c,hc⟩:∃ c,x[i]=c:=⟨_,rfl⟩
   rw [hc] at hr
   have hdc:digB c=true:=by
    refine HD.out c ?_
    have:rest x i=(rest x 0).drop i:=by unfold rest; simp
    exact List.mem_of_mem_drop (i:=i) (by rw [← this,hr]; simp)
   obtain⟨k1,k2⟩:48≤c.toNat∧c.toNat≤57:=by unfold digB at hdc; exact of_decide_eq_true hdc
   obtain⟨g,hg⟩:∃ g:Nat,c.toNat=g+48:=⟨c.toNat - 48,by omega⟩
   have hgI:(c.toNat:Int) - 48=(g:Int):=by omega
   have K:Hid (wv (rest x i) n=if 10 * n+g > 9223372036854775807 then none else wv (rest x (i+1)) (10 * n+g)):=by
    show _=_
    rw [hr,wv,show c.toNat - 48=g by omega]
   have k1':(48:Int)≤(c.toNat:Int):=by omega
   have hg9:g≤9:=by omega
   clear hr hdc
   by_cases hb:10 * n+g > 9223372036854775807
   ·have hb':(9223372036854775807 - (g:Int)) / 10 < (n:Int):=by omega
    have KO:Hid (o=none):=by show _=_; rw [← HR.out,K.out,if_pos hb]
    clear K HR
    go_wp2_with fail
    exact bodyPost_ret (results_t2 (p:=2) (u:=3) rfl _ _) rfl ⟨by rw [KO.out]; rfl,rfl⟩
   ·have hb':¬ (9223372036854775807 - (g:Int)) / 10 < (n:Int):=by omega
    have KO:Hid (wv (rest x (i+1)) (10 * n+g)=o):=by show _=_; rw [← HR.out,K.out,if_neg hb]
    clear K HR
    go_wp2_with fail
    exact⟨⟨i+1,10 * n+g,by omega,by go_num,by rw [show (n:Int) * 10+(g:Int)=((10 * n+g:Nat):Int) by omega],by omega,KO⟩,by simp only [intOf]; omega⟩
  ·obtain rfl:i=x.size:=by omega
   have hn':¬ (x.size:Int) < (x.size:Int):=by omega
   have KO:Hid (o=some n):=by show _=_; rw [← HR.out,rest_end x x.size (Nat.le_refl _)]; rfl
   clear HR
   go_wp2_with fail
   exact bodyPost_ret (results_t2 (p:=2) (u:=3) rfl _ _) rfl ⟨by rw [KO.out]; rfl,rfl⟩
def tkP (a:Nat):Tk:=⟨0,⟨#[]⟩,0,0,a⟩
def pnT (s:ByteArray) (a:Nat):Tk:=if nmE s a=0 then nmT s a else tkP a
set_option maxRecDepth 100000 in
set_option maxHeartbeats 2000000 in
theorem wordp_any (s:ByteArray) (a:Nat) (hs:s.size≤140737488355328) (ha:a≤s.size) (w:World) (ht:Tab w) :
  Calls zG 170 #[.string s,zI a] w fun e w'=>e=.returned (.tuple #[.agg (tkA (pnT s a)),zI (nmE s a)])∧Below w§ w w':=by
 obtain⟨d,hd⟩:∃ d,a+lead goB (rest s a)=d:=⟨_,rfl⟩
 have hd1:a≤d:=by omega
 have hd2:d≤s.size:=by have:=lead_le goB (rest s a); rw [rest_len] at this; omega
 have HT:Hid (nmT s a=if d - a > 16 then tk0 else ⟨if isW (s.extract a d)=true then 1 else 2,s.extract a d,0,0,a⟩):=by show _=_; unfold nmT; rw [hd,show lead goB (rest s a)=d - a by omega]
 have HE:Hid (nmE s a=if d - a > 16 then 112 else 0):=by show _=_; unfold nmE; rw [show lead goB (rest s a)=d - a by omega]
 have HD:Hid (d=a+lead goB (rest s a)):=hd.symm
 have hS0:(w.alloc (.cells #[.string s] 9)).heap[w§]? = some (.cells #[.string s] 9 (0,0)):=heap_new w _
 have hB0:=below_two w (.cells #[.string s] 9) (.cells (tkA tk0) 148)
 have hR0:TkH ((w.alloc (.cells #[.string s] 9)).alloc (.cells (tkA tk0) 148)) (w§+1) tk0:=by rw [← size_alloc w (.cells #[.string s] 9)]; exact heap_new _ _
 have hS1:((w.alloc (.cells #[.string s] 9)).alloc (.cells (tkA tk0) 148)).heap[w§]? = some (.cells #[.string s] 9 (0,0)):=heap_old hS0 (by rw [size_alloc]; omega)
 have hz0:((w.alloc (.cells #[.string s] 9)).alloc (.cells (tkA tk0) 148))§=w§+2:=by rw [size_alloc,size_alloc]
 have hT0:=ht.on hB0
 obtain⟨W,eW⟩:∃ W,(w.alloc (.cells #[.string s] 9)).alloc (.cells (tkA tk0) 148)=W:=⟨_,rfl⟩
 rw [eW] at hB0 hR0 hS1 hz0 hT0
 have hc:=cell_of hS1 0
 have HRR:=hR0.hid
 have HTab:=hT0.hid
 have HB:Hid (Below w§ w W):=hB0
 have cR:=reachW_any s a w§ hs ha W hc d HD
 unfold tkA tk0 at eW
 dsimp only at eW
 clear hd ht hS0 hS1 hT0 hR0 hB0 HD
 go_enter Tryz.func170,Tryz.ntmps170
 go_wp2_with fail
 clear eW
 refine cR.mono ?_
 rintro _ v ⟨rfl,e⟩
 obtain rfl:=e.symm
 clear cR
 by_cases h16:d - a > 16
 ·have h16':(16:Int) < (d:Int) - (a:Int):=by omega
  have KE:Hid (nmE s a=112):=by show _=_; rw [HE.out,if_pos h16]
  have KT:Hid (pnT s a=tkP a):=by show _=_; unfold pnT; rw [KE.out,if_neg (by decide)]
  obtain⟨r0,r1,r2,r3,r4⟩:=HRR.out.cells
  obtain⟨f0,f1,f2,f3,f4⟩:=HRR.out.froz
  clear HT HE
  go_wp2_with fail
  exact bodyPost_ret (results_two (p:=4) (u:=5) (ty:=148) rfl _ _ (w§+1) 148 (tkA (tkP a)) (0,0) _ rfl (HRR.out.put (tkP a)) Tryz.underlying148 rfl zK) rfl ⟨by rw [KT.out,KE.out]; rfl,below_put HB.out (by omega) _ _ _ _ _⟩
 ·have h16':¬ (16:Int) < (d:Int) - (a:Int):=by omega
  have KE:Hid (nmE s a=0):=by show _=_; rw [HE.out,if_neg h16]
  obtain⟨x,ex⟩:∃ x,s.extract a d=x:=⟨_,rfl⟩
  have KT:Hid (pnT s a=⟨if isW x=true then 1 else 2,x,0,0,a⟩):=by show _=_; unfold pnT; rw [KE.out,if_pos rfl,HT.out,if_neg h16,ex]
  have hY:TkH (W.alloc (.cells (tkA ⟨2,x,0,0,a⟩) 148)) W§ ⟨2,x,0,0,a⟩:=heap_new W _
  rw [hz0] at hY
  have hR:TkH (W.alloc (.cells (tkA ⟨2,x,0,0,a⟩) 148)) (w§+1) tk0:=heap_old HRR.out HRR.out.lt
  have hB2:=HB.out.alloc HB.out.size (.cells (tkA ⟨2,x,0,0,a⟩) 148)
  have hT2:=HTab.out.on (below_new W (.cells (tkA ⟨2,x,0,0,a⟩) 148))
  obtain⟨V,eV⟩:∃ V,W.alloc (.cells (tkA ⟨2,x,0,0,a⟩) 148)=V:=⟨_,rfl⟩
  rw [eV] at hY hR hB2 hT2
  have HY:=hY.hid
  have HR2:=hR.hid
  have HB2:Hid (Below w§ w V):=hB2
  have cW:=wordP_any x V hT2
  unfold tkA at eV
  dsimp only at eV
  clear HT HE hY hR hB2 hT2
  obtain⟨z0,z1,z2,z3,z4⟩:=HY.out.cells
  go_wp2_with fail
  clear eV
  refine cW.mono ?_
  rintro _ v ⟨rfl,e⟩
  obtain rfl:=e.symm
  clear cW
  cases hw:isW x
  ·have KT2:Hid (pnT s a=⟨2,x,0,0,a⟩):=by show _=_; rw [KT.out,hw]; rfl
   obtain⟨r0,r1,r2,r3,r4⟩:=HR2.out.cells
   obtain⟨f0,f1,f2,f3,f4⟩:=HR2.out.froz
   clear KT
   go_wp2_with fail
   exact bodyPost_ret (results_two (p:=4) (u:=5) (ty:=148) rfl _ _ (w§+1) 148 (tkA ⟨2,x,0,0,a⟩) (0,0) _ rfl (HR2.out.put ⟨2,x,0,0,a⟩) Tryz.underlying148 rfl zK) rfl ⟨by rw [KT2.out,KE.out]; rfl,below_put HB2.out (by omega) _ _ _ _ _⟩
  ·have KT2:Hid (pnT s a=⟨1,x,0,0,a⟩):=by show _=_; rw [KT.out,hw]; rfl
   obtain⟨U,eU⟩:∃ U,V.setCell ⟨w§+2,0,none⟩ (zU 1)=U:=⟨_,rfl⟩
   have HY3:Hid (TkH U (w§+2) ⟨1,x,0,0,a⟩):=by show TkH U _ _; rw [← eU]; exact heap_set _ HY.out
   have HR3:Hid (TkH U (w§+1) tk0):=by show TkH U _ _; rw [← eU]; exact (Below.heap_setCell _ _ _ _ (by simp)).trans HR2.out
   have hB4:Below w§ w U:=by rw [← eU]; exact HB2.out.setCell (p:=⟨w§+2,0,none⟩) (by simp) _
   obtain⟨g0,g1,g2,g3,g4⟩:=HY.out.froz
   obtain⟨y0,y1,y2,y3,y4⟩:=HY3.out.cells
   obtain⟨r0,r1,r2,r3,r4⟩:=HR3.out.cells
   obtain⟨f0,f1,f2,f3,f4⟩:=HR3.out.froz
   clear KT
   go_wp2_with fail
   exact bodyPost_ret (results_two (p:=4) (u:=5) (ty:=148) rfl _ _ (w§+1) 148 (tkA ⟨1,x,0,0,a⟩) (0,0) _ rfl (HR3.out.put ⟨1,x,0,0,a⟩) Tryz.underlying148 rfl zK) rfl ⟨by rw [KT2.out,KE.out]; rfl,below_put hB4 (by omega) _ _ _ _ _⟩
def pbT (s:ByteArray) (a:Nat):Tk:=if nbE s a=0 then nbT s a else tkP a
theorem pb_no {s:ByteArray}{a:Nat}(h:nbO s a=none):Hid (pbT s a=tkP a∧nbE s a=113):=by
 obtain⟨_,h2⟩:=(nb_no h).out
 exact⟨by unfold pbT; rw [h2,if_neg (by decide)],h2⟩
theorem pb_yes {s:ByteArray}{a n e:Nat}{ty:Int}(h:nbO s a=some (n,e,ty)):Hid (pbT s a=⟨3,s.extract a e,ty,n,a⟩∧nbE s a=0):=by
 obtain⟨h1,h2⟩:=(nb_yes h).out
 exact⟨by unfold pbT; rw [h2,if_pos rfl,h1],h2⟩
def nbM (o:Option Nat) (g bg:Bool) (e:Nat) (ty:Int):Option (Nat × Nat × Int):=match o with | none=>none | some n=>if g=true then none else if bg=true then none else some (n,e,ty)
theorem nbM_of {s:ByteArray}{a d e:Nat}(hd:d=a+lead digB (rest s a)) (he:e=if nbTy (rest s d)=1 then d else d+1) :
  nbO s a=nbM (wv ((rest s a).take (lead digB (rest s a))) 0) (decide (d - a > 1) && hd0 (rest s a)) (badH (rest s e)) e (nbTy (rest s d)):=by
 rw [nbO_parts s a d e hd he]
 unfold nbM
 cases wv ((rest s a).take (lead digB (rest s a))) 0 with
 | none=>rfl
 | some n =>
  simp only
  by_cases h:d - a > 1∧hd0 (rest s a)=true
  ·rw [if_pos h,if_pos (by rw [decide_eq_true h.1,h.2]; rfl)]
  ·have h2:(decide (d - a > 1) && hd0 (rest s a))=false:=by
    by_cases h1:d - a > 1
    ·rw [decide_eq_true h1,Bool.true_and]
     cases hh:hd0 (rest s a)
     ·rfl
     ·exact absurd ⟨h1,hh⟩ h
    ·rw [decide_eq_false h1]; rfl
   rw [if_neg h,h2]; rfl
theorem box_two (s:ByteArray) (w:World):∃ W,(w.alloc (.cells #[.string s] 9)).alloc (.cells #[zU 0,.string ⟨#[]⟩,zU 0,zI 0,zI 0] 148)=W ∧
  Hid (TkH W (w§+1) tk0)∧W.cell? ⟨w§,0,none⟩=some (.string s)∧Hid (Below w§ w W)∧W§=w§+2:=by
 refine⟨_,rfl,?_,?_,below_two w _ _,by rw [size_alloc,size_alloc]⟩
 ·show TkH _ _ _
  have:=heap_new (w.alloc (.cells #[.string s] 9)) (.cells (tkA tk0) 148)
  rw [size_alloc] at this
  exact this
 ·exact cell_of (heap_old (heap_new w (.cells #[.string s] 9)) (by rw [size_alloc]; omega)) 0
set_option maxRecDepth 100000 in
set_option maxHeartbeats 2000000 in
theorem numberp_any (s:ByteArray) (a:Nat) (hs:s.size≤140737488355328) (ha:a < s.size) (hdg:hdB digB (rest s a)=true) (w:World) :
  Calls zG 172 #[.string s,zI a] w fun e w'=>e=.returned (.tuple #[.agg (tkA (pbT s a)),zI (nbE s a)])∧Below w§ w w':=by
 obtain⟨d,hd⟩:∃ d,d=a+lead digB (rest s a):=⟨_,rfl⟩
 obtain⟨e,he⟩:∃ e,e=if nbTy (rest s d)=1 then d else d+1:=⟨_,rfl⟩
 have hp0:=lead_pos hdg
 have hd1:a≤d:=by omega
 have hd2:d≤s.size:=by have:=lead_le digB (rest s a); rw [rest_len] at this; omega
 have he1:a≤e:=by rw [he]; split <;> omega
 have he2:e≤s.size:=by
  rw [he]
  by_cases h:nbTy (rest s d)=1
  ·rw [if_pos h]; exact hd2
  ·rw [if_neg h]; exact nbTy_nil h
 obtain⟨x,ex⟩:∃ x,s.extract a d=x:=⟨_,rfl⟩
 have hxl:x.data.toList=(rest s a).take (lead digB (rest s a)):=by rw [← ex,hd]; exact ext_list _ _ _
 have hx0:rest x 0=(rest s a).take (lead digB (rest s a)):=by rw [← hxl]; unfold rest; simp
 have hxs:x.size=d - a:=by rw [← ex]; exact ext_size s a d hd2
 have hx00:hd0 (rest x 0)=hd0 (rest s a):=by rw [hx0]; exact hd0_take hp0 _
 have hO:=nbM_of hd he
 rw [← hx0,← hx00] at hO
 have cT:=typed_any s d hs hd2
 rw [← he] at cT
 have cW:=worth_any x (by omega) (fun c hc=>by rw [hx0] at hc; exact lead_all _ c hc)
 have cP:=isPadded_any x (by omega)
 have cG:=isGlued_any s e he2
 obtain⟨W,eW,HR,hc,HB,hz⟩:=box_two s w
 have cR:=reachN_any s a w§ hs (Nat.le_of_lt ha) W hc d hd
 obtain⟨o,ho⟩:∃ o,wv (rest x 0) 0=o:=⟨_,rfl⟩
 rw [ho] at hO cW
 obtain⟨ty,hty⟩:∃ ty,nbTy (rest s d)=ty:=⟨_,rfl⟩
 rw [hty] at hO cT
 rw [hxs] at cP
 obtain⟨bp,hbp⟩:∃ bp,(decide (d - a > 1) && hd0 (rest x 0))=bp:=⟨_,rfl⟩
 rw [hbp] at hO cP
 obtain⟨bg,hbg⟩:∃ bg,badH (rest s e)=bg:=⟨_,rfl⟩
 rw [hbg] at hO cG
 have HO:Hid (nbO s a=nbM o bp bg e ty):=hO
 obtain⟨r0,r1,r2,r3,r4⟩:=HR.out.cells
 obtain⟨f0,f1,f2,f3,f4⟩:=HR.out.froz
 clear hO hd he hp0 hxl hx0 hx00 ho hty hbp hbg hdg
 cases o with
 | none =>
  have K:=pb_no HO.out
  simp only [Option.isSome,wvN] at cW
  clear HO
  go_enter Tryz.func172,Tryz.ntmps172
  go_wp2_with (first | (go_at_call 181; refine cR.mono ?_; rintro _ v ⟨rfl,q⟩; obtain rfl:=q.symm) | (go_at_call 185; refine (cT _).mono ?_; rintro _ v ⟨rfl,q⟩; obtain rfl:=q.symm) | (go_at_call 186; refine (cW _).mono ?_; rintro _ v ⟨rfl,q⟩; obtain rfl:=q.symm) | (go_at_call 187; refine (cP _).mono ?_; rintro _ v ⟨rfl,q⟩; obtain rfl:=q.symm) | (go_at_call 188; refine (cG _).mono ?_; rintro _ v ⟨rfl,q⟩; obtain rfl:=q.symm))
  exact bodyPost_ret (results_two (p:=4) (u:=5) (ty:=148) rfl _ _ (w§+1) 148 (tkA (tkP a)) (0,0) _ rfl (HR.out.put (tkP a)) Tryz.underlying148 rfl zK) rfl ⟨by rw [K.out.1,K.out.2]; rfl,below_put HB.out (by omega) _ _ _ _ _⟩
 | some n =>
  simp only [Option.isSome,wvN] at cW
  cases bp
  ·cases bg
   ·have K:=pb_yes HO.out
    obtain⟨y,ey⟩:∃ y,s.extract a e=y:=⟨_,rfl⟩
    rw [ey] at K
    clear HO
    go_enter Tryz.func172,Tryz.ntmps172
    go_wp2_with (first | (go_at_call 181; refine cR.mono ?_; rintro _ v ⟨rfl,q⟩; obtain rfl:=q.symm) | (go_at_call 185; refine (cT _).mono ?_; rintro _ v ⟨rfl,q⟩; obtain rfl:=q.symm) | (go_at_call 186; refine (cW _).mono ?_; rintro _ v ⟨rfl,q⟩; obtain rfl:=q.symm) | (go_at_call 187; refine (cP _).mono ?_; rintro _ v ⟨rfl,q⟩; obtain rfl:=q.symm) | (go_at_call 188; refine (cG _).mono ?_; rintro _ v ⟨rfl,q⟩; obtain rfl:=q.symm))
    exact bodyPost_ret (results_two (p:=4) (u:=5) (ty:=148) rfl _ _ (w§+1) 148 (tkA ⟨3,y,ty,n,a⟩) (0,0) _ rfl (HR.out.put ⟨3,y,ty,n,a⟩) Tryz.underlying148 rfl zK) rfl ⟨by rw [K.out.1,K.out.2]; rfl,below_put HB.out (by omega) _ _ _ _ _⟩
   ·have K:=pb_no HO.out
    clear HO
    go_enter Tryz.func172,Tryz.ntmps172
    go_wp2_with (first | (go_at_call 181; refine cR.mono ?_; rintro _ v ⟨rfl,q⟩; obtain rfl:=q.symm) | (go_at_call 185; refine (cT _).mono ?_; rintro _ v ⟨rfl,q⟩; obtain rfl:=q.symm) | (go_at_call 186; refine (cW _).mono ?_; rintro _ v ⟨rfl,q⟩; obtain rfl:=q.symm) | (go_at_call 187; refine (cP _).mono ?_; rintro _ v ⟨rfl,q⟩; obtain rfl:=q.symm) | (go_at_call 188; refine (cG _).mono ?_; rintro _ v ⟨rfl,q⟩; obtain rfl:=q.symm))
    exact bodyPost_ret (results_two (p:=4) (u:=5) (ty:=148) rfl _ _ (w§+1) 148 (tkA (tkP a)) (0,0) _ rfl (HR.out.put (tkP a)) Tryz.underlying148 rfl zK) rfl ⟨by rw [K.out.1,K.out.2]; rfl,below_put HB.out (by omega) _ _ _ _ _⟩
  ·have K:=pb_no HO.out
   clear HO
   go_enter Tryz.func172,Tryz.ntmps172
   go_wp2_with (first | (go_at_call 181; refine cR.mono ?_; rintro _ v ⟨rfl,q⟩; obtain rfl:=q.symm) | (go_at_call 185; refine (cT _).mono ?_; rintro _ v ⟨rfl,q⟩; obtain rfl:=q.symm) | (go_at_call 186; refine (cW _).mono ?_; rintro _ v ⟨rfl,q⟩; obtain rfl:=q.symm) | (go_at_call 187; refine (cP _).mono ?_; rintro _ v ⟨rfl,q⟩; obtain rfl:=q.symm) | (go_at_call 188; refine (cG _).mono ?_; rintro _ v ⟨rfl,q⟩; obtain rfl:=q.symm))
   exact bodyPost_ret (results_two (p:=4) (u:=5) (ty:=148) rfl _ _ (w§+1) 148 (tkA (tkP a)) (0,0) _ rfl (HR.out.put (tkP a)) Tryz.underlying148 rfl zK) rfl ⟨by rw [K.out.1,K.out.2]; rfl,below_put HB.out (by omega) _ _ _ _ _⟩
def pairB (s:ByteArray) (a:Nat):Bool:=(List.range 6).any (mkB s a)
theorem mk_two (i:Nat) (h:i < 6):(mk i).size=2:=by
 have:∀ i,i < 6→(mk i).size=2:=by decide
 exact this i h
theorem mk_one (i:Nat) (h:6≤i) (h2:i < 23):(mk i).size=1:=by
 have:∀ i,i < 23→6≤i→(mk i).size=1:=by decide
 exact this i h2 h
theorem mkB_two {s:ByteArray}{a:Nat}(h:a+2≤s.size) (i:Nat) (hi:i < 6):mkB s a i=((s.extract a (a+2)).toList == (mk i).data.toList):=by
 unfold mkB
 rw [mk_two i hi,decide_eq_true h,ByteArray.toList_eq,Bool.true_and]
theorem pairB_of {s:ByteArray}{a:Nat}(h:a+2≤s.size) {x:ByteArray}(hx:s.extract a (a+2)=x):pairB s a=((x.toList == [61,61]) || ((x.toList == [33,61]) || ((x.toList == [60,61]) || ((x.toList == [62,61]) || ((x.toList == [38,38]) || (x.toList == [124,124])))))):=by
 unfold pairB
 have e:∀ i,i < 6→mkB s a i=(x.toList == (mk i).data.toList):=fun i hi=>by rw [mkB_two h i hi,hx]
 rw [show List.range 6 = [0,1,2,3,4,5] from rfl]
 simp only [List.any_cons,List.any_nil,Bool.or_false]
 rw [e 0 (by decide),e 1 (by decide),e 2 (by decide),e 3 (by decide),e 4 (by decide),e 5 (by decide)]
 rfl
theorem pairB_short {s:ByteArray}{a:Nat}(h:¬ a+2≤s.size):pairB s a=false:=by
 unfold pairB
 rw [List.any_eq_false]
 intro i hi
 have hi6:i < 6:=by simpa using hi
 unfold mkB
 rw [mk_two i hi6,decide_eq_false h]
 simp
set_option maxRecDepth 100000 in
set_option maxHeartbeats 4000000 in
theorem isPair_any (s:ByteArray) (a:Nat) (hs:s.size≤140737488355328) (ha:a≤s.size) (w:World) :
  Calls zG 189 #[.string s,zI a] w fun e w'=>e=.returned (.bool (pairB s a))∧w'=w:=by
 by_cases h:a+2≤s.size
 ·obtain⟨d,hd⟩:∃ d,d=a+2:=⟨_,rfl⟩
  have hdI:(a:Int)+2=(d:Int):=by omega
  have hd1:a≤d:=by omega
  have hd2:d≤s.size:=by omega
  have h':¬ (s.size:Int) < (d:Int):=by omega
  obtain⟨x,ex⟩:∃ x,s.extract a d=x:=⟨_,rfl⟩
  have hP:=pairB_of h (x:=x) (by rw [← hd]; exact ex)
  obtain⟨b,eb⟩:∃ b,pairB s a=b:=⟨_,rfl⟩
  rw [eb] at hP ⊢
  have KB:Hid (b=((x.toList == [61,61]) || ((x.toList == [33,61]) || ((x.toList == [60,61]) || ((x.toList == [62,61]) || ((x.toList == [38,38]) || (x.toList == [124,124]))))))):=hP
  clear hd h hP eb
  cases q0:(x.toList == [61,61])
  ·cases q1:(x.toList == [33,61])
   ·cases q2:(x.toList == [60,61])
    ·cases q3:(x.toList == [62,61])
     ·cases q4:(x.toList == [38,38])
      ·cases q5:(x.toList == [124,124])
       ·have KB2:Hid (b=false):=by show _=_; rw [KB.out,q0,q1,q2,q3,q4,q5]; rfl
        clear KB
        go_enter Tryz.func189,Tryz.ntmps189
        go_wp2_with fail
        go_ret
        exact⟨retB (by rw [KB2.out]),rfl⟩
       ·have KB2:Hid (b=true):=by show _=_; rw [KB.out,q0,q1,q2,q3,q4,q5]; simp
        clear KB
        go_enter Tryz.func189,Tryz.ntmps189
        go_wp2_with fail
        go_ret
        exact⟨retB (by rw [KB2.out]),rfl⟩
      ·have KB2:Hid (b=true):=by show _=_; rw [KB.out,q0,q1,q2,q3,q4]; simp
       clear KB
       go_enter Tryz.func189,Tryz.ntmps189
       go_wp2_with fail
       go_ret
       exact⟨retB (by rw [KB2.out]),rfl⟩
     ·have KB2:Hid (b=true):=by show _=_; rw [KB.out,q0,q1,q2,q3]; simp
      clear KB
      go_enter Tryz.func189,Tryz.ntmps189
      go_wp2_with fail
      go_ret
      exact⟨retB (by rw [KB2.out]),rfl⟩
    ·have KB2:Hid (b=true):=by show _=_; rw [KB.out,q0,q1,q2]; simp
     clear KB
     go_enter Tryz.func189,Tryz.ntmps189
     go_wp2_with fail
     go_ret
     exact⟨retB (by rw [KB2.out]),rfl⟩
   ·have KB2:Hid (b=true):=by show _=_; rw [KB.out,q0,q1]; simp
    clear KB
    go_enter Tryz.func189,Tryz.ntmps189
    go_wp2_with fail
    go_ret
    exact⟨retB (by rw [KB2.out]),rfl⟩
  ·have KB2:Hid (b=true):=by show _=_; rw [KB.out,q0]; simp
   clear KB
   go_enter Tryz.func189,Tryz.ntmps189
   go_wp2_with fail
   go_ret
   exact⟨retB (by rw [KB2.out]),rfl⟩
 ·have h':(s.size:Int) < (a:Int)+2:=by omega
  rw [pairB_short h]
  go_enter Tryz.func189,Tryz.ntmps189
  go_wp2_with fail
  go_ret
  exact⟨rfl,rfl⟩
end Go.Proofs.YtoogodlnnijikaaGreatDoor
