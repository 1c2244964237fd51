import Derived.Test.YtoogodlnnijikaaGreatDoorA0
import Derived.Test.YtoogodlnnijikaaGreatDoorA18
import Derived.Test.YtoogodlnnijikaaGreatDoorA2
import Derived.Test.YtoogodlnnijikaaGreatDoorA1
import Derived.Below
import Derived.BigQuiet
import Derived.Deep.QuietTactic
import Derived.Laws.Rows
import Derived.Outline
import Derived.ProofKit
import Derived.WalkKit
namespace Go.Proofs.YtoogodlnnijikaaGreatDoor
set_option maxHeartbeats 4000000
set_option maxRecDepth 100000
open Go.RowKit
set_option linter.unusedVariables false
theorem nbTy_ne (l:List UInt8):nbTy l≠0:=by
 unfold nbTy
 repeat' split
 all_goals first | decide | omega
theorem lx_ty {l:List UInt8}{k:Int}{n:Nat}{ty v:Int}(h:lx l=some (k,n,ty,v)):k=3 ↔ ty≠0:=by
 unfold lx at h
 split at h
 ·split at h
  ·cases h
  ·cases h
   split <;> simp
 ·split at h
  ·split at h
   ·cases h
   ·split at h
    ·cases h
    ·split at h
     ·cases h
     ·simp only [Option.some.injEq,Prod.mk.injEq] at h
      obtain⟨rfl,_,rfl,_⟩:=h
      simp only [true_iff]
      exact nbTy_ne _
  ·split at h
   ·cases h
   ·cases h; simp
theorem word_k {t:Tk}(h:Good t):∀ x ∈ kwW,t.x=x→t.k=1:=by
 intro x hx e
 have hl:=h.lk
 rw [e] at hl
 simp only [kwW,List.mem_cons,List.not_mem_nil,or_false] at hx
 rcases hx with rfl | rfl | rfl | rfl | rfl | rfl | rfl | rfl | rfl | rfl | rfl | rfl | rfl | rfl | rfl | rfl | rfl | rfl
 all_goals
  have q:=congrArg (fun o=>o.map (·.1)) hl
  simp only [Option.map_some] at q
  have q2:∀ {a b:Option Int}{c:Int},a=some c→a=b→b=some 1→c=1:=fun h1 h2 h3=>by rw [h1] at h2; rw [← h2] at h3; exact Option.some.inj h3
  exact q2 q rfl (by decide +kernel)
theorem mark_k {t:Tk}(h:Good t):∀ x ∈ kwM,t.x=x→t.k=4:=by
 intro x hx e
 have hl:=h.lk
 rw [e] at hl
 simp only [kwM,List.mem_cons,List.not_mem_nil,or_false] at hx
 rcases hx with rfl | rfl | rfl | rfl | rfl | rfl | rfl | rfl | rfl | rfl | rfl | rfl | rfl | rfl | rfl | rfl | rfl | rfl | rfl
 all_goals
  have q:=congrArg (fun o=>o.map (·.1)) hl
  simp only [Option.map_some] at q
  have q2:∀ {a b:Option Int}{c:Int},a=some c→a=b→b=some 4→c=4:=fun h1 h2 h3=>by rw [h1] at h2; rw [← h2] at h3; exact Option.some.inj h3
  exact q2 q rfl (by decide +kernel)
theorem good_ok {t:Tk}(h:Good t) (hr:RgT t):TkOk t:=⟨hr,word_k h,mark_k h,lx_ty h.lk⟩
theorem end_ok {p:Int}(hr:RgT ⟨0,⟨#[]⟩,0,0,p⟩):TkOk ⟨0,⟨#[]⟩,0,0,p⟩:=by
 refine⟨hr,fun x hx e=>?_,fun x hx e=>?_,by simp⟩
 ·exfalso
  simp only [kwW,List.mem_cons,List.not_mem_nil,or_false] at hx
  rcases hx with rfl | rfl | rfl | rfl | rfl | rfl | rfl | rfl | rfl | rfl | rfl | rfl | rfl | rfl | rfl | rfl | rfl | rfl <;> exact absurd (congrArg ByteArray.size (show (⟨#[]⟩:yB)=_ from e)) (by decide)
 ·exfalso
  simp only [kwM,List.mem_cons,List.not_mem_nil,or_false] at hx
  rcases hx with rfl | rfl | rfl | rfl | rfl | rfl | rfl | rfl | rfl | rfl | rfl | rfl | rfl | rfl | rfl | rfl | rfl | rfl | rfl <;> exact absurd (congrArg ByteArray.size (show (⟨#[]⟩:yB)=_ from e)) (by decide)
def Gd (t:Tk):Prop:=Good t∨(t.k=0∧t.x=⟨#[]⟩∧t.ty=0∧t.n=0)
theorem one_gd {s:yB}{f:Nat}(hf:f≤s.size) (h:oneE s f=0):Gd (oneT s f):=by
 by_cases hp:oneP s f=s.size
 ·rw [(oneP_end hp).2]; exact .inr ⟨rfl,rfl,rfl,rfl⟩
 ·exact .inl (one_good hf h hp).1
theorem gd_ok {t:Tk}(h:Gd t) (hr:RgT t):TkOk t:=by
 rcases h with h | ⟨h1,h2,h3,h4⟩
 ·exact good_ok h hr
 ·obtain⟨k,x,ty,n,p⟩:=t
  simp only at h1 h2 h3 h4
  subst h1 h2 h3 h4
  exact end_ok hr
theorem beg_gd {s:yB}:∀ (d f:Nat),s.size - f≤d→f≤s.size→(∀ t ∈ (begO s f).1,Gd t)∧(begO s f).1.length≤s.size - f+1:=by
 intro d
 induction d with
 | zero =>
  intro f h1 h2
  by_cases h:oneE s f=0
  ·by_cases hk:(oneT s f).k=0
   ·rw [beg_end h hk]
    refine⟨fun t ht=>?_,by simp⟩
    obtain rfl:=List.mem_singleton.1 ht
    exact one_gd h2 h
   ·obtain⟨a1,a2,_,_⟩:=KL h2 h hk
    omega
  ·rw [beg_bad h]
   exact⟨fun t ht=>by simp at ht,by simp⟩
 | succ d ih =>
  intro f h1 h2
  by_cases h:oneE s f=0
  ·by_cases hk:(oneT s f).k=0
   ·rw [beg_end h hk]
    refine⟨fun t ht=>?_,by simp⟩
    obtain rfl:=List.mem_singleton.1 ht
    exact one_gd h2 h
   ·obtain⟨a1,a2,_,a4⟩:=KL h2 h hk
    rw [a4]
    obtain⟨b1,b2⟩:=ih _ (by omega) a2
    refine⟨fun t ht=>?_,by simp only [List.length_cons]; omega⟩
    rcases List.mem_cons.1 ht with rfl | ht
    ·exact one_gd h2 h
    ·exact b1 t ht
  ·rw [beg_bad h]
   exact⟨fun t ht=>by simp at ht,by simp⟩
theorem rdT_beg {s:yB}(hs:s.size≤4096):rdT s=(begO s 0).1:=by
 have h1:tksE s=(begO s 0).2.1:=if_neg (by omega)
 unfold rdT
 by_cases h:tksE s=0
 ·rw [if_pos h]
  unfold tksL
  rw [if_pos h]
 ·rw [if_neg h]
  unfold allL allF
  rw [if_neg (by omega),if_neg (by rw [← h1]; exact h)]
theorem rdT_long {s:yB}(hs:s.size > 4096):rdT s = []∧tksE s=110∧tksB s=0:=by
 obtain⟨h1,_,h3⟩:=tks_long hs
 refine⟨?_,h1,?_⟩
 ·unfold rdT
  rw [if_neg (by rw [h1]; decide)]
  unfold allL
  rw [if_pos hs]
 ·unfold tksB
  rw [if_neg (by rw [h1]; decide),if_pos hs]
theorem rdT_gd (s:yB):∀ t ∈ rdT s,Gd t:=by
 by_cases hs:s.size≤4096
 ·rw [rdT_beg hs]
  exact (beg_gd s.size 0 (by omega) (by omega)).1
 ·rw [(rdT_long (by omega)).1]
  exact fun t ht=>by simp at ht
theorem rdT_len (s:yB):(rdT s).length≤4097:=by
 by_cases hs:s.size≤4096
 ·rw [rdT_beg hs]
  have:=(beg_gd (s:=s) s.size 0 (by omega) (by omega)).2
  omega
 ·rw [(rdT_long (by omega)).1]
  simp
theorem tksB_beg {s:yB}(hs:s.size≤4096):tksE s=(begO s 0).2.1∧tksB s=(begO s 0).2.2:=by
 have h1:tksE s=(begO s 0).2.1:=if_neg (by omega)
 refine⟨h1,?_⟩
 unfold tksB
 by_cases h:tksE s=0
 ·rw [if_pos h]
  exact (beg_chain s.size 0 (by omega) (by omega) (h1 ▸ h)).2.symm
 ·rw [if_neg h,if_neg (by omega)]
section
variable {e : Tk} (hk : e.k = 0) (hx : e.x = ⟨#[]⟩) (hy : e.ty = 0)
include hx in
include hx in
include hx in
include hx in
include hx in
include hx in
include hx in
include hx in
include hk hx hy in
include hk hx hy in
include hk hx hy in
include hk hx hy in
include hk hx hy in
include hk hx hy in
end
theorem rf_letter_any (c:UInt8) (w:yW):Calls zG 109 #[zU (c.toNat:Int)] w fun e w'=>e=.returned (.bool (letB c))∧w'=w:=by
 go_enter Tryz.func109,Tryz.ntmps109
 go_wp2
 all_goals go_ret
 all_goals refine⟨retB ?_,rfl⟩
 all_goals unfold letB
 ·have h:97≤c.toNat:=by omega
  by_cases h2:c.toNat≤122
  ·rw [decide_eq_true (show (c.toNat:Int)≤122 by omega),decide_eq_true ⟨h,h2⟩]
  ·rw [decide_eq_false (show ¬ (c.toNat:Int)≤122 by omega),decide_eq_false (fun k=>h2 k.2)]
 ·rw [decide_eq_false (by omega)]
theorem rf_digit_any (c:UInt8) (w:yW):Calls zG 129 #[zU (c.toNat:Int)] w fun e w'=>e=.returned (.bool (digB c))∧w'=w:=by
 go_enter Tryz.func129,Tryz.ntmps129
 go_wp2
 all_goals go_ret
 all_goals refine⟨retB ?_,rfl⟩
 all_goals unfold digB
 ·have h:48≤c.toNat:=by omega
  by_cases h2:c.toNat≤57
  ·rw [decide_eq_true (show (c.toNat:Int)≤57 by omega),decide_eq_true ⟨h,h2⟩]
  ·rw [decide_eq_false (show ¬ (c.toNat:Int)≤57 by omega),decide_eq_false (fun k=>h2 k.2)]
 ·rw [decide_eq_false (by omega)]
theorem Jd {c:UInt8}{b:Bool}(h:letB c=b) (w:yW):Calls zG 109 #[zU (c.toNat:Int)] w fun e w'=>e=.returned (.bool b)∧w'=w:=h ▸ rf_letter_any c w
theorem Qq {c:UInt8}{b:Bool}(h:digB c=b) (w:yW):Calls zG 129 #[zU (c.toNat:Int)] w fun e w'=>e=.returned (.bool b)∧w'=w:=h ▸ rf_digit_any c w
theorem rf_goes_any (c:UInt8) (w:yW):Calls zG 110 #[zU (c.toNat:Int)] w fun e w'=>e=.returned (.bool (goB c))∧w'=w:=by
 cases b1:letB c
 ·cases b2:digB c
  ·have hg:goB c=((c.toNat:Int) == 95):=by
    unfold goB
    rw [b1,b2]
    by_cases h:c.toNat=95
    ·rw [h]; rfl
    ·have h':((c.toNat:Int) == 95)=false:=beq_false_of_ne (by omega)
     rw [h']; simp [h]
   go_enter Tryz.func110,Tryz.ntmps110
   go_wp2_with (first | (go_at_call 109; refine (Jd b1 _).mono ?_; rintro _ v ⟨rfl,e⟩; obtain rfl:=e.symm) | (go_at_call 129; refine (Qq b2 _).mono ?_; rintro _ v ⟨rfl,e⟩; obtain rfl:=e.symm))
   all_goals go_ret
   all_goals exact⟨by rw [hg]; rfl,rfl⟩
  ·have hg:goB c=true:=by unfold goB; rw [b1,b2]; rfl
   go_enter Tryz.func110,Tryz.ntmps110
   go_wp2_with (first | (go_at_call 109; refine (Jd b1 _).mono ?_; rintro _ v ⟨rfl,e⟩; obtain rfl:=e.symm) | (go_at_call 129; refine (Qq b2 _).mono ?_; rintro _ v ⟨rfl,e⟩; obtain rfl:=e.symm))
   all_goals go_ret
   all_goals exact⟨by rw [hg]; rfl,rfl⟩
 ·have hg:goB c=true:=by unfold goB; rw [b1]; rfl
  go_enter Tryz.func110,Tryz.ntmps110
  go_wp2_with (go_at_call 109; refine (Jd b1 _).mono ?_; rintro _ v ⟨rfl,e⟩; obtain rfl:=e.symm)
  all_goals go_ret
  all_goals exact⟨by rw [hg]; rfl,rfl⟩
theorem QC {c:UInt8}{b:Bool}(h:goB c=b) (w:yW):Calls zG 110 #[zU (c.toNat:Int)] w fun e w'=>e=.returned (.bool b)∧w'=w:=h ▸ rf_goes_any c w
theorem Kf (s:yB) (a:Nat) (hs:s.size≤140737488355328) (ha:a≤s.size) (d:Nat) (hd:Hid (d=a+ov (rest s a) false)) (w:yW) :
  Calls zG 127 #[.string s,zI a] w fun e w'=>e=.returned (zI d)∧w'=w:=by
 go_enter Tryz.func127,Tryz.ntmps127
 go_wp2_with fail
 go_loop [5,6] (fun r t=>∃ (i:Nat) (b:Bool),a≤i∧i≤s.size∧t=zI i∧r=.bool b∧Hid (d=i+ov (rest s i) b)) (fun _ t=>s.size - (intOf t).toNat)
 case atStart=>exact⟨a,false,Nat.le_refl _,ha,rfl,rfl,hd⟩
 case round =>
  obtain⟨i,b,hi1,hi2,rfl,rfl,HR⟩:=hrel
  clear hd
  by_cases hlt:i < s.size
  ·have hlt':(i:Int) < (s.size:Int):=by omega
   have hr:=QQ s i hlt
   obtain⟨c,hc⟩:∃ c,s[i]=c:=⟨_,rfl⟩
   rw [hc] at hr
   have hcl:=byte_lt c
   have hq:Hid (rest s i=c :: rest s (i+1)):=hr
   clear hr
   have e10:(((c.toNat:Int) == 10)=true ↔ c.toNat=10):=by rw [beq_iff_eq]; omega
   by_cases k35:c.toNat=35
   ·have x10:((c.toNat:Int) == 10)=false:=beq_false_of_ne (by omega)
    have x35:((c.toNat:Int) == 35)=true:=by rw [k35]; rfl
    have hs2:Hid (d=(i+1)+ov (rest s (i+1)) true):=by
     show _=_
     have e:remB b c=true:=by unfold remB; rw [if_pos k35]
     rw [HR.out,hq.out,ov_go (by rw [e]; simp),e]; omega
    clear e10
    cases b <;> go_wp2 <;> exact⟨⟨i+1,true,by omega,by omega,by go_num,rfl,hs2⟩,by simp only [intOf]; omega⟩
   ·have x35:((c.toNat:Int) == 35)=false:=beq_false_of_ne (by omega)
    by_cases k10:c.toNat=10
    ·have x10:((c.toNat:Int) == 10)=true:=by rw [k10]; rfl
     have hs2:Hid (d=(i+1)+ov (rest s (i+1)) false):=by
      show _=_
      have e:remB b c=false:=by unfold remB; rw [if_neg k35,if_pos k10]
      have e2:Ji c=true:=by unfold Ji; simp [k10]
      rw [HR.out,hq.out,ov_go (by rw [e2]; simp),e]; omega
     have n10:((c.toNat:Int) != 10)=false:=by rw [k10]; rfl
     clear e10
     cases b <;> go_wp2 <;> first | exact⟨⟨i+1,false,by omega,by omega,by go_num,rfl,hs2⟩,by simp only [intOf]; omega⟩ | (exfalso; omega)
    ·have x10:((c.toNat:Int) == 10)=false:=beq_false_of_ne (by omega)
     have n10:((c.toNat:Int) != 10)=true:=by simp; omega
     have e:remB b c=b:=by unfold remB; rw [if_neg k35,if_neg k10]
     clear e10
     cases b
     ·cases hb:Ji c
      ·have n32:((c.toNat:Int) != 32)=true:=by unfold Ji at hb; simp at hb ⊢; omega
       have n9:((c.toNat:Int) != 9)=true:=by unfold Ji at hb; simp at hb ⊢; omega
       have n13:((c.toNat:Int) != 13)=true:=by unfold Ji at hb; simp at hb ⊢; omega
       have hs2:Hid (i=d):=by show _=_; rw [HR.out,hq.out,ov_stop e hb]; omega
       go_wp2
       go_ret
       exact⟨retI (by rw [hs2.out]),rfl⟩
      ·have hs2:Hid (d=(i+1)+ov (rest s (i+1)) false):=by
        show _=_
        rw [HR.out,hq.out,ov_go (by rw [hb]; simp),e]; omega
       have hor:c.toNat=32∨c.toNat=9∨c.toNat=13:=by unfold Ji at hb; simp at hb; omega
       have n32:((c.toNat:Int) != 32)=decide (c.toNat≠32):=by by_cases h:c.toNat=32 <;> simp [h]; omega
       have n9:((c.toNat:Int) != 9)=decide (c.toNat≠9):=by by_cases h:c.toNat=9 <;> simp [h]; omega
       have n13:((c.toNat:Int) != 13)=decide (c.toNat≠13):=by by_cases h:c.toNat=13 <;> simp [h]; omega
       clear hb
       rcases hor with h | h | h
       all_goals simp only [h] at n32 n9 n13
       all_goals go_wp2
       all_goals first | exact⟨⟨i+1,false,by omega,by omega,by go_num,rfl,hs2⟩,by simp only [intOf]; omega⟩ | (exfalso; omega)
     ·have hs2:Hid (d=(i+1)+ov (rest s (i+1)) true):=by
       show _=_
       rw [HR.out,hq.out,ov_go (by rw [e]; simp),e]; omega
      go_wp2
      exact⟨⟨i+1,true,by omega,by omega,by go_num,rfl,hs2⟩,by simp only [intOf]; omega⟩
  ·have hn:¬ (i:Int) < (s.size:Int):=by omega
   have hs2:Hid (s.size=d):=by show _=_; rw [HR.out,Jl s i (by omega)]; show _=i+0; omega
   go_wp2
   go_ret
   exact⟨retI (by rw [hs2.out]),rfl⟩
theorem rf_words_any (w:yW):Calls zG 140 #[] w fun e w'=>e=.returned (.slice (some w§¢0) 41 41)∧w'=w.alloc (.cells wordsV 9):=by
 go_enter Tryz.func140,Tryz.ntmps140
 go_wp2
 go_ret
 exact⟨rfl,rfl⟩
theorem rf_word_any (s:yB) (w:yW):Calls zG 108 #[.string s] w fun e w'=>e=.returned (.bool (isW s))∧yD w w':=by
 have hc:=words_cell w
 have hB:=Qc w (.cells wordsV 9)
 go_enter Tryz.func108,Tryz.ntmps108
 go_wp2_with fail
 refine (rf_words_any _).mono ?_
 rintro _ v ⟨rfl,e⟩
 rw [← e] at hc hB
 have HC:Hid (∀ j,j < 41→v.cell? w§¢j=some (.string (wd j))):=hc
 clear hc e
 go_wp2_with fail
 go_loop [4] (fun t=>∃ i:Nat,i≤41∧t=zI i∧Hid (∀ j,j < i→¬ wd j=s)) (fun t=>41 - (intOf t).toNat)
 case atStart=>exact⟨0,by omega,rfl,fun j hj=>by omega⟩
 case round =>
  obtain⟨i,hi,rfl,HR⟩:=hrel
  by_cases hlt:i < 41
  ·have hlt':(i:Int) < 41:=by omega
   have hcell:=HC.out i hlt
   obtain⟨x,ex⟩:∃ x,wd i=x:=⟨_,rfl⟩
   rw [ex] at hcell
   by_cases he:x=s
   ·have hw:=isW_yes hlt (ex.trans he)
    subst he
    go_wp2
    go_ret
    exact⟨by first | rfl | exact retB hw.symm,hB⟩
   ·have hne:=seq_ne he
    have hn:Hid (∀ j,j < i+1→¬ wd j=s):=fun j hj=>by
     by_cases e:j=i
     ·subst e; rw [ex]; exact he
     ·exact HR.out j (by omega)
    clear he ex
    go_wp2
    exact⟨⟨i+1,by omega,by go_num,hn⟩,by simp only [intOf]; omega⟩
  ·obtain rfl:i=41:=by omega
   have hw:=isW_no HR.out
   go_wp2
   go_ret
   exact⟨by first | rfl | exact retB hw.symm,hB⟩
theorem rf_named_any (s:yB) (a:Nat) (hs:s.size≤140737488355328) (ha:a≤s.size) (w:yW) :
  Calls zG 128 #[.string s,zI a] w fun e w'=>e=.returned (.tuple #[.agg (tkA (nmT s a)),zI (nmE s a)])∧yD w w':=by
 obtain⟨d,hd⟩:∃ d,a+lead goB (rest s a)=d:=⟨_,rfl⟩
 have hd1:a≤d:=by omega
 have hd2:d≤s.size:=by have:=lead_le goB (rest s a); rw [Jj] at this; omega
 have HT:Hid (nmT s a=if d - a > 16 then tk0 else ⟨if isW (s.extract a d)=true then 1 else 2,s.extract a d,0,0,a⟩):=by show _=_; unfold nmT; rw [hd,show lead goB (rest s a)=d - a by omega]
 have HE:Hid (nmE s a=if d - a > 16 then 112 else 0):=by show _=_; unfold nmE; rw [show lead goB (rest s a)=d - a by omega]
 have HD:Hid (d=a+lead goB (rest s a)):=hd.symm
 have H0:Hid (TkH (w.alloc (.cells (tkA tk0) 148)) w§ tk0):=Qd w _
 have hB:=Qc w (.cells (tkA tk0) 148)
 have hz:=Qf w (.cells (tkA tk0) 148)
 unfold tkA tk0 at hB hz
 dsimp only at hB hz
 clear hd
 go_enter Tryz.func128,Tryz.ntmps128
 go_wp2_with fail
 obtain⟨W,eW⟩:∃ W,w.alloc (.cells zl 148)=W:=⟨_,rfl⟩
 have H1:Hid (TkH W w§ tk0):=by have:=H0.out; unfold tkA tk0 at this; dsimp only at this; rw [eW] at this; exact this
 rw [eW] at hB hz ⊢
 clear eW H0
 go_loop [6] (fun t=>∃ i:Nat,a≤i∧i≤d∧t=zI i∧Hid (d=i+lead goB (rest s i))) (fun t=>s.size - (intOf t).toNat)
 case atStart=>exact⟨a,Nat.le_refl _,hd1,rfl,HD⟩
 case round =>
  obtain⟨i,hi1,hi2,rfl,HR⟩:=hrel
  clear HD
  by_cases hlt:i < s.size
  ·have hlt':(i:Int) < (s.size:Int):=by omega
   have hr:=QQ s i hlt
   obtain⟨c,hc⟩:∃ c,s[i]=c:=⟨_,rfl⟩
   rw [hc] at hr
   cases hg:goB c
   ·have hs2:Hid (i=d):=by show _=_; rw [HR.out,hr,lead,if_neg (by rw [hg]; decide)]; omega
    have hs3:=hs2.out
    subst hs3
    clear hr hs2 HR
    by_cases h16:i - a > 16
    ·have h16':(16:Int) < (i:Int) - (a:Int):=by omega
     have hT:=HT.out
     rw [if_pos h16] at hT
     have hE:=HE.out
     rw [if_pos h16] at hE
     obtain⟨r0,r1,r2,r3,r4⟩:=H1.out.cells
     obtain⟨f0,f1,f2,f3,f4⟩:=H1.out.froz
     have hlt4:=H1.out.lt
     have KT:Hid (nmT s a=tk0):=hT
     have KE:Hid (nmE s a=112):=hE
     clear hT hE HT HE
     go_wp2_with (go_at_call 110; refine (QC hg _).mono ?_; rintro _ v ⟨rfl,e⟩; obtain rfl:=e.symm)
     exact bodyPost_ret (Qg (p:=4) (u:=5) (ty:=148) rfl _ _ w§ 148 (tkA tk0) (0,0) _ rfl (QI (H1.out.put tk0) (H1.out.put tk0).lt) Tryz.underlying148 rfl zK) rfl ⟨by rw [KT.out,KE.out]; rfl,(Qp hB (Nat.le_refl _) _ _ _ _ _).alloc (Qp hB (Nat.le_refl _) _ _ _ _ _).size _⟩
    ·have h16':¬ (16:Int) < (i:Int) - (a:Int):=by omega
     have hT:=HT.out
     rw [if_neg h16] at hT
     have hE:=HE.out
     rw [if_neg h16] at hE
     obtain⟨x,ex⟩:∃ x,s.extract a i=x:=⟨_,rfl⟩
     rw [ex] at hT
     have hY:TkH (W.alloc (.cells (tkA ⟨2,x,0,0,a⟩) 148)) W§ ⟨2,x,0,0,a⟩:=Qd W _
     have hR:TkH (W.alloc (.cells (tkA ⟨2,x,0,0,a⟩) 148)) w§ tk0:=QI H1.out H1.out.lt
     have hB2:=hB.alloc hB.size (.cells (tkA ⟨2,x,0,0,a⟩) 148)
     rw [hz] at hY
     have HY:=hY.hid
     have HRR:=hR.hid
     have HB2:Hid (yD w (W.alloc (.cells (tkA ⟨2,x,0,0,a⟩) 148))):=hB2
     have hwa:=rf_word_any x
     cases hw:isW x
     ·rw [hw] at hT hwa
      have hT':nmT s a=⟨2,x,0,0,a⟩:=hT
      have KT:Hid (nmT s a=⟨2,x,0,0,a⟩):=hT'
      have KE:Hid (nmE s a=0):=hE
      clear hT hE HT HE hT' hY hR hB2
      go_wp2_with (go_at_call 110; refine (QC hg _).mono ?_; rintro _ v ⟨rfl,e⟩; obtain rfl:=e.symm)
      refine (hwa _).mono ?_
      rintro _ v ⟨rfl,bb⟩
      have HY2:=(HY.out.onto bb).hid
      have HR2:=(HRR.out.onto bb).hid
      have hB3:=HB2.out.trans (bb.mono HB2.out.size)
      obtain⟨y0,y1,y2,y3,y4⟩:=HY2.out.cells
      obtain⟨r0,r1,r2,r3,r4⟩:=HR2.out.cells
      obtain⟨f0,f1,f2,f3,f4⟩:=HR2.out.froz
      clear bb
      go_wp2
      exact bodyPost_ret (Qg (p:=4) (u:=5) (ty:=148) rfl _ _ w§ 148 (tkA ⟨2,x,0,0,a⟩) (0,0) _ rfl (HR2.out.put ⟨2,x,0,0,a⟩) Tryz.underlying148 rfl zK) rfl ⟨by rw [KT.out,KE.out]; rfl,Qp hB3 (Nat.le_refl _) _ _ _ _ _⟩
     ·rw [hw] at hT hwa
      have hT':nmT s a=⟨1,x,0,0,a⟩:=hT
      have KT:Hid (nmT s a=⟨1,x,0,0,a⟩):=hT'
      have KE:Hid (nmE s a=0):=hE
      clear hT hE HT HE hT' hY hR hB2
      go_wp2_with (go_at_call 110; refine (QC hg _).mono ?_; rintro _ v ⟨rfl,e⟩; obtain rfl:=e.symm)
      refine (hwa _).mono ?_
      rintro _ v ⟨rfl,bb⟩
      have HY2:=(HY.out.onto bb).hid
      have HR2:=(HRR.out.onto bb).hid
      have hB3:=HB2.out.trans (bb.mono HB2.out.size)
      obtain⟨V,eV⟩:∃ V,v.setCell ⟨w§+1,0,none⟩ (zU 1)=V:=⟨_,rfl⟩
      have HY3:Hid (TkH V (w§+1) ⟨1,x,0,0,a⟩):=by show TkH V _ _; rw [← eV]; exact Qi _ HY2.out
      have HR3:Hid (TkH V w§ tk0):=by show TkH V _ _; rw [← eV]; exact (Below.heap_setCell _ _ _ _ (by simp)).trans HR2.out
      have hB4:yD w V:=by rw [← eV]; exact hB3.setCell (p:=⟨w§+1,0,none⟩) (by simp) _
      obtain⟨z0,z1,z2,z3,z4⟩:=HY2.out.cells
      obtain⟨g0,g1,g2,g3,g4⟩:=HY2.out.froz
      obtain⟨y0,y1,y2,y3,y4⟩:=HY3.out.cells
      obtain⟨r0,r1,r2,r3,r4⟩:=HR3.out.cells
      obtain⟨f0,f1,f2,f3,f4⟩:=HR3.out.froz
      clear bb hB3
      go_wp2
      exact bodyPost_ret (Qg (p:=4) (u:=5) (ty:=148) rfl _ _ w§ 148 (tkA ⟨1,x,0,0,a⟩) (0,0) _ rfl (HR3.out.put ⟨1,x,0,0,a⟩) Tryz.underlying148 rfl zK) rfl ⟨by rw [KT.out,KE.out]; rfl,Qp hB4 (Nat.le_refl _) _ _ _ _ _⟩
   ·have hs2:Hid (d=(i+1)+lead goB (rest s (i+1))):=by show _=_; rw [HR.out,hr,lead,if_pos hg]; omega
    have h3:i+1≤d:=by have:=hs2.out; omega
    clear hr
    go_wp2_with (go_at_call 110; refine (QC hg _).mono ?_; rintro _ v ⟨rfl,e⟩; obtain rfl:=e.symm)
    exact⟨⟨i+1,by omega,h3,by go_num,hs2⟩,by simp only [intOf]; omega⟩
  ·have hn:¬ (i:Int) < (s.size:Int):=by omega
   have hs3:i=d:=by rw [HR.out,Jl s i (by omega)]; rfl
   subst hs3
   clear HR
   by_cases h16:i - a > 16
   ·have h16':(16:Int) < (i:Int) - (a:Int):=by omega
    have hT:=HT.out
    rw [if_pos h16] at hT
    have hE:=HE.out
    rw [if_pos h16] at hE
    obtain⟨r0,r1,r2,r3,r4⟩:=H1.out.cells
    obtain⟨f0,f1,f2,f3,f4⟩:=H1.out.froz
    have hlt4:=H1.out.lt
    have KT:Hid (nmT s a=tk0):=hT
    have KE:Hid (nmE s a=112):=hE
    clear hT hE HT HE
    go_wp2_with fail
    exact bodyPost_ret (Qg (p:=4) (u:=5) (ty:=148) rfl _ _ w§ 148 (tkA tk0) (0,0) _ rfl (QI (H1.out.put tk0) (H1.out.put tk0).lt) Tryz.underlying148 rfl zK) rfl ⟨by rw [KT.out,KE.out]; rfl,(Qp hB (Nat.le_refl _) _ _ _ _ _).alloc (Qp hB (Nat.le_refl _) _ _ _ _ _).size _⟩
   ·have h16':¬ (16:Int) < (i:Int) - (a:Int):=by omega
    have hT:=HT.out
    rw [if_neg h16] at hT
    have hE:=HE.out
    rw [if_neg h16] at hE
    obtain⟨x,ex⟩:∃ x,s.extract a i=x:=⟨_,rfl⟩
    rw [ex] at hT
    have hY:TkH (W.alloc (.cells (tkA ⟨2,x,0,0,a⟩) 148)) W§ ⟨2,x,0,0,a⟩:=Qd W _
    have hR:TkH (W.alloc (.cells (tkA ⟨2,x,0,0,a⟩) 148)) w§ tk0:=QI H1.out H1.out.lt
    have hB2:=hB.alloc hB.size (.cells (tkA ⟨2,x,0,0,a⟩) 148)
    rw [hz] at hY
    have HY:=hY.hid
    have HRR:=hR.hid
    have HB2:Hid (yD w (W.alloc (.cells (tkA ⟨2,x,0,0,a⟩) 148))):=hB2
    have hwa:=rf_word_any x
    cases hw:isW x
    ·rw [hw] at hT hwa
     have hT':nmT s a=⟨2,x,0,0,a⟩:=hT
     have KT:Hid (nmT s a=⟨2,x,0,0,a⟩):=hT'
     have KE:Hid (nmE s a=0):=hE
     clear hT hE HT HE hT' hY hR hB2
     go_wp2_with fail
     refine (hwa _).mono ?_
     rintro _ v ⟨rfl,bb⟩
     have HY2:=(HY.out.onto bb).hid
     have HR2:=(HRR.out.onto bb).hid
     have hB3:=HB2.out.trans (bb.mono HB2.out.size)
     obtain⟨y0,y1,y2,y3,y4⟩:=HY2.out.cells
     obtain⟨r0,r1,r2,r3,r4⟩:=HR2.out.cells
     obtain⟨f0,f1,f2,f3,f4⟩:=HR2.out.froz
     clear bb
     go_wp2
     exact bodyPost_ret (Qg (p:=4) (u:=5) (ty:=148) rfl _ _ w§ 148 (tkA ⟨2,x,0,0,a⟩) (0,0) _ rfl (HR2.out.put ⟨2,x,0,0,a⟩) Tryz.underlying148 rfl zK) rfl ⟨by rw [KT.out,KE.out]; rfl,Qp hB3 (Nat.le_refl _) _ _ _ _ _⟩
    ·rw [hw] at hT hwa
     have hT':nmT s a=⟨1,x,0,0,a⟩:=hT
     have KT:Hid (nmT s a=⟨1,x,0,0,a⟩):=hT'
     have KE:Hid (nmE s a=0):=hE
     clear hT hE HT HE hT' hY hR hB2
     go_wp2_with fail
     refine (hwa _).mono ?_
     rintro _ v ⟨rfl,bb⟩
     have HY2:=(HY.out.onto bb).hid
     have HR2:=(HRR.out.onto bb).hid
     have hB3:=HB2.out.trans (bb.mono HB2.out.size)
     obtain⟨V,eV⟩:∃ V,v.setCell ⟨w§+1,0,none⟩ (zU 1)=V:=⟨_,rfl⟩
     have HY3:Hid (TkH V (w§+1) ⟨1,x,0,0,a⟩):=by show TkH V _ _; rw [← eV]; exact Qi _ HY2.out
     have HR3:Hid (TkH V w§ tk0):=by show TkH V _ _; rw [← eV]; exact (Below.heap_setCell _ _ _ _ (by simp)).trans HR2.out
     have hB4:yD w V:=by rw [← eV]; exact hB3.setCell (p:=⟨w§+1,0,none⟩) (by simp) _
     obtain⟨z0,z1,z2,z3,z4⟩:=HY2.out.cells
     obtain⟨g0,g1,g2,g3,g4⟩:=HY2.out.froz
     obtain⟨y0,y1,y2,y3,y4⟩:=HY3.out.cells
     obtain⟨r0,r1,r2,r3,r4⟩:=HR3.out.cells
     obtain⟨f0,f1,f2,f3,f4⟩:=HR3.out.froz
     clear bb hB3
     go_wp2
     exact bodyPost_ret (Qg (p:=4) (u:=5) (ty:=148) rfl _ _ w§ 148 (tkA ⟨1,x,0,0,a⟩) (0,0) _ rfl (HR3.out.put ⟨1,x,0,0,a⟩) Tryz.underlying148 rfl zK) rfl ⟨by rw [KT.out,KE.out]; rfl,Qp hB4 (Nat.le_refl _) _ _ _ _ _⟩
theorem rf_mark_any (s:yB) (a:Nat) (hs:s.size≤140737488355328) (ha:a≤s.size) (w:yW) :
  Calls zG 131 #[.string s,zI a] w fun e w'=>e=.returned (.tuple #[.agg (tkA (mkT s a)),zI (mkE s a)])∧yD w w':=by
 have h0:TkH ((w.alloc (.cells (tkA tk0) 148)).alloc (.cells marksV 9)) w§ tk0:=QI (Qd w _) (by rw [Qf]; omega)
 have hc:∀ j,j < 23→((w.alloc (.cells (tkA tk0) 148)).alloc (.cells marksV 9)).cell? ⟨w§+1,j,none⟩=some (.string (mk j)):=fun j hj=>by
  have:=marks_cell (w.alloc (.cells (tkA tk0) 148)) j hj
  rwa [Qf] at this
 have hB:=Ql w (.cells (tkA tk0) 148) (.cells marksV 9)
 go_enter Tryz.func131,Tryz.ntmps131
 go_wp2_with fail
 obtain⟨W,eW⟩:∃ W,(w.alloc (.cells (tkA tk0) 148)).alloc (.cells marksV 9)=W:=⟨_,rfl⟩
 rw [eW] at h0 hc hB
 have eW':(w.alloc (.cells zl 148)).alloc (.cells #[.string Zw,.string Zx,.string Zy,.string Zz,.string Z03,.string Z04,.string Z01,.string ZW,.string Zo,.string Zv,.string Zq,.string ZN,.string ZQ,.string ZX,.string Z02,.string ZA,.string ZB,.string ZC,.string ZD,.string Zm,.string ZE,.string ZF,.string ZG] 9)=W:=eW
 rw [eW']
 have H0:=h0.hid
 have HC:Hid (∀ j,j < 23→W.cell? ⟨w§+1,j,none⟩=some (.string (mk j))):=hc
 clear h0 hc eW eW'
 go_loopw [7] (fun t wr=>∃ i n:Nat,i≤23∧t=zI i∧wr=W.drewN n∧Hid (∀ j,j < i→mkB s a j=false)) (fun t _=>23 - (intOf t).toNat)
 case atStart=>exact⟨0,0,by omega,rfl,rfl,fun j hj=>by omega⟩
 case round =>
  obtain⟨i,n,hi,rfl,rfl,HR⟩:=hrel
  by_cases hlt:i < 23
  ·have hlt':(i:Int) < 23:=by omega
   have hcell:=HC.out i hlt
   have hsz:=mk_size i
   obtain⟨x,ex⟩:∃ x,mk i=x:=⟨_,rfl⟩
   rw [ex] at hcell hsz
   obtain⟨r0,r1,r2,r3,r4⟩:=H0.out.cells
   obtain⟨f0,f1,f2,f3,f4⟩:=H0.out.froz
   obtain⟨q,hq⟩:∃ q:Nat,a+x.size=q:=⟨_,rfl⟩
   have hq':(a:Int)+(x.size:Int)=(q:Int):=by omega
   have haq:a≤q:=by omega
   have haq':(a:Int)≤(q:Int):=by omega
   by_cases hfit:q≤s.size
   ·have hfit':(q:Int)≤(s.size:Int):=by omega
    obtain⟨y,ey⟩:∃ y,s.extract a q=y:=⟨_,rfl⟩
    by_cases he:y=x
    ·have hm:mkB s a i=true:=by unfold mkB; rw [ex,hq,ey,he,decide_eq_true hfit]; simp
     have hO:=mkO_some hlt HR.out hm
     have KT:Hid (mkT s a=⟨4,x,0,0,a⟩):=by show _=_; unfold mkT; rw [hO]; simp only [ex]
     have KE:Hid (mkE s a=0):=by show _=_; unfold mkE; rw [hO]
     subst he
     clear hm hO ex hq
     go_wp2
     go_quiet (fail)
     go_wp2
     exact bodyPost_ret (Qg (p:=4) (u:=5) (ty:=148) rfl _ _ w§ 148 (tkA ⟨4,y,0,0,a⟩) (0,0) _ rfl ((H0.out.drewN _).put ⟨4,y,0,0,a⟩) Tryz.underlying148 rfl zK) rfl ⟨by rw [KT.out,KE.out]; rfl,Qp (below_drew hB _) (Nat.le_refl _) _ _ _ _ _⟩
    ·have hne:=seq_ne he
     have hm:mkB s a i=false:=by
      unfold mkB
      rw [ex,hq,ey]
      have:(y.data.toList == x.data.toList)=false:=beq_false_of_ne (fun h=>he (str_eq h))
      rw [this]; simp
     have hn:Hid (∀ j,j < i+1→mkB s a j=false):=fun j hj=>by
      by_cases e:j=i
      ·subst e; exact hm
      ·exact HR.out j (by omega)
     clear hm ex hq he
     go_wp2
     go_quiet (fail)
     go_wp2
     exact⟨⟨i+1,_,by omega,by go_num,rfl,hn⟩,by simp only [intOf]; omega⟩
   ·have hfit':¬ (q:Int)≤(s.size:Int):=by omega
    have hm:mkB s a i=false:=by unfold mkB; rw [ex,hq,decide_eq_false hfit]; rfl
    have hn:Hid (∀ j,j < i+1→mkB s a j=false):=fun j hj=>by
     by_cases e:j=i
     ·subst e; exact hm
     ·exact HR.out j (by omega)
    clear hm ex hq
    go_wp2
    go_quiet (fail)
    go_wp2
    exact⟨⟨i+1,_,by omega,by go_num,rfl,hn⟩,by simp only [intOf]; omega⟩
  ·obtain rfl:i=23:=by omega
   have hO:=mkO_none HR.out
   have KT:Hid (mkT s a=tk0):=by show _=_; unfold mkT; rw [hO]
   have KE:Hid (mkE s a=111):=by show _=_; unfold mkE; rw [hO]
   obtain⟨r0,r1,r2,r3,r4⟩:=H0.out.cells
   obtain⟨f0,f1,f2,f3,f4⟩:=H0.out.froz
   clear hO
   go_wp2
   exact bodyPost_ret (Qg (p:=4) (u:=5) (ty:=148) rfl _ _ w§ 148 (tkA tk0) (0,0) _ rfl ((H0.out.drewN _).put tk0) Tryz.underlying148 rfl zK) rfl ⟨by rw [KT.out,KE.out]; rfl,Qp (below_drew hB _) (Nat.le_refl _) _ _ _ _ _⟩
end Go.Proofs.YtoogodlnnijikaaGreatDoor
