import Derived.Test.YtfbjofnaghjmeaaGreatDoorA0
import Derived.Test.YtfbjofnaghjmeaaGreatDoorA8
import Derived.Test.YtfbjofnaghjmeaaGreatDoorA1
import Derived.Deep.CutRange
import Derived.Deep.DeepCutAuto
namespace Go.Proofs.YtfbjofnaghjmeaaGreatDoor
set_option maxHeartbeats 8000000
set_option maxRecDepth 100000
open Go.RowKit
set_option linter.unusedVariables false
theorem rf_number_any (s:yB) (a:Nat) (hs:s.size≤140737488355328) (ha:a < s.size) (w:yW) :
  Calls zG 201 #[.string s,zI a] w fun e w'=>e=.returned (.tuple #[.agg (tkA (nbT s a)),zI (nbE s a)])∧yD w w':=by
 obtain⟨z,hz⟩:∃ z,s[a]=z:=⟨_,rfl⟩
 have HZ:Hid (rest s a=z :: rest s (a+1)):=by show _=_; rw [rest_at s a ha,hz]
 have hzl:=byte_lt z
 have ha':(a:Int) < (s.size:Int):=by omega
 go_enter Tryz.func201,Tryz.ntmps201
 go_wp2_with fail
 go_loop [7,8] (fun t u=>∃ i n:Nat,a≤i∧i≤s.size∧t=zI i∧u=.int .u64 n∧n≤9223372036854775809∧Hid (nmS (rest s a) 0 0=nmS (rest s i) n (i - a))) (fun t _=>s.size - (intOf t).toNat)
 case atStart=>exact⟨a,0,Nat.le_refl _,by omega,rfl,rfl,by omega,by show _=_; rw [Nat.sub_self]⟩
 case round =>
  obtain⟨i,n,hi1,hi2,rfl,rfl,hn9,HR⟩:=hrel
  by_cases hlt:i < s.size
  ·have hlt':(i:Int) < (s.size:Int):=by omega
   obtain⟨c,hc⟩:∃ c,s[i]=c:=⟨_,rfl⟩
   have HQ:Hid (rest s i=c :: rest s (i+1)):=by show _=_; rw [rest_at s i hlt,hc]
   have hcl:=byte_lt c
   cases hg:digB c
   ·skip
    have HN:Hid (nmS (rest s a) 0 0=some (n,i - a)):=by show _=_; rw [HR.out,HQ.out,nmS,if_neg (by rw [hg]; decide)]
    by_cases hbig:n > 9223372036854775807
    ·have hbig':(9223372036854775807:Int) < (n:Int):=by omega
     have HA:Hid True:=trivial
     have KK:=nb_no (s:=s) (a:=a) (by rw [nbO_of HN.out hi1]; rw [if_pos (Or.inl hbig)])
     clear HR HN HA
     go_wp2_with (go_at_call 169; refine (rf_digit_b hg _).mono ?_; rintro _ v ⟨rfl,e⟩; obtain rfl:=e.symm)
     exact bodyPost_ret (results_two (p:=4) (u:=5) (ty:=233) rfl _ _ w§ 233 (tkA tk0) (0,0) _ rfl (heap_fst _ _ _) Tryz.underlying233 rfl zK) rfl ⟨by rw [KK.out.1,KK.out.2]; rfl,below_two _ _ _⟩
    ·have hbig':¬ (9223372036854775807:Int) < (n:Int):=by omega
     have hwr:IntKind.i64.wrap (n:Int)=(n:Int):=by simp only [IntKind.wrap_i64]; omega
     by_cases hz0:i - a > 1∧z.toNat=48
     ·have hz1:(1:Int) < (i:Int) - (a:Int):=by omega
      have hz2:((z.toNat:Int) == 48)=true:=by rw [hz0.2]; rfl
      have HA:Hid True:=trivial
      have KK:=nb_no (s:=s) (a:=a) (by rw [nbO_of HN.out hi1]; rw [if_pos (Or.inr ⟨hz0.1,by rw [HZ.out]; exact decide_eq_true hz0.2⟩)])
      clear HR HN HA
      go_wp2_with (go_at_call 169; refine (rf_digit_b hg _).mono ?_; rintro _ v ⟨rfl,e⟩; obtain rfl:=e.symm)
      exact bodyPost_ret (results_two (p:=4) (u:=5) (ty:=233) rfl _ _ w§ 233 (tkA tk0) (0,0) _ rfl (heap_fst _ _ _) Tryz.underlying233 rfl zK) rfl ⟨by rw [KK.out.1,KK.out.2]; rfl,below_two _ _ _⟩
     ·have HA:Hid (¬ (n > 9223372036854775807∨(i - a > 1∧hd0 (rest s a)=true))):=by
       rintro (h | ⟨h1,h2⟩)
       ·exact hbig h
       ·rw [HZ.out] at h2; exact hz0 ⟨h1,of_decide_eq_true h2⟩
      have hzz:((i:Int) - (a:Int)≤1)∨(((z.toNat:Int) == 48)=false):=by
       by_cases h:i - a > 1
       ·exact .inr (beq_false_of_ne (fun e=>hz0 ⟨h,by omega⟩))
       ·exact .inl (by omega)
      clear hz0
      go_upto_region 9 with (go_at_call 169; refine (rf_digit_b hg _).mono ?_; rintro _ v ⟨rfl,e⟩; obtain rfl:=e.symm)
      go_cut [48] from 35 to 48 (fun s48 wx=>s48=.bool false∧wx=(w.alloc (.cells zt 233)).alloc (.cells #[zU 3,yQ,zU 1,zI 0,zI (a:Int)] 233))
      case first =>
       rcases hzz with h | h
       ·have hz1:¬ (1:Int) < (i:Int) - (a:Int):=by omega
        go_wp2
        go_meet
        case rel=>exact⟨by first | rfl | (rw [decide_eq_false (by omega)]),rfl⟩
       ·by_cases hz1:(1:Int) < (i:Int) - (a:Int)
        ·go_wp2
         go_meet
         case rel=>exact⟨by first | rfl | (rw [decide_eq_false (by omega)]),rfl⟩
        ·go_wp2
         go_meet
         case rel=>exact⟨by first | rfl | (rw [decide_eq_false (by omega)]),rfl⟩
      case rest =>
       obtain⟨rfl,rfl⟩:=hcut
       by_cases k113:c.toNat=113
       ·have hty:nbTy (rest s i)=2:=by rw [HQ.out]; simp [nbTy,k113]
        have x1:((c.toNat:Int) == 113)=true:=by rw [k113]; rfl
        have x2:((c.toNat:Int) == 112)=false:=beq_false_of_ne (by omega)
        have x3:((c.toNat:Int) == 116)=false:=beq_false_of_ne (by omega)
        obtain⟨q,hq⟩:∃ q:Nat,i+1=q:=⟨_,rfl⟩
        have hq':(i:Int)+1=(q:Int):=by omega
        have hqa:a≤q:=by omega
        have hqs:q≤s.size:=by omega
        by_cases hl2:q < s.size
        ·have hl2':(q:Int) < (s.size:Int):=by omega
         obtain⟨c2,hc2⟩:∃ c2,s[q]=c2:=⟨_,rfl⟩
         have HQ2:Hid (rest s (i+1)=c2 :: rest s (q+1)):=by show _=_; rw [hq,rest_at s q hl2,hc2]
         have hcl2:=byte_lt c2
         cases hgo:goB c2
         ·by_cases hup:65≤c2.toNat∧c2.toNat≤90
          ·have hu1:(65:Int)≤(c2.toNat:Int):=by omega
           have hu2:(c2.toNat:Int)≤90:=by omega
           have KK:=nb_no (s:=s) (a:=a) (by rw [nbO_of HN.out hi1,if_neg HA.out,hty]; simp [HQ2.out,badH,upB,hup])
           clear HR HN HA hq hty
           go_wp2_with (first | (go_at_call 169; refine (rf_digit_b hg _).mono ?_; rintro _ v ⟨rfl,e⟩; obtain rfl:=e.symm) | (go_at_call 124; refine (rf_goes_b hgo _).mono ?_; rintro _ v ⟨rfl,e⟩; obtain rfl:=e.symm))
           exact bodyPost_ret (results_two (p:=4) (u:=5) (ty:=233) rfl _ _ w§ 233 (tkA tk0) (0,0) _ rfl (heap_fst _ _ _) Tryz.underlying233 rfl zK) rfl ⟨by rw [KK.out.1,KK.out.2]; rfl,below_two _ _ _⟩
          ·have hu:¬ ((65:Int)≤(c2.toNat:Int))∨¬ ((c2.toNat:Int)≤90):=by omega
           rcases hu with hu | hu
           ·have KK:=nb_yes (s:=s) (a:=a) (n:=n) (e:=i+1) (ty:=2) (by rw [nbO_of HN.out hi1,if_neg HA.out,hty]; simp [HQ2.out,badH,upB,hup,hgo])
            rw [hq] at KK
            obtain⟨x,ex⟩:∃ x,s.extract a q=x:=⟨_,rfl⟩
            rw [ex] at KK
            clear HR HN HA hq hty
            go_wp2_with (first | (go_at_call 169; refine (rf_digit_b hg _).mono ?_; rintro _ v ⟨rfl,e⟩; obtain rfl:=e.symm) | (go_at_call 124; refine (rf_goes_b hgo _).mono ?_; rintro _ v ⟨rfl,e⟩; obtain rfl:=e.symm))
            exact bodyPost_ret (results_two (p:=4) (u:=5) (ty:=233) rfl _ _ w§ 233 (tkA ⟨3,x,2,(n:Int),(a:Int)⟩) (0,0) _ rfl (heap_fst _ _ _) Tryz.underlying233 rfl zK) rfl ⟨by rw [KK.out.1,KK.out.2]; rfl,below_two _ _ _⟩
           ·have KK:=nb_yes (s:=s) (a:=a) (n:=n) (e:=i+1) (ty:=2) (by rw [nbO_of HN.out hi1,if_neg HA.out,hty]; simp [HQ2.out,badH,upB,hup,hgo])
            rw [hq] at KK
            obtain⟨x,ex⟩:∃ x,s.extract a q=x:=⟨_,rfl⟩
            rw [ex] at KK
            clear HR HN HA hq hty
            go_wp2_with (first | (go_at_call 169; refine (rf_digit_b hg _).mono ?_; rintro _ v ⟨rfl,e⟩; obtain rfl:=e.symm) | (go_at_call 124; refine (rf_goes_b hgo _).mono ?_; rintro _ v ⟨rfl,e⟩; obtain rfl:=e.symm))
            exact bodyPost_ret (results_two (p:=4) (u:=5) (ty:=233) rfl _ _ w§ 233 (tkA ⟨3,x,2,(n:Int),(a:Int)⟩) (0,0) _ rfl (heap_fst _ _ _) Tryz.underlying233 rfl zK) rfl ⟨by rw [KK.out.1,KK.out.2]; rfl,below_two _ _ _⟩
         ·have hgo':=hgo
          have KK:=nb_no (s:=s) (a:=a) (by rw [nbO_of HN.out hi1,if_neg HA.out,hty]; simp [HQ2.out,badH,hgo])
          clear HR HN HA hq hty
          go_wp2_with (first | (go_at_call 169; refine (rf_digit_b hg _).mono ?_; rintro _ v ⟨rfl,e⟩; obtain rfl:=e.symm) | (go_at_call 124; refine (rf_goes_b hgo _).mono ?_; rintro _ v ⟨rfl,e⟩; obtain rfl:=e.symm))
          exact bodyPost_ret (results_two (p:=4) (u:=5) (ty:=233) rfl _ _ w§ 233 (tkA tk0) (0,0) _ rfl (heap_fst _ _ _) Tryz.underlying233 rfl zK) rfl ⟨by rw [KK.out.1,KK.out.2]; rfl,below_two _ _ _⟩
        ·have hl2':¬ (q:Int) < (s.size:Int):=by omega
         have HE2:Hid (rest s (i+1) = []):=by show _=_; rw [hq]; exact rest_end s q (by omega)
         have KK:=nb_yes (s:=s) (a:=a) (n:=n) (e:=i+1) (ty:=2) (by rw [nbO_of HN.out hi1,if_neg HA.out,hty]; simp [HE2.out,badH])
         rw [hq] at KK
         obtain⟨x,ex⟩:∃ x,s.extract a q=x:=⟨_,rfl⟩
         rw [ex] at KK
         clear HR HN HA hq hty
         go_wp2_with (go_at_call 169; refine (rf_digit_b hg _).mono ?_; rintro _ v ⟨rfl,e⟩; obtain rfl:=e.symm)
         exact bodyPost_ret (results_two (p:=4) (u:=5) (ty:=233) rfl _ _ w§ 233 (tkA ⟨3,x,2,(n:Int),(a:Int)⟩) (0,0) _ rfl (heap_fst _ _ _) Tryz.underlying233 rfl zK) rfl ⟨by rw [KK.out.1,KK.out.2]; rfl,below_two _ _ _⟩
       by_cases k112:c.toNat=112
       ·have hty:nbTy (rest s i)=3:=by rw [HQ.out]; simp [nbTy,k112]
        have x1:((c.toNat:Int) == 113)=false:=beq_false_of_ne (by omega)
        have x2:((c.toNat:Int) == 112)=true:=by rw [k112]; rfl
        have x3:((c.toNat:Int) == 116)=false:=beq_false_of_ne (by omega)
        obtain⟨q,hq⟩:∃ q:Nat,i+1=q:=⟨_,rfl⟩
        have hq':(i:Int)+1=(q:Int):=by omega
        have hqa:a≤q:=by omega
        have hqs:q≤s.size:=by omega
        by_cases hl2:q < s.size
        ·have hl2':(q:Int) < (s.size:Int):=by omega
         obtain⟨c2,hc2⟩:∃ c2,s[q]=c2:=⟨_,rfl⟩
         have HQ2:Hid (rest s (i+1)=c2 :: rest s (q+1)):=by show _=_; rw [hq,rest_at s q hl2,hc2]
         have hcl2:=byte_lt c2
         cases hgo:goB c2
         ·by_cases hup:65≤c2.toNat∧c2.toNat≤90
          ·have hu1:(65:Int)≤(c2.toNat:Int):=by omega
           have hu2:(c2.toNat:Int)≤90:=by omega
           have KK:=nb_no (s:=s) (a:=a) (by rw [nbO_of HN.out hi1,if_neg HA.out,hty]; simp [HQ2.out,badH,upB,hup])
           clear HR HN HA hq hty
           go_wp2_with (first | (go_at_call 169; refine (rf_digit_b hg _).mono ?_; rintro _ v ⟨rfl,e⟩; obtain rfl:=e.symm) | (go_at_call 124; refine (rf_goes_b hgo _).mono ?_; rintro _ v ⟨rfl,e⟩; obtain rfl:=e.symm))
           exact bodyPost_ret (results_two (p:=4) (u:=5) (ty:=233) rfl _ _ w§ 233 (tkA tk0) (0,0) _ rfl (heap_fst _ _ _) Tryz.underlying233 rfl zK) rfl ⟨by rw [KK.out.1,KK.out.2]; rfl,below_two _ _ _⟩
          ·have hu:¬ ((65:Int)≤(c2.toNat:Int))∨¬ ((c2.toNat:Int)≤90):=by omega
           rcases hu with hu | hu
           ·have KK:=nb_yes (s:=s) (a:=a) (n:=n) (e:=i+1) (ty:=3) (by rw [nbO_of HN.out hi1,if_neg HA.out,hty]; simp [HQ2.out,badH,upB,hup,hgo])
            rw [hq] at KK
            obtain⟨x,ex⟩:∃ x,s.extract a q=x:=⟨_,rfl⟩
            rw [ex] at KK
            clear HR HN HA hq hty
            go_wp2_with (first | (go_at_call 169; refine (rf_digit_b hg _).mono ?_; rintro _ v ⟨rfl,e⟩; obtain rfl:=e.symm) | (go_at_call 124; refine (rf_goes_b hgo _).mono ?_; rintro _ v ⟨rfl,e⟩; obtain rfl:=e.symm))
            exact bodyPost_ret (results_two (p:=4) (u:=5) (ty:=233) rfl _ _ w§ 233 (tkA ⟨3,x,3,(n:Int),(a:Int)⟩) (0,0) _ rfl (heap_fst _ _ _) Tryz.underlying233 rfl zK) rfl ⟨by rw [KK.out.1,KK.out.2]; rfl,below_two _ _ _⟩
           ·have KK:=nb_yes (s:=s) (a:=a) (n:=n) (e:=i+1) (ty:=3) (by rw [nbO_of HN.out hi1,if_neg HA.out,hty]; simp [HQ2.out,badH,upB,hup,hgo])
            rw [hq] at KK
            obtain⟨x,ex⟩:∃ x,s.extract a q=x:=⟨_,rfl⟩
            rw [ex] at KK
            clear HR HN HA hq hty
            go_wp2_with (first | (go_at_call 169; refine (rf_digit_b hg _).mono ?_; rintro _ v ⟨rfl,e⟩; obtain rfl:=e.symm) | (go_at_call 124; refine (rf_goes_b hgo _).mono ?_; rintro _ v ⟨rfl,e⟩; obtain rfl:=e.symm))
            exact bodyPost_ret (results_two (p:=4) (u:=5) (ty:=233) rfl _ _ w§ 233 (tkA ⟨3,x,3,(n:Int),(a:Int)⟩) (0,0) _ rfl (heap_fst _ _ _) Tryz.underlying233 rfl zK) rfl ⟨by rw [KK.out.1,KK.out.2]; rfl,below_two _ _ _⟩
         ·have hgo':=hgo
          have KK:=nb_no (s:=s) (a:=a) (by rw [nbO_of HN.out hi1,if_neg HA.out,hty]; simp [HQ2.out,badH,hgo])
          clear HR HN HA hq hty
          go_wp2_with (first | (go_at_call 169; refine (rf_digit_b hg _).mono ?_; rintro _ v ⟨rfl,e⟩; obtain rfl:=e.symm) | (go_at_call 124; refine (rf_goes_b hgo _).mono ?_; rintro _ v ⟨rfl,e⟩; obtain rfl:=e.symm))
          exact bodyPost_ret (results_two (p:=4) (u:=5) (ty:=233) rfl _ _ w§ 233 (tkA tk0) (0,0) _ rfl (heap_fst _ _ _) Tryz.underlying233 rfl zK) rfl ⟨by rw [KK.out.1,KK.out.2]; rfl,below_two _ _ _⟩
        ·have hl2':¬ (q:Int) < (s.size:Int):=by omega
         have HE2:Hid (rest s (i+1) = []):=by show _=_; rw [hq]; exact rest_end s q (by omega)
         have KK:=nb_yes (s:=s) (a:=a) (n:=n) (e:=i+1) (ty:=3) (by rw [nbO_of HN.out hi1,if_neg HA.out,hty]; simp [HE2.out,badH])
         rw [hq] at KK
         obtain⟨x,ex⟩:∃ x,s.extract a q=x:=⟨_,rfl⟩
         rw [ex] at KK
         clear HR HN HA hq hty
         go_wp2_with (go_at_call 169; refine (rf_digit_b hg _).mono ?_; rintro _ v ⟨rfl,e⟩; obtain rfl:=e.symm)
         exact bodyPost_ret (results_two (p:=4) (u:=5) (ty:=233) rfl _ _ w§ 233 (tkA ⟨3,x,3,(n:Int),(a:Int)⟩) (0,0) _ rfl (heap_fst _ _ _) Tryz.underlying233 rfl zK) rfl ⟨by rw [KK.out.1,KK.out.2]; rfl,below_two _ _ _⟩
       by_cases k116:c.toNat=116
       ·have hty:nbTy (rest s i)=4:=by rw [HQ.out]; simp [nbTy,k116]
        have x1:((c.toNat:Int) == 113)=false:=beq_false_of_ne (by omega)
        have x2:((c.toNat:Int) == 112)=false:=beq_false_of_ne (by omega)
        have x3:((c.toNat:Int) == 116)=true:=by rw [k116]; rfl
        obtain⟨q,hq⟩:∃ q:Nat,i+1=q:=⟨_,rfl⟩
        have hq':(i:Int)+1=(q:Int):=by omega
        have hqa:a≤q:=by omega
        have hqs:q≤s.size:=by omega
        by_cases hl2:q < s.size
        ·have hl2':(q:Int) < (s.size:Int):=by omega
         obtain⟨c2,hc2⟩:∃ c2,s[q]=c2:=⟨_,rfl⟩
         have HQ2:Hid (rest s (i+1)=c2 :: rest s (q+1)):=by show _=_; rw [hq,rest_at s q hl2,hc2]
         have hcl2:=byte_lt c2
         cases hgo:goB c2
         ·by_cases hup:65≤c2.toNat∧c2.toNat≤90
          ·have hu1:(65:Int)≤(c2.toNat:Int):=by omega
           have hu2:(c2.toNat:Int)≤90:=by omega
           have KK:=nb_no (s:=s) (a:=a) (by rw [nbO_of HN.out hi1,if_neg HA.out,hty]; simp [HQ2.out,badH,upB,hup])
           clear HR HN HA hq hty
           go_wp2_with (first | (go_at_call 169; refine (rf_digit_b hg _).mono ?_; rintro _ v ⟨rfl,e⟩; obtain rfl:=e.symm) | (go_at_call 124; refine (rf_goes_b hgo _).mono ?_; rintro _ v ⟨rfl,e⟩; obtain rfl:=e.symm))
           exact bodyPost_ret (results_two (p:=4) (u:=5) (ty:=233) rfl _ _ w§ 233 (tkA tk0) (0,0) _ rfl (heap_fst _ _ _) Tryz.underlying233 rfl zK) rfl ⟨by rw [KK.out.1,KK.out.2]; rfl,below_two _ _ _⟩
          ·have hu:¬ ((65:Int)≤(c2.toNat:Int))∨¬ ((c2.toNat:Int)≤90):=by omega
           rcases hu with hu | hu
           ·have KK:=nb_yes (s:=s) (a:=a) (n:=n) (e:=i+1) (ty:=4) (by rw [nbO_of HN.out hi1,if_neg HA.out,hty]; simp [HQ2.out,badH,upB,hup,hgo])
            rw [hq] at KK
            obtain⟨x,ex⟩:∃ x,s.extract a q=x:=⟨_,rfl⟩
            rw [ex] at KK
            clear HR HN HA hq hty
            go_wp2_with (first | (go_at_call 169; refine (rf_digit_b hg _).mono ?_; rintro _ v ⟨rfl,e⟩; obtain rfl:=e.symm) | (go_at_call 124; refine (rf_goes_b hgo _).mono ?_; rintro _ v ⟨rfl,e⟩; obtain rfl:=e.symm))
            exact bodyPost_ret (results_two (p:=4) (u:=5) (ty:=233) rfl _ _ w§ 233 (tkA ⟨3,x,4,(n:Int),(a:Int)⟩) (0,0) _ rfl (heap_fst _ _ _) Tryz.underlying233 rfl zK) rfl ⟨by rw [KK.out.1,KK.out.2]; rfl,below_two _ _ _⟩
           ·have KK:=nb_yes (s:=s) (a:=a) (n:=n) (e:=i+1) (ty:=4) (by rw [nbO_of HN.out hi1,if_neg HA.out,hty]; simp [HQ2.out,badH,upB,hup,hgo])
            rw [hq] at KK
            obtain⟨x,ex⟩:∃ x,s.extract a q=x:=⟨_,rfl⟩
            rw [ex] at KK
            clear HR HN HA hq hty
            go_wp2_with (first | (go_at_call 169; refine (rf_digit_b hg _).mono ?_; rintro _ v ⟨rfl,e⟩; obtain rfl:=e.symm) | (go_at_call 124; refine (rf_goes_b hgo _).mono ?_; rintro _ v ⟨rfl,e⟩; obtain rfl:=e.symm))
            exact bodyPost_ret (results_two (p:=4) (u:=5) (ty:=233) rfl _ _ w§ 233 (tkA ⟨3,x,4,(n:Int),(a:Int)⟩) (0,0) _ rfl (heap_fst _ _ _) Tryz.underlying233 rfl zK) rfl ⟨by rw [KK.out.1,KK.out.2]; rfl,below_two _ _ _⟩
         ·have hgo':=hgo
          have KK:=nb_no (s:=s) (a:=a) (by rw [nbO_of HN.out hi1,if_neg HA.out,hty]; simp [HQ2.out,badH,hgo])
          clear HR HN HA hq hty
          go_wp2_with (first | (go_at_call 169; refine (rf_digit_b hg _).mono ?_; rintro _ v ⟨rfl,e⟩; obtain rfl:=e.symm) | (go_at_call 124; refine (rf_goes_b hgo _).mono ?_; rintro _ v ⟨rfl,e⟩; obtain rfl:=e.symm))
          exact bodyPost_ret (results_two (p:=4) (u:=5) (ty:=233) rfl _ _ w§ 233 (tkA tk0) (0,0) _ rfl (heap_fst _ _ _) Tryz.underlying233 rfl zK) rfl ⟨by rw [KK.out.1,KK.out.2]; rfl,below_two _ _ _⟩
        ·have hl2':¬ (q:Int) < (s.size:Int):=by omega
         have HE2:Hid (rest s (i+1) = []):=by show _=_; rw [hq]; exact rest_end s q (by omega)
         have KK:=nb_yes (s:=s) (a:=a) (n:=n) (e:=i+1) (ty:=4) (by rw [nbO_of HN.out hi1,if_neg HA.out,hty]; simp [HE2.out,badH])
         rw [hq] at KK
         obtain⟨x,ex⟩:∃ x,s.extract a q=x:=⟨_,rfl⟩
         rw [ex] at KK
         clear HR HN HA hq hty
         go_wp2_with (go_at_call 169; refine (rf_digit_b hg _).mono ?_; rintro _ v ⟨rfl,e⟩; obtain rfl:=e.symm)
         exact bodyPost_ret (results_two (p:=4) (u:=5) (ty:=233) rfl _ _ w§ 233 (tkA ⟨3,x,4,(n:Int),(a:Int)⟩) (0,0) _ rfl (heap_fst _ _ _) Tryz.underlying233 rfl zK) rfl ⟨by rw [KK.out.1,KK.out.2]; rfl,below_two _ _ _⟩
       have hty:nbTy (rest s i)=1:=by rw [HQ.out]; simp [nbTy,k113,k112,k116]
       have x1:((c.toNat:Int) == 113)=false:=beq_false_of_ne (by omega)
       have x2:((c.toNat:Int) == 112)=false:=beq_false_of_ne (by omega)
       have x3:((c.toNat:Int) == 116)=false:=beq_false_of_ne (by omega)
       cases hgo:goB c
       ·by_cases hup:65≤c.toNat∧c.toNat≤90
        ·have hu1:(65:Int)≤(c.toNat:Int):=by omega
         have hu2:(c.toNat:Int)≤90:=by omega
         have KK:=nb_no (s:=s) (a:=a) (by rw [nbO_of HN.out hi1,if_neg HA.out,hty]; simp [HQ.out,badH,upB,hup])
         clear HR HN HA
         go_wp2_with (first | (go_at_call 169; refine (rf_digit_b hg _).mono ?_; rintro _ v ⟨rfl,e⟩; obtain rfl:=e.symm) | (go_at_call 124; refine (rf_goes_b hgo _).mono ?_; rintro _ v ⟨rfl,e⟩; obtain rfl:=e.symm))
         exact bodyPost_ret (results_two (p:=4) (u:=5) (ty:=233) rfl _ _ w§ 233 (tkA tk0) (0,0) _ rfl (heap_fst _ _ _) Tryz.underlying233 rfl zK) rfl ⟨by rw [KK.out.1,KK.out.2]; rfl,below_two _ _ _⟩
        ·have hu:¬ ((65:Int)≤(c.toNat:Int))∨¬ ((c.toNat:Int)≤90):=by omega
         rcases hu with hu | hu
         ·have KK:=nb_yes (s:=s) (a:=a) (n:=n) (e:=i) (ty:=1) (by rw [nbO_of HN.out hi1,if_neg HA.out,hty]; simp [HQ.out,badH,upB,hup,hgo])
          obtain⟨x,ex⟩:∃ x,s.extract a (i)=x:=⟨_,rfl⟩
          rw [ex] at KK
          clear HR HN HA
          go_wp2_with (first | (go_at_call 169; refine (rf_digit_b hg _).mono ?_; rintro _ v ⟨rfl,e⟩; obtain rfl:=e.symm) | (go_at_call 124; refine (rf_goes_b hgo _).mono ?_; rintro _ v ⟨rfl,e⟩; obtain rfl:=e.symm))
          exact bodyPost_ret (results_two (p:=4) (u:=5) (ty:=233) rfl _ _ w§ 233 (tkA ⟨3,x,1,(n:Int),(a:Int)⟩) (0,0) _ rfl (heap_fst _ _ _) Tryz.underlying233 rfl zK) rfl ⟨by rw [KK.out.1,KK.out.2]; rfl,below_two _ _ _⟩
         ·have KK:=nb_yes (s:=s) (a:=a) (n:=n) (e:=i) (ty:=1) (by rw [nbO_of HN.out hi1,if_neg HA.out,hty]; simp [HQ.out,badH,upB,hup,hgo])
          obtain⟨x,ex⟩:∃ x,s.extract a (i)=x:=⟨_,rfl⟩
          rw [ex] at KK
          clear HR HN HA
          go_wp2_with (first | (go_at_call 169; refine (rf_digit_b hg _).mono ?_; rintro _ v ⟨rfl,e⟩; obtain rfl:=e.symm) | (go_at_call 124; refine (rf_goes_b hgo _).mono ?_; rintro _ v ⟨rfl,e⟩; obtain rfl:=e.symm))
          exact bodyPost_ret (results_two (p:=4) (u:=5) (ty:=233) rfl _ _ w§ 233 (tkA ⟨3,x,1,(n:Int),(a:Int)⟩) (0,0) _ rfl (heap_fst _ _ _) Tryz.underlying233 rfl zK) rfl ⟨by rw [KK.out.1,KK.out.2]; rfl,below_two _ _ _⟩
       ·have hgo':=hgo
        have KK:=nb_no (s:=s) (a:=a) (by rw [nbO_of HN.out hi1,if_neg HA.out,hty]; simp [HQ.out,badH,hgo])
        clear HR HN HA
        go_wp2_with (first | (go_at_call 169; refine (rf_digit_b hg _).mono ?_; rintro _ v ⟨rfl,e⟩; obtain rfl:=e.symm) | (go_at_call 124; refine (rf_goes_b hgo _).mono ?_; rintro _ v ⟨rfl,e⟩; obtain rfl:=e.symm))
        exact bodyPost_ret (results_two (p:=4) (u:=5) (ty:=233) rfl _ _ w§ 233 (tkA tk0) (0,0) _ rfl (heap_fst _ _ _) Tryz.underlying233 rfl zK) rfl ⟨by rw [KK.out.1,KK.out.2]; rfl,below_two _ _ _⟩
   ·have hd:48≤c.toNat∧c.toNat≤57:=by unfold digB at hg; exact of_decide_eq_true hg
    by_cases hov:n > 922337203685477580
    ·have hov':(922337203685477580:Int) < (n:Int):=by omega
     have hO:nbO s a=none:=by
      unfold nbO
      rw [HR.out,HQ.out,nmS,if_pos hg,if_pos hov]
     have KK:=nb_no hO
     clear hO
     go_wp2_with (go_at_call 169; refine (rf_digit_b hg _).mono ?_; rintro _ v ⟨rfl,e⟩; obtain rfl:=e.symm)
     exact bodyPost_ret (results_two (p:=4) (u:=5) (ty:=233) rfl _ _ w§ 233 (tkA tk0) (0,0) _ rfl (heap_fst _ _ _) Tryz.underlying233 rfl zK) rfl ⟨by rw [KK.out.1,KK.out.2]; rfl,below_two _ _ _⟩
    ·have hov':¬ (922337203685477580:Int) < (n:Int):=by omega
     obtain⟨m,hm⟩:∃ m,10 * n+(c.toNat - 48)=m:=⟨_,rfl⟩
     have hm9:m≤9223372036854775809:=by omega
     have hm':10 * (n:Int)+((c.toNat:Int) - 48)=(m:Int):=by omega
     have hs2:Hid (nmS (rest s a) 0 0=nmS (rest s (i+1)) m (i+1 - a)):=by
      show _=_
      rw [HR.out,HQ.out,nmS,if_pos hg,if_neg hov,hm,show i+1 - a=i - a+1 by omega]
     have hd1:(48:Int)≤(c.toNat:Int):=by omega
     have hd2:(c.toNat:Int)≤57:=by omega
     clear hd hm
     go_wp2_with (go_at_call 169; refine (rf_digit_b hg _).mono ?_; rintro _ v ⟨rfl,e⟩; obtain rfl:=e.symm)
     exact⟨⟨i+1,m,by omega,by omega,by go_num,by first | rfl | (simp; omega),hm9,hs2⟩,by simp only [intOf]; omega⟩
  ·skip
   have hn1:¬ (i:Int) < (s.size:Int):=by omega
   have HE:Hid (rest s i = []):=rest_end s i (by omega)
   have HN:Hid (nmS (rest s a) 0 0=some (n,i - a)):=by show _=_; rw [HR.out,HE.out]; rfl
   by_cases hbig:n > 9223372036854775807
   ·have hbig':(9223372036854775807:Int) < (n:Int):=by omega
    have HA:Hid True:=trivial
    have KK:=nb_no (s:=s) (a:=a) (by rw [nbO_of HN.out hi1]; rw [if_pos (Or.inl hbig)])
    clear HR HN HA
    go_wp2
    exact bodyPost_ret (results_two (p:=4) (u:=5) (ty:=233) rfl _ _ w§ 233 (tkA tk0) (0,0) _ rfl (heap_fst _ _ _) Tryz.underlying233 rfl zK) rfl ⟨by rw [KK.out.1,KK.out.2]; rfl,below_two _ _ _⟩
   ·have hbig':¬ (9223372036854775807:Int) < (n:Int):=by omega
    have hwr:IntKind.i64.wrap (n:Int)=(n:Int):=by simp only [IntKind.wrap_i64]; omega
    by_cases hz0:i - a > 1∧z.toNat=48
    ·have hz1:(1:Int) < (i:Int) - (a:Int):=by omega
     have hz2:((z.toNat:Int) == 48)=true:=by rw [hz0.2]; rfl
     have HA:Hid True:=trivial
     have KK:=nb_no (s:=s) (a:=a) (by rw [nbO_of HN.out hi1]; rw [if_pos (Or.inr ⟨hz0.1,by rw [HZ.out]; exact decide_eq_true hz0.2⟩)])
     clear HR HN HA
     go_wp2
     exact bodyPost_ret (results_two (p:=4) (u:=5) (ty:=233) rfl _ _ w§ 233 (tkA tk0) (0,0) _ rfl (heap_fst _ _ _) Tryz.underlying233 rfl zK) rfl ⟨by rw [KK.out.1,KK.out.2]; rfl,below_two _ _ _⟩
    ·have HA:Hid (¬ (n > 9223372036854775807∨(i - a > 1∧hd0 (rest s a)=true))):=by
      rintro (h | ⟨h1,h2⟩)
      ·exact hbig h
      ·rw [HZ.out] at h2; exact hz0 ⟨h1,of_decide_eq_true h2⟩
     have hzz:((i:Int) - (a:Int)≤1)∨(((z.toNat:Int) == 48)=false):=by
      by_cases h:i - a > 1
      ·exact .inr (beq_false_of_ne (fun e=>hz0 ⟨h,by omega⟩))
      ·exact .inl (by omega)
     clear hz0
     go_upto_region 9 with fail
     go_cut [48] from 35 to 48 (fun s48 wx=>s48=.bool false∧wx=(w.alloc (.cells zt 233)).alloc (.cells #[zU 3,yQ,zU 1,zI 0,zI (a:Int)] 233))
     case first =>
      rcases hzz with h | h
      ·have hz1:¬ (1:Int) < (i:Int) - (a:Int):=by omega
       go_wp2
       go_meet
       case rel=>exact⟨by first | rfl | (rw [decide_eq_false (by omega)]),rfl⟩
      ·by_cases hz1:(1:Int) < (i:Int) - (a:Int)
       ·go_wp2
        go_meet
        case rel=>exact⟨by first | rfl | (rw [decide_eq_false (by omega)]),rfl⟩
       ·go_wp2
        go_meet
        case rel=>exact⟨by first | rfl | (rw [decide_eq_false (by omega)]),rfl⟩
     case rest =>
      obtain⟨rfl,rfl⟩:=hcut
      have KK:=nb_yes (s:=s) (a:=a) (n:=n) (e:=i) (ty:=1) (by rw [nbO_of HN.out hi1,if_neg HA.out,HE.out]; simp [nbTy,badH,HE.out])
      obtain⟨x,ex⟩:∃ x,s.extract a (i)=x:=⟨_,rfl⟩
      rw [ex] at KK
      clear HR HN HA
      go_wp2
      all_goals exact bodyPost_ret (results_two (p:=4) (u:=5) (ty:=233) rfl _ _ w§ 233 (tkA ⟨3,x,1,(n:Int),(a:Int)⟩) (0,0) _ rfl (heap_fst _ _ _) Tryz.underlying233 rfl zK) rfl ⟨by rw [KK.out.1,KK.out.2]; rfl,below_two _ _ _⟩
theorem rf_one_name (s:yB) (f d:Nat) (hs:s.size≤140737488355328) (hf:f≤s.size) (hp:oneP s f=d) (hd:d < s.size) (c:UInt8) (hc:s[d]=c) (hl:letB c=true) (w:yW) :
  Calls zG 172 #[.string s,zI f] w fun e w'=>e=.returned (oneV s f)∧yD w w':=by
 have hr:rest s d=c :: rest s (d+1):=by rw [rest_at s d hd,hc]
 have hne:¬ d=s.size:=by omega
 have KT:Hid (oneT s f=nmT s d):=by show _=_; unfold oneT; rw [hp,if_neg hne,hr]; simp [hdB,hl]
 have KE:Hid (oneE s f=nmE s d):=by show _=_; unfold oneE; rw [hp,if_neg hne,hr]; simp [hdB,hl]
 have cO:=rf_over_any s f hs hf d hp.symm
 have cN:=rf_named_any s d hs (Nat.le_of_lt hd)
 obtain⟨T,eT⟩:∃ T,nmT s d=T:=⟨_,rfl⟩
 obtain⟨E,eE⟩:∃ E,nmE s d=E:=⟨_,rfl⟩
 rw [eT,eE] at cN
 rw [eT] at KT
 rw [eE] at KE
 have KB:Hid (oneB s f=if E=0 then 0 else (d:Int)):=by show _=_; unfold oneB; rw [KE.out,hp]
 have hR:TkH ((w.alloc (.cells (tkA tk0) 233)).alloc (.cells (tkA tk0) 233)) w§ tk0:=heap_fst _ _ _
 have hT:TkH ((w.alloc (.cells (tkA tk0) 233)).alloc (.cells (tkA tk0) 233)) (w§+1) tk0:=by
  have:=heap_new (w.alloc (.cells (tkA tk0) 233)) (.cells (tkA tk0) 233)
  rwa [size_alloc] at this
 have hB:=below_two w (.cells (tkA tk0) 233) (.cells (tkA tk0) 233)
 have HR:=hR.hid
 have HT:=hT.hid
 have HB:Hid (yD w ((w.alloc (.cells (tkA tk0) 233)).alloc (.cells (tkA tk0) 233))):=hB
 have hd':(d:Int) < (s.size:Int):=by omega
 have hne':((d:Int) == (s.size:Int))=false:=beq_false_of_ne (by omega)
 unfold tkA at cN
 clear hR hT hB hr hp eT eE
 go_enter Tryz.func172,Tryz.ntmps172
 go_wp2_with (first | (go_at_call 199; refine (cO _).mono ?_; rintro _ v ⟨rfl,e⟩; obtain rfl:=e.symm) | (go_at_call 123; refine (rf_letter_b hl _).mono ?_; rintro _ v ⟨rfl,e⟩; obtain rfl:=e.symm))
 refine (cN _).mono ?_
 rintro _ v ⟨rfl,bb⟩
 have HR2:=(HR.out.onto bb).hid
 have HT2:=(HT.out.onto bb).hid
 have hB2:=HB.out.trans (bb.mono HB.out.size)
 obtain⟨V,eV⟩:∃ V,((((v.setCell ⟨w§+1,0,none⟩ (zU T.k)).setCell ⟨w§+1,1,none⟩ (.string T.x)).setCell ⟨w§+1,2,none⟩ (zU T.ty)).setCell ⟨w§+1,3,none⟩ (zI T.n)).setCell ⟨w§+1,4,none⟩ (zI T.p)=V:=⟨_,rfl⟩
 have HT3:Hid (TkH V (w§+1) T):=by show TkH V _ _; rw [← eV]; exact HT2.out.put T
 have HR3:Hid (TkH V w§ tk0):=by
  show TkH V _ _
  rw [← eV]
  refine Eq.trans ?_ HR2.out
  rw [Below.heap_setCell _ _ _ _ (by simp),Below.heap_setCell _ _ _ _ (by simp),Below.heap_setCell _ _ _ _ (by simp),Below.heap_setCell _ _ _ _ (by simp),Below.heap_setCell _ _ _ _ (by simp)]
 have hB4:yD w V:=by rw [← eV]; exact below_put hB2 (by omega) _ _ _ _ _
 obtain⟨t0,t1,t2,t3,t4⟩:=HT2.out.cells
 obtain⟨g0,g1,g2,g3,g4⟩:=HT2.out.froz
 clear bb hB2 HR HT HB
 by_cases hE:E=0
 ·have kB:=KB.out
  rw [if_pos hE] at kB
  have hE':(E != 0)=false:=by simp [hE]
  have KE0:Hid (oneE s f=0):=by show _=_; rw [KE.out,hE]
  have KB0:Hid (oneB s f=0):=kB
  subst hE
  clear kB KB KE
  obtain⟨y0,y1,y2,y3,y4⟩:=HT3.out.cells
  obtain⟨r0,r1,r2,r3,r4⟩:=HR3.out.cells
  obtain⟨f0,f1,f2,f3,f4⟩:=HR3.out.froz
  go_wp2
  exact bodyPost_ret (results_three (p:=4) (u:=5) (v:=6) (ty:=233) rfl _ _ w§ 233 (tkA T) (0,0) _ rfl (HR3.out.put T) Tryz.underlying233 rfl zK) rfl ⟨by unfold oneV; rw [KT.out,KE0.out,KB0.out]; rfl,below_put hB4 (Nat.le_refl _) _ _ _ _ _⟩
 ·have kB:=KB.out
  rw [if_neg hE] at kB
  have hE':(E != 0)=true:=by simp [hE]
  have KB0:Hid (oneB s f=(d:Int)):=kB
  clear kB KB hE
  obtain⟨y0,y1,y2,y3,y4⟩:=HT3.out.cells
  obtain⟨r0,r1,r2,r3,r4⟩:=HR3.out.cells
  obtain⟨f0,f1,f2,f3,f4⟩:=HR3.out.froz
  go_wp2
  exact bodyPost_ret (results_three (p:=4) (u:=5) (v:=6) (ty:=233) rfl _ _ w§ 233 (tkA T) (0,0) _ rfl (HR3.out.put T) Tryz.underlying233 rfl zK) rfl ⟨by unfold oneV; rw [KT.out,KE.out,KB0.out]; rfl,below_put hB4 (Nat.le_refl _) _ _ _ _ _⟩
theorem rf_one_num (s:yB) (f d:Nat) (hs:s.size≤140737488355328) (hf:f≤s.size) (hp:oneP s f=d) (hd:d < s.size) (c:UInt8) (hc:s[d]=c) (hl:letB c=false) (hg:digB c=true) (w:yW) :
  Calls zG 172 #[.string s,zI f] w fun e w'=>e=.returned (oneV s f)∧yD w w':=by
 have hr:rest s d=c :: rest s (d+1):=by rw [rest_at s d hd,hc]
 have hne:¬ d=s.size:=by omega
 have KT:Hid (oneT s f=nbT s d):=by show _=_; unfold oneT; rw [hp,if_neg hne,hr]; simp [hdB,hl,hg]
 have KE:Hid (oneE s f=nbE s d):=by show _=_; unfold oneE; rw [hp,if_neg hne,hr]; simp [hdB,hl,hg]
 have cO:=rf_over_any s f hs hf d hp.symm
 have cN:=rf_number_any s d hs hd
 obtain⟨T,eT⟩:∃ T,nbT s d=T:=⟨_,rfl⟩
 obtain⟨E,eE⟩:∃ E,nbE s d=E:=⟨_,rfl⟩
 rw [eT,eE] at cN
 rw [eT] at KT
 rw [eE] at KE
 have KB:Hid (oneB s f=if E=0 then 0 else (d:Int)):=by show _=_; unfold oneB; rw [KE.out,hp]
 have hR:TkH ((w.alloc (.cells (tkA tk0) 233)).alloc (.cells (tkA tk0) 233)) w§ tk0:=heap_fst _ _ _
 have hT:TkH ((w.alloc (.cells (tkA tk0) 233)).alloc (.cells (tkA tk0) 233)) (w§+1) tk0:=by
  have:=heap_new (w.alloc (.cells (tkA tk0) 233)) (.cells (tkA tk0) 233)
  rwa [size_alloc] at this
 have hB:=below_two w (.cells (tkA tk0) 233) (.cells (tkA tk0) 233)
 have HR:=hR.hid
 have HT:=hT.hid
 have HB:Hid (yD w ((w.alloc (.cells (tkA tk0) 233)).alloc (.cells (tkA tk0) 233))):=hB
 have hd':(d:Int) < (s.size:Int):=by omega
 have hne':((d:Int) == (s.size:Int))=false:=beq_false_of_ne (by omega)
 unfold tkA at cN
 clear hR hT hB hr hp eT eE
 go_enter Tryz.func172,Tryz.ntmps172
 go_wp2_with (first | (go_at_call 199; refine (cO _).mono ?_; rintro _ v ⟨rfl,e⟩; obtain rfl:=e.symm) | (go_at_call 123; refine (rf_letter_b hl _).mono ?_; rintro _ v ⟨rfl,e⟩; obtain rfl:=e.symm) | (go_at_call 169; refine (rf_digit_b hg _).mono ?_; rintro _ v ⟨rfl,e⟩; obtain rfl:=e.symm))
 refine (cN _).mono ?_
 rintro _ v ⟨rfl,bb⟩
 have HR2:=(HR.out.onto bb).hid
 have HT2:=(HT.out.onto bb).hid
 have hB2:=HB.out.trans (bb.mono HB.out.size)
 obtain⟨V,eV⟩:∃ V,((((v.setCell ⟨w§+1,0,none⟩ (zU T.k)).setCell ⟨w§+1,1,none⟩ (.string T.x)).setCell ⟨w§+1,2,none⟩ (zU T.ty)).setCell ⟨w§+1,3,none⟩ (zI T.n)).setCell ⟨w§+1,4,none⟩ (zI T.p)=V:=⟨_,rfl⟩
 have HT3:Hid (TkH V (w§+1) T):=by show TkH V _ _; rw [← eV]; exact HT2.out.put T
 have HR3:Hid (TkH V w§ tk0):=by
  show TkH V _ _
  rw [← eV]
  refine Eq.trans ?_ HR2.out
  rw [Below.heap_setCell _ _ _ _ (by simp),Below.heap_setCell _ _ _ _ (by simp),Below.heap_setCell _ _ _ _ (by simp),Below.heap_setCell _ _ _ _ (by simp),Below.heap_setCell _ _ _ _ (by simp)]
 have hB4:yD w V:=by rw [← eV]; exact below_put hB2 (by omega) _ _ _ _ _
 obtain⟨t0,t1,t2,t3,t4⟩:=HT2.out.cells
 obtain⟨g0,g1,g2,g3,g4⟩:=HT2.out.froz
 clear bb hB2 HR HT HB
 by_cases hE:E=0
 ·have kB:=KB.out
  rw [if_pos hE] at kB
  have hE':(E != 0)=false:=by simp [hE]
  have KE0:Hid (oneE s f=0):=by show _=_; rw [KE.out,hE]
  have KB0:Hid (oneB s f=0):=kB
  subst hE
  clear kB KB KE
  obtain⟨y0,y1,y2,y3,y4⟩:=HT3.out.cells
  obtain⟨r0,r1,r2,r3,r4⟩:=HR3.out.cells
  obtain⟨f0,f1,f2,f3,f4⟩:=HR3.out.froz
  go_wp2
  exact bodyPost_ret (results_three (p:=4) (u:=5) (v:=6) (ty:=233) rfl _ _ w§ 233 (tkA T) (0,0) _ rfl (HR3.out.put T) Tryz.underlying233 rfl zK) rfl ⟨by unfold oneV; rw [KT.out,KE0.out,KB0.out]; rfl,below_put hB4 (Nat.le_refl _) _ _ _ _ _⟩
 ·have kB:=KB.out
  rw [if_neg hE] at kB
  have hE':(E != 0)=true:=by simp [hE]
  have KB0:Hid (oneB s f=(d:Int)):=kB
  clear kB KB hE
  obtain⟨y0,y1,y2,y3,y4⟩:=HT3.out.cells
  obtain⟨r0,r1,r2,r3,r4⟩:=HR3.out.cells
  obtain⟨f0,f1,f2,f3,f4⟩:=HR3.out.froz
  go_wp2
  exact bodyPost_ret (results_three (p:=4) (u:=5) (v:=6) (ty:=233) rfl _ _ w§ 233 (tkA T) (0,0) _ rfl (HR3.out.put T) Tryz.underlying233 rfl zK) rfl ⟨by unfold oneV; rw [KT.out,KE.out,KB0.out]; rfl,below_put hB4 (Nat.le_refl _) _ _ _ _ _⟩
theorem rf_one_mark (s:yB) (f d:Nat) (hs:s.size≤140737488355328) (hf:f≤s.size) (hp:oneP s f=d) (hd:d < s.size) (c:UInt8) (hc:s[d]=c) (hl:letB c=false) (hg:digB c=false) (w:yW) :
  Calls zG 172 #[.string s,zI f] w fun e w'=>e=.returned (oneV s f)∧yD w w':=by
 have hr:rest s d=c :: rest s (d+1):=by rw [rest_at s d hd,hc]
 have hne:¬ d=s.size:=by omega
 have KT:Hid (oneT s f=mkT s d):=by show _=_; unfold oneT; rw [hp,if_neg hne,hr]; simp [hdB,hl,hg]
 have KE:Hid (oneE s f=mkE s d):=by show _=_; unfold oneE; rw [hp,if_neg hne,hr]; simp [hdB,hl,hg]
 have cO:=rf_over_any s f hs hf d hp.symm
 have cN:=rf_mark_any s d hs (Nat.le_of_lt hd)
 obtain⟨T,eT⟩:∃ T,mkT s d=T:=⟨_,rfl⟩
 obtain⟨E,eE⟩:∃ E,mkE s d=E:=⟨_,rfl⟩
 rw [eT,eE] at cN
 rw [eT] at KT
 rw [eE] at KE
 have KB:Hid (oneB s f=if E=0 then 0 else (d:Int)):=by show _=_; unfold oneB; rw [KE.out,hp]
 have hR:TkH ((w.alloc (.cells (tkA tk0) 233)).alloc (.cells (tkA tk0) 233)) w§ tk0:=heap_fst _ _ _
 have hT:TkH ((w.alloc (.cells (tkA tk0) 233)).alloc (.cells (tkA tk0) 233)) (w§+1) tk0:=by
  have:=heap_new (w.alloc (.cells (tkA tk0) 233)) (.cells (tkA tk0) 233)
  rwa [size_alloc] at this
 have hB:=below_two w (.cells (tkA tk0) 233) (.cells (tkA tk0) 233)
 have HR:=hR.hid
 have HT:=hT.hid
 have HB:Hid (yD w ((w.alloc (.cells (tkA tk0) 233)).alloc (.cells (tkA tk0) 233))):=hB
 have hd':(d:Int) < (s.size:Int):=by omega
 have hne':((d:Int) == (s.size:Int))=false:=beq_false_of_ne (by omega)
 unfold tkA at cN
 clear hR hT hB hr hp eT eE
 go_enter Tryz.func172,Tryz.ntmps172
 go_wp2_with (first | (go_at_call 199; refine (cO _).mono ?_; rintro _ v ⟨rfl,e⟩; obtain rfl:=e.symm) | (go_at_call 123; refine (rf_letter_b hl _).mono ?_; rintro _ v ⟨rfl,e⟩; obtain rfl:=e.symm) | (go_at_call 169; refine (rf_digit_b hg _).mono ?_; rintro _ v ⟨rfl,e⟩; obtain rfl:=e.symm))
 refine (cN _).mono ?_
 rintro _ v ⟨rfl,bb⟩
 have HR2:=(HR.out.onto bb).hid
 have HT2:=(HT.out.onto bb).hid
 have hB2:=HB.out.trans (bb.mono HB.out.size)
 obtain⟨V,eV⟩:∃ V,((((v.setCell ⟨w§+1,0,none⟩ (zU T.k)).setCell ⟨w§+1,1,none⟩ (.string T.x)).setCell ⟨w§+1,2,none⟩ (zU T.ty)).setCell ⟨w§+1,3,none⟩ (zI T.n)).setCell ⟨w§+1,4,none⟩ (zI T.p)=V:=⟨_,rfl⟩
 have HT3:Hid (TkH V (w§+1) T):=by show TkH V _ _; rw [← eV]; exact HT2.out.put T
 have HR3:Hid (TkH V w§ tk0):=by
  show TkH V _ _
  rw [← eV]
  refine Eq.trans ?_ HR2.out
  rw [Below.heap_setCell _ _ _ _ (by simp),Below.heap_setCell _ _ _ _ (by simp),Below.heap_setCell _ _ _ _ (by simp),Below.heap_setCell _ _ _ _ (by simp),Below.heap_setCell _ _ _ _ (by simp)]
 have hB4:yD w V:=by rw [← eV]; exact below_put hB2 (by omega) _ _ _ _ _
 obtain⟨t0,t1,t2,t3,t4⟩:=HT2.out.cells
 obtain⟨g0,g1,g2,g3,g4⟩:=HT2.out.froz
 clear bb hB2 HR HT HB
 by_cases hE:E=0
 ·have kB:=KB.out
  rw [if_pos hE] at kB
  have hE':(E != 0)=false:=by simp [hE]
  have KE0:Hid (oneE s f=0):=by show _=_; rw [KE.out,hE]
  have KB0:Hid (oneB s f=0):=kB
  subst hE
  clear kB KB KE
  obtain⟨y0,y1,y2,y3,y4⟩:=HT3.out.cells
  obtain⟨r0,r1,r2,r3,r4⟩:=HR3.out.cells
  obtain⟨f0,f1,f2,f3,f4⟩:=HR3.out.froz
  go_wp2
  exact bodyPost_ret (results_three (p:=4) (u:=5) (v:=6) (ty:=233) rfl _ _ w§ 233 (tkA T) (0,0) _ rfl (HR3.out.put T) Tryz.underlying233 rfl zK) rfl ⟨by unfold oneV; rw [KT.out,KE0.out,KB0.out]; rfl,below_put hB4 (Nat.le_refl _) _ _ _ _ _⟩
 ·have kB:=KB.out
  rw [if_neg hE] at kB
  have hE':(E != 0)=true:=by simp [hE]
  have KB0:Hid (oneB s f=(d:Int)):=kB
  clear kB KB hE
  obtain⟨y0,y1,y2,y3,y4⟩:=HT3.out.cells
  obtain⟨r0,r1,r2,r3,r4⟩:=HR3.out.cells
  obtain⟨f0,f1,f2,f3,f4⟩:=HR3.out.froz
  go_wp2
  exact bodyPost_ret (results_three (p:=4) (u:=5) (v:=6) (ty:=233) rfl _ _ w§ 233 (tkA T) (0,0) _ rfl (HR3.out.put T) Tryz.underlying233 rfl zK) rfl ⟨by unfold oneV; rw [KT.out,KE.out,KB0.out]; rfl,below_put hB4 (Nat.le_refl _) _ _ _ _ _⟩
theorem rf_one_end (s:yB) (f:Nat) (hs:s.size≤140737488355328) (hf:f≤s.size) (hp:oneP s f=s.size) (w:yW) :
  Calls zG 172 #[.string s,zI f] w fun e w'=>e=.returned (oneV s f)∧yD w w':=by
 have KT:Hid (oneT s f=⟨0,⟨#[]⟩,0,0,s.size⟩):=by show _=_; unfold oneT; rw [hp,if_pos rfl]
 have KE:Hid (oneE s f=0):=by show _=_; unfold oneE; rw [if_pos hp]
 have KB:Hid (oneB s f=0):=by show _=_; unfold oneB; rw [if_pos KE.out]
 have cO:=rf_over_any s f hs hf s.size hp.symm
 go_enter Tryz.func172,Tryz.ntmps172
 go_wp2_with (go_at_call 199; refine (cO _).mono ?_; rintro _ v ⟨rfl,e⟩; obtain rfl:=e.symm)
 exact bodyPost_ret (results_three (p:=4) (u:=5) (v:=6) (ty:=233) rfl _ _ w§ 233 (tkA ⟨0,⟨#[]⟩,0,0,s.size⟩) (0,0) _ rfl (heap_new w _) Tryz.underlying233 rfl zK) rfl ⟨by unfold oneV; rw [KT.out,KE.out,KB.out]; rfl,below_new w _⟩
theorem rf_one_any (s:yB) (f:Nat) (hs:s.size≤140737488355328) (hf:f≤s.size) (w:yW) :
  Calls zG 172 #[.string s,zI f] w fun e w'=>e=.returned (oneV s f)∧yD w w':=by
 by_cases h:oneP s f=s.size
 ·exact rf_one_end s f hs hf h w
 ·have hd:oneP s f < s.size:=by have:=oneP_le s f hf; omega
  cases hl:letB s[oneP s f]
  ·cases hg:digB s[oneP s f]
   ·exact rf_one_mark s f _ hs hf rfl hd _ rfl hl hg w
   ·exact rf_one_num s f _ hs hf rfl hd _ rfl hl hg w
  ·exact rf_one_name s f _ hs hf rfl hd _ rfl hl w
theorem rf_begin_any (s:yB) (hs:s.size≤1000000) (w:yW) :
  Calls zG 134 #[.string s] w fun e w'=>∃ v,e=.returned (.tuple #[v,zI (begO s 0).2.1,zI (begO s 0).2.2])∧RL w w' v (begO s 0).1:=by
 go_enter Tryz.func134,Tryz.ntmps134
 go_wp2_with fail
 go_loopw [5,6] (fun l i wr=>∃ (L:List Tk) (k:Nat),k≤s.size∧i=zI k∧L.length≤k∧RL w wr l L∧Hid (begO s 0=(L ++ (begO s k).1,(begO s k).2))) (fun _ i _=>s.size - (intOf i).toNat)
 case atStart=>exact⟨[],0,by omega,rfl,Nat.le_refl _,RL.nil w,by show _=_; rfl⟩
 case round =>
  obtain⟨L,k,hk,rfl,hL,hR,HG⟩:=hrel
  have cO:=rf_one_any s k (by omega) hk
  unfold oneV at cO
  obtain⟨T,eT⟩:∃ T,oneT s k=T:=⟨_,rfl⟩
  obtain⟨E,eE⟩:∃ E,oneE s k=E:=⟨_,rfl⟩
  obtain⟨B,eB⟩:∃ B,oneB s k=B:=⟨_,rfl⟩
  rw [eT,eE,eB] at cO
  unfold tkA at cO
  have HX:=hR.hid
  have KT:Hid (oneT s k=T):=eT
  have KE:Hid (oneE s k=E):=eE
  have KB:Hid (oneB s k=B):=eB
  clear hR eT eE eB
  go_wp2_with fail
  refine (cO _).mono ?_
  rintro _ v ⟨rfl,bb⟩
  have HX2:=(HX.out.call bb).hid
  clear bb HX cO
  by_cases hE:E=0
  ·have hE':(E != 0)=false:=by simp [hE]
   subst hE
   have HX3:=(HX2.out.alloc (.cells (tkA T) 233)).hid
   have HT:Hid (TkH (v.alloc (.cells (tkA T) 233)) v§ T):=heap_new _ _
   have HN:Hid (∀ b,(u5:Value).ownBlock=some b→b < v§):=HX2.out.row.lt
   by_cases hk0:T.k=0
   ·have e0:(T.k == 0)=true:=by simp [hk0]
    have K:Hid (begO s 0=(L ++ [T],0,0)):=by
     show _=_
     rw [HG.out,beg_end KE.out (by rw [KT.out]; exact hk0),KT.out]
    clear HG KT KE KB hk0
    go_wp2_with (at_builtin; refine append_token rfl (.tmp 22) (.tmp 24) rfl T HX3.out rfl (by show Value.slice (some ⟨v§+1,0,none⟩) 1 1=_; rw [size_alloc]) (by omega) ?_; intro v1 w1 hr1 hs1 hk1; have HX1:=hr1.hid; have HT1:Hid (TkH w1 v§ T):=(hk1 _ (by simp) (fun e=>by have:=HN.out _ e; omega)).trans HT.out; obtain⟨y0,y1,y2,y3,y4⟩:=HT1.out.cells; clear hk1 hs1 hr1)
    exact bodyPost_ret (results_t3 (p:=2) (u:=3) (v:=4) rfl _ _) rfl ⟨_,by rw [K.out]; rfl,by rw [K.out]; exact HX1.out⟩
   ·have e0:(T.k == 0)=false:=by simp [hk0]
    obtain⟨q1,q2,q3,q4⟩:=beg_more hk KE.out (by rw [KT.out]; exact hk0)
    obtain⟨Q,eQ⟩:∃ Q,oneQ s k=Q:=⟨_,rfl⟩
    rw [KT.out,eQ] at q3
    rw [KT.out,eQ] at q4
    rw [eQ] at q1 q2
    have K:Hid (begO s 0=((L ++ [T]) ++ (begO s Q).1,(begO s Q).2)):=by
     show _=_
     rw [HG.out,q4]
     simp
    clear HG KT KE KB hk0 q4
    go_wp2_with (at_builtin; refine append_token rfl (.tmp 22) (.tmp 24) rfl T HX3.out rfl (by show Value.slice (some ⟨v§+1,0,none⟩) 1 1=_; rw [size_alloc]) (by omega) ?_; intro v1 w1 hr1 hs1 hk1; have HX1:=hr1.hid; have HT1:Hid (TkH w1 v§ T):=(hk1 _ (by simp) (fun e=>by have:=HN.out _ e; omega)).trans HT.out; obtain⟨y0,y1,y2,y3,y4⟩:=HT1.out.cells; clear hk1 hs1 hr1)
    exact⟨⟨L ++ [T],Q,q2,by go_num,by simp; omega,HX1.out,K⟩,by simp only [intOf]; omega⟩
  ·have hE':(E != 0)=true:=by simp [hE]
   have K:Hid (begO s 0=(L,E,B)):=by
    show _=_
    rw [HG.out,beg_bad (by rw [KE.out]; exact hE),KE.out,KB.out]
    simp
   have HX3:=(HX2.out.alloc (.cells (tkA T) 233)).hid
   clear HG KT KE KB hE
   go_wp2
   exact bodyPost_ret (results_t3 (p:=2) (u:=3) (v:=4) rfl _ _) rfl ⟨_,by rw [K.out]; rfl,by rw [K.out]; exact HX3.out⟩
end Go.Proofs.YtfbjofnaghjmeaaGreatDoor
