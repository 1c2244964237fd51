import Derived.Test.YtoogodlnnijikaaGreatDoorA0
import Derived.Test.YtoogodlnnijikaaGreatDoorA8
import Derived.Test.YtoogodlnnijikaaGreatDoorA1
import Derived.Deep.CutRange
import Derived.Deep.DeepCutAuto
namespace Go.Proofs.YtoogodlnnijikaaGreatDoor
open Go.RowKit
set_option linter.unusedVariables false
set_option maxRecDepth 100000 in
set_option maxHeartbeats 8000000 in
theorem rf_number_any (s:ByteArray) (a:Nat) (hs:s.size≤140737488355328) (ha:a < s.size) (w:World) :
  Calls zG 130 #[.string s,zI a] w fun e w'=>e=.returned (.tuple #[.agg (tkA (nbT s a)),zI (nbE s a)])∧Below w§ w w':=by
 obtain⟨z,hz⟩:∃ z,s[a]=z:=⟨_,rfl⟩
 have HZ:Hid (rest s a=z :: rest s (a+1)):=by show _=_; rw [rest_at s a ha,hz]
 have hzl:=byte_lt z
 have ha':(a:Int) < (s.size:Int):=by omega
 go_enter Tryz.func130,Tryz.ntmps130
 go_wp2_with fail
 go_loop [7,8] (fun t u=>∃ i n:Nat,a≤i∧i≤s.size∧t=zI i∧u=.int .u64 n∧n≤9223372036854775809∧Hid (nmS (rest s a) 0 0=nmS (rest s i) n (i - a))) (fun t _=>s.size - (intOf t).toNat)
 case atStart=>exact⟨a,0,Nat.le_refl _,by omega,rfl,rfl,by omega,by show _=_; rw [Nat.sub_self]⟩
 case round =>
  obtain⟨i,n,hi1,hi2,rfl,rfl,hn9,HR⟩:=hrel
  by_cases hlt:i < s.size
  ·have hlt':(i:Int) < (s.size:Int):=by omega
   obtain⟨c,hc⟩:∃ c,s[i]=c:=⟨_,rfl⟩
   have HQ:Hid (rest s i=c :: rest s (i+1)):=by show _=_; rw [rest_at s i hlt,hc]
   have hcl:=byte_lt c
   cases hg:digB c
   ·skip
    have HN:Hid (nmS (rest s a) 0 0=some (n,i - a)):=by show _=_; rw [HR.out,HQ.out,nmS,if_neg (by rw [hg]; decide)]
    by_cases hbig:n > 9223372036854775807
    ·have hbig':(9223372036854775807:Int) < (n:Int):=by omega
     have HA:Hid True:=trivial
     have KK:=nb_no (s:=s) (a:=a) (by rw [nbO_of HN.out hi1]; rw [if_pos (Or.inl hbig)])
     clear HR HN HA
     go_wp2_with (go_at_call 129; refine (rf_digit_b hg _).mono ?_; rintro _ v ⟨rfl,e⟩; obtain rfl:=e.symm)
     exact bodyPost_ret (results_two (p:=4) (u:=5) (ty:=148) rfl _ _ w§ 148 (tkA tk0) (0,0) _ rfl (heap_fst _ _ _) Tryz.underlying148 rfl zK) rfl ⟨by rw [KK.out.1,KK.out.2]; rfl,below_two _ _ _⟩
    ·have hbig':¬ (9223372036854775807:Int) < (n:Int):=by omega
     have hwr:IntKind.i64.wrap (n:Int)=(n:Int):=by simp only [IntKind.wrap_i64]; omega
     by_cases hz0:i - a > 1∧z.toNat=48
     ·have hz1:(1:Int) < (i:Int) - (a:Int):=by omega
      have hz2:((z.toNat:Int) == 48)=true:=by rw [hz0.2]; rfl
      have HA:Hid True:=trivial
      have KK:=nb_no (s:=s) (a:=a) (by rw [nbO_of HN.out hi1]; rw [if_pos (Or.inr ⟨hz0.1,by rw [HZ.out]; exact decide_eq_true hz0.2⟩)])
      clear HR HN HA
      go_wp2_with (go_at_call 129; refine (rf_digit_b hg _).mono ?_; rintro _ v ⟨rfl,e⟩; obtain rfl:=e.symm)
      exact bodyPost_ret (results_two (p:=4) (u:=5) (ty:=148) rfl _ _ w§ 148 (tkA tk0) (0,0) _ rfl (heap_fst _ _ _) Tryz.underlying148 rfl zK) rfl ⟨by rw [KK.out.1,KK.out.2]; rfl,below_two _ _ _⟩
     ·have HA:Hid (¬ (n > 9223372036854775807∨(i - a > 1∧hd0 (rest s a)=true))):=by
       rintro (h | ⟨h1,h2⟩)
       ·exact hbig h
       ·rw [HZ.out] at h2; exact hz0 ⟨h1,of_decide_eq_true h2⟩
      have hzz:((i:Int) - (a:Int)≤1)∨(((z.toNat:Int) == 48)=false):=by
       by_cases h:i - a > 1
       ·exact .inr (beq_false_of_ne (fun e=>hz0 ⟨h,by omega⟩))
       ·exact .inl (by omega)
      clear hz0
      go_upto_region 9 with (go_at_call 129; refine (rf_digit_b hg _).mono ?_; rintro _ v ⟨rfl,e⟩; obtain rfl:=e.symm)
      go_cut [48] from 35 to 48 (fun s48 wx=>s48=.bool false∧wx=(w.alloc (.cells #[zU 0,.string ⟨#[]⟩,zU 0,zI 0,zI 0] 148)).alloc (.cells #[zU 3,.string ⟨#[]⟩,zU 1,zI 0,zI (a:Int)] 148))
      case first =>
       rcases hzz with h | h
       ·have hz1:¬ (1:Int) < (i:Int) - (a:Int):=by omega
        go_wp2
        go_meet
        case rel=>exact⟨by first | rfl | (rw [decide_eq_false (by omega)]),rfl⟩
       ·by_cases hz1:(1:Int) < (i:Int) - (a:Int)
        ·go_wp2
         go_meet
         case rel=>exact⟨by first | rfl | (rw [decide_eq_false (by omega)]),rfl⟩
        ·go_wp2
         go_meet
         case rel=>exact⟨by first | rfl | (rw [decide_eq_false (by omega)]),rfl⟩
      case rest =>
       obtain⟨rfl,rfl⟩:=hcut
       by_cases k113:c.toNat=113
       ·have hty:nbTy (rest s i)=2:=by rw [HQ.out]; simp [nbTy,k113]
        have x1:((c.toNat:Int) == 113)=true:=by rw [k113]; rfl
        have x2:((c.toNat:Int) == 112)=false:=beq_false_of_ne (by omega)
        have x3:((c.toNat:Int) == 116)=false:=beq_false_of_ne (by omega)
        obtain⟨q,hq⟩:∃ q:Nat,i+1=q:=⟨_,rfl⟩
        have hq':(i:Int)+1=(q:Int):=by omega
        have hqa:a≤q:=by omega
        have hqs:q≤s.size:=by omega
        by_cases hl2:q < s.size
        ·have hl2':(q:Int) < (s.size:Int):=by omega
         obtain⟨c2,hc2⟩:∃ c2,s[q]=c2:=⟨_,rfl⟩
         have HQ2:Hid (rest s (i+1)=c2 :: rest s (q+1)):=by show _=_; rw [hq,rest_at s q hl2,hc2]
         have hcl2:=byte_lt c2
         cases hgo:goB c2
         ·by_cases hup:65≤c2.toNat∧c2.toNat≤90
          ·have hu1:(65:Int)≤(c2.toNat:Int):=by omega
           have hu2:(c2.toNat:Int)≤90:=by omega
           have KK:=nb_no (s:=s) (a:=a) (by rw [nbO_of HN.out hi1,if_neg HA.out,hty]; simp [HQ2.out,badH,upB,hup])
           clear HR HN HA hq hty
           go_wp2_with (first | (go_at_call 129; refine (rf_digit_b hg _).mono ?_; rintro _ v ⟨rfl,e⟩; obtain rfl:=e.symm) | (go_at_call 110; refine (rf_goes_b hgo _).mono ?_; rintro _ v ⟨rfl,e⟩; obtain rfl:=e.symm))
           exact bodyPost_ret (results_two (p:=4) (u:=5) (ty:=148) rfl _ _ w§ 148 (tkA tk0) (0,0) _ rfl (heap_fst _ _ _) Tryz.underlying148 rfl zK) rfl ⟨by rw [KK.out.1,KK.out.2]; rfl,below_two _ _ _⟩
          ·have hu:¬ ((65:Int)≤(c2.toNat:Int))∨¬ ((c2.toNat:Int)≤90):=by omega
           rcases hu with hu | hu
           ·have KK:=nb_yes (s:=s) (a:=a) (n:=n) (e:=i+1) (ty:=2) (by rw [nbO_of HN.out hi1,if_neg HA.out,hty]; simp [HQ2.out,badH,upB,hup,hgo])
            rw [hq] at KK
            obtain⟨x,ex⟩:∃ x,s.extract a q=x:=⟨_,rfl⟩
            rw [ex] at KK
            clear HR HN HA hq hty
            go_wp2_with (first | (go_at_call 129; refine (rf_digit_b hg _).mono ?_; rintro _ v ⟨rfl,e⟩; obtain rfl:=e.symm) | (go_at_call 110; refine (rf_goes_b hgo _).mono ?_; rintro _ v ⟨rfl,e⟩; obtain rfl:=e.symm))
            exact bodyPost_ret (results_two (p:=4) (u:=5) (ty:=148) rfl _ _ w§ 148 (tkA ⟨3,x,2,(n:Int),(a:Int)⟩) (0,0) _ rfl (heap_fst _ _ _) Tryz.underlying148 rfl zK) rfl ⟨by rw [KK.out.1,KK.out.2]; rfl,below_two _ _ _⟩
           ·have KK:=nb_yes (s:=s) (a:=a) (n:=n) (e:=i+1) (ty:=2) (by rw [nbO_of HN.out hi1,if_neg HA.out,hty]; simp [HQ2.out,badH,upB,hup,hgo])
            rw [hq] at KK
            obtain⟨x,ex⟩:∃ x,s.extract a q=x:=⟨_,rfl⟩
            rw [ex] at KK
            clear HR HN HA hq hty
            go_wp2_with (first | (go_at_call 129; refine (rf_digit_b hg _).mono ?_; rintro _ v ⟨rfl,e⟩; obtain rfl:=e.symm) | (go_at_call 110; refine (rf_goes_b hgo _).mono ?_; rintro _ v ⟨rfl,e⟩; obtain rfl:=e.symm))
            exact bodyPost_ret (results_two (p:=4) (u:=5) (ty:=148) rfl _ _ w§ 148 (tkA ⟨3,x,2,(n:Int),(a:Int)⟩) (0,0) _ rfl (heap_fst _ _ _) Tryz.underlying148 rfl zK) rfl ⟨by rw [KK.out.1,KK.out.2]; rfl,below_two _ _ _⟩
         ·have hgo':=hgo
          have KK:=nb_no (s:=s) (a:=a) (by rw [nbO_of HN.out hi1,if_neg HA.out,hty]; simp [HQ2.out,badH,hgo])
          clear HR HN HA hq hty
          go_wp2_with (first | (go_at_call 129; refine (rf_digit_b hg _).mono ?_; rintro _ v ⟨rfl,e⟩; obtain rfl:=e.symm) | (go_at_call 110; refine (rf_goes_b hgo _).mono ?_; rintro _ v ⟨rfl,e⟩; obtain rfl:=e.symm))
          exact bodyPost_ret (results_two (p:=4) (u:=5) (ty:=148) rfl _ _ w§ 148 (tkA tk0) (0,0) _ rfl (heap_fst _ _ _) Tryz.underlying148 rfl zK) rfl ⟨by rw [KK.out.1,KK.out.2]; rfl,below_two _ _ _⟩
        ·have hl2':¬ (q:Int) < (s.size:Int):=by omega
         have HE2:Hid (rest s (i+1) = []):=by show _=_; rw [hq]; exact rest_end s q (by omega)
         have KK:=nb_yes (s:=s) (a:=a) (n:=n) (e:=i+1) (ty:=2) (by rw [nbO_of HN.out hi1,if_neg HA.out,hty]; simp [HE2.out,badH])
         rw [hq] at KK
         obtain⟨x,ex⟩:∃ x,s.extract a q=x:=⟨_,rfl⟩
         rw [ex] at KK
         clear HR HN HA hq hty
         go_wp2_with (go_at_call 129; refine (rf_digit_b hg _).mono ?_; rintro _ v ⟨rfl,e⟩; obtain rfl:=e.symm)
         exact bodyPost_ret (results_two (p:=4) (u:=5) (ty:=148) rfl _ _ w§ 148 (tkA ⟨3,x,2,(n:Int),(a:Int)⟩) (0,0) _ rfl (heap_fst _ _ _) Tryz.underlying148 rfl zK) rfl ⟨by rw [KK.out.1,KK.out.2]; rfl,below_two _ _ _⟩
       by_cases k112:c.toNat=112
       ·have hty:nbTy (rest s i)=3:=by rw [HQ.out]; simp [nbTy,k112]
        have x1:((c.toNat:Int) == 113)=false:=beq_false_of_ne (by omega)
        have x2:((c.toNat:Int) == 112)=true:=by rw [k112]; rfl
        have x3:((c.toNat:Int) == 116)=false:=beq_false_of_ne (by omega)
        obtain⟨q,hq⟩:∃ q:Nat,i+1=q:=⟨_,rfl⟩
        have hq':(i:Int)+1=(q:Int):=by omega
        have hqa:a≤q:=by omega
        have hqs:q≤s.size:=by omega
        by_cases hl2:q < s.size
        ·have hl2':(q:Int) < (s.size:Int):=by omega
         obtain⟨c2,hc2⟩:∃ c2,s[q]=c2:=⟨_,rfl⟩
         have HQ2:Hid (rest s (i+1)=c2 :: rest s (q+1)):=by show _=_; rw [hq,rest_at s q hl2,hc2]
         have hcl2:=byte_lt c2
         cases hgo:goB c2
         ·by_cases hup:65≤c2.toNat∧c2.toNat≤90
          ·have hu1:(65:Int)≤(c2.toNat:Int):=by omega
           have hu2:(c2.toNat:Int)≤90:=by omega
           have KK:=nb_no (s:=s) (a:=a) (by rw [nbO_of HN.out hi1,if_neg HA.out,hty]; simp [HQ2.out,badH,upB,hup])
           clear HR HN HA hq hty
           go_wp2_with (first | (go_at_call 129; refine (rf_digit_b hg _).mono ?_; rintro _ v ⟨rfl,e⟩; obtain rfl:=e.symm) | (go_at_call 110; refine (rf_goes_b hgo _).mono ?_; rintro _ v ⟨rfl,e⟩; obtain rfl:=e.symm))
           exact bodyPost_ret (results_two (p:=4) (u:=5) (ty:=148) rfl _ _ w§ 148 (tkA tk0) (0,0) _ rfl (heap_fst _ _ _) Tryz.underlying148 rfl zK) rfl ⟨by rw [KK.out.1,KK.out.2]; rfl,below_two _ _ _⟩
          ·have hu:¬ ((65:Int)≤(c2.toNat:Int))∨¬ ((c2.toNat:Int)≤90):=by omega
           rcases hu with hu | hu
           ·have KK:=nb_yes (s:=s) (a:=a) (n:=n) (e:=i+1) (ty:=3) (by rw [nbO_of HN.out hi1,if_neg HA.out,hty]; simp [HQ2.out,badH,upB,hup,hgo])
            rw [hq] at KK
            obtain⟨x,ex⟩:∃ x,s.extract a q=x:=⟨_,rfl⟩
            rw [ex] at KK
            clear HR HN HA hq hty
            go_wp2_with (first | (go_at_call 129; refine (rf_digit_b hg _).mono ?_; rintro _ v ⟨rfl,e⟩; obtain rfl:=e.symm) | (go_at_call 110; refine (rf_goes_b hgo _).mono ?_; rintro _ v ⟨rfl,e⟩; obtain rfl:=e.symm))
            exact bodyPost_ret (results_two (p:=4) (u:=5) (ty:=148) rfl _ _ w§ 148 (tkA ⟨3,x,3,(n:Int),(a:Int)⟩) (0,0) _ rfl (heap_fst _ _ _) Tryz.underlying148 rfl zK) rfl ⟨by rw [KK.out.1,KK.out.2]; rfl,below_two _ _ _⟩
           ·have KK:=nb_yes (s:=s) (a:=a) (n:=n) (e:=i+1) (ty:=3) (by rw [nbO_of HN.out hi1,if_neg HA.out,hty]; simp [HQ2.out,badH,upB,hup,hgo])
            rw [hq] at KK
            obtain⟨x,ex⟩:∃ x,s.extract a q=x:=⟨_,rfl⟩
            rw [ex] at KK
            clear HR HN HA hq hty
            go_wp2_with (first | (go_at_call 129; refine (rf_digit_b hg _).mono ?_; rintro _ v ⟨rfl,e⟩; obtain rfl:=e.symm) | (go_at_call 110; refine (rf_goes_b hgo _).mono ?_; rintro _ v ⟨rfl,e⟩; obtain rfl:=e.symm))
            exact bodyPost_ret (results_two (p:=4) (u:=5) (ty:=148) rfl _ _ w§ 148 (tkA ⟨3,x,3,(n:Int),(a:Int)⟩) (0,0) _ rfl (heap_fst _ _ _) Tryz.underlying148 rfl zK) rfl ⟨by rw [KK.out.1,KK.out.2]; rfl,below_two _ _ _⟩
         ·have hgo':=hgo
          have KK:=nb_no (s:=s) (a:=a) (by rw [nbO_of HN.out hi1,if_neg HA.out,hty]; simp [HQ2.out,badH,hgo])
          clear HR HN HA hq hty
          go_wp2_with (first | (go_at_call 129; refine (rf_digit_b hg _).mono ?_; rintro _ v ⟨rfl,e⟩; obtain rfl:=e.symm) | (go_at_call 110; refine (rf_goes_b hgo _).mono ?_; rintro _ v ⟨rfl,e⟩; obtain rfl:=e.symm))
          exact bodyPost_ret (results_two (p:=4) (u:=5) (ty:=148) rfl _ _ w§ 148 (tkA tk0) (0,0) _ rfl (heap_fst _ _ _) Tryz.underlying148 rfl zK) rfl ⟨by rw [KK.out.1,KK.out.2]; rfl,below_two _ _ _⟩
        ·have hl2':¬ (q:Int) < (s.size:Int):=by omega
         have HE2:Hid (rest s (i+1) = []):=by show _=_; rw [hq]; exact rest_end s q (by omega)
         have KK:=nb_yes (s:=s) (a:=a) (n:=n) (e:=i+1) (ty:=3) (by rw [nbO_of HN.out hi1,if_neg HA.out,hty]; simp [HE2.out,badH])
         rw [hq] at KK
         obtain⟨x,ex⟩:∃ x,s.extract a q=x:=⟨_,rfl⟩
         rw [ex] at KK
         clear HR HN HA hq hty
         go_wp2_with (go_at_call 129; refine (rf_digit_b hg _).mono ?_; rintro _ v ⟨rfl,e⟩; obtain rfl:=e.symm)
         exact bodyPost_ret (results_two (p:=4) (u:=5) (ty:=148) rfl _ _ w§ 148 (tkA ⟨3,x,3,(n:Int),(a:Int)⟩) (0,0) _ rfl (heap_fst _ _ _) Tryz.underlying148 rfl zK) rfl ⟨by rw [KK.out.1,KK.out.2]; rfl,below_two _ _ _⟩
       by_cases k116:c.toNat=116
       ·have hty:nbTy (rest s i)=4:=by rw [HQ.out]; simp [nbTy,k116]
        have x1:((c.toNat:Int) == 113)=false:=beq_false_of_ne (by omega)
        have x2:((c.toNat:Int) == 112)=false:=beq_false_of_ne (by omega)
        have x3:((c.toNat:Int) == 116)=true:=by rw [k116]; rfl
        obtain⟨q,hq⟩:∃ q:Nat,i+1=q:=⟨_,rfl⟩
        have hq':(i:Int)+1=(q:Int):=by omega
        have hqa:a≤q:=by omega
        have hqs:q≤s.size:=by omega
        by_cases hl2:q < s.size
        ·have hl2':(q:Int) < (s.size:Int):=by omega
         obtain⟨c2,hc2⟩:∃ c2,s[q]=c2:=⟨_,rfl⟩
         have HQ2:Hid (rest s (i+1)=c2 :: rest s (q+1)):=by show _=_; rw [hq,rest_at s q hl2,hc2]
         have hcl2:=byte_lt c2
         cases hgo:goB c2
         ·by_cases hup:65≤c2.toNat∧c2.toNat≤90
          ·have hu1:(65:Int)≤(c2.toNat:Int):=by omega
           have hu2:(c2.toNat:Int)≤90:=by omega
           have KK:=nb_no (s:=s) (a:=a) (by rw [nbO_of HN.out hi1,if_neg HA.out,hty]; simp [HQ2.out,badH,upB,hup])
           clear HR HN HA hq hty
           go_wp2_with (first | (go_at_call 129; refine (rf_digit_b hg _).mono ?_; rintro _ v ⟨rfl,e⟩; obtain rfl:=e.symm) | (go_at_call 110; refine (rf_goes_b hgo _).mono ?_; rintro _ v ⟨rfl,e⟩; obtain rfl:=e.symm))
           exact bodyPost_ret (results_two (p:=4) (u:=5) (ty:=148) rfl _ _ w§ 148 (tkA tk0) (0,0) _ rfl (heap_fst _ _ _) Tryz.underlying148 rfl zK) rfl ⟨by rw [KK.out.1,KK.out.2]; rfl,below_two _ _ _⟩
          ·have hu:¬ ((65:Int)≤(c2.toNat:Int))∨¬ ((c2.toNat:Int)≤90):=by omega
           rcases hu with hu | hu
           ·have KK:=nb_yes (s:=s) (a:=a) (n:=n) (e:=i+1) (ty:=4) (by rw [nbO_of HN.out hi1,if_neg HA.out,hty]; simp [HQ2.out,badH,upB,hup,hgo])
            rw [hq] at KK
            obtain⟨x,ex⟩:∃ x,s.extract a q=x:=⟨_,rfl⟩
            rw [ex] at KK
            clear HR HN HA hq hty
            go_wp2_with (first | (go_at_call 129; refine (rf_digit_b hg _).mono ?_; rintro _ v ⟨rfl,e⟩; obtain rfl:=e.symm) | (go_at_call 110; refine (rf_goes_b hgo _).mono ?_; rintro _ v ⟨rfl,e⟩; obtain rfl:=e.symm))
            exact bodyPost_ret (results_two (p:=4) (u:=5) (ty:=148) rfl _ _ w§ 148 (tkA ⟨3,x,4,(n:Int),(a:Int)⟩) (0,0) _ rfl (heap_fst _ _ _) Tryz.underlying148 rfl zK) rfl ⟨by rw [KK.out.1,KK.out.2]; rfl,below_two _ _ _⟩
           ·have KK:=nb_yes (s:=s) (a:=a) (n:=n) (e:=i+1) (ty:=4) (by rw [nbO_of HN.out hi1,if_neg HA.out,hty]; simp [HQ2.out,badH,upB,hup,hgo])
            rw [hq] at KK
            obtain⟨x,ex⟩:∃ x,s.extract a q=x:=⟨_,rfl⟩
            rw [ex] at KK
            clear HR HN HA hq hty
            go_wp2_with (first | (go_at_call 129; refine (rf_digit_b hg _).mono ?_; rintro _ v ⟨rfl,e⟩; obtain rfl:=e.symm) | (go_at_call 110; refine (rf_goes_b hgo _).mono ?_; rintro _ v ⟨rfl,e⟩; obtain rfl:=e.symm))
            exact bodyPost_ret (results_two (p:=4) (u:=5) (ty:=148) rfl _ _ w§ 148 (tkA ⟨3,x,4,(n:Int),(a:Int)⟩) (0,0) _ rfl (heap_fst _ _ _) Tryz.underlying148 rfl zK) rfl ⟨by rw [KK.out.1,KK.out.2]; rfl,below_two _ _ _⟩
         ·have hgo':=hgo
          have KK:=nb_no (s:=s) (a:=a) (by rw [nbO_of HN.out hi1,if_neg HA.out,hty]; simp [HQ2.out,badH,hgo])
          clear HR HN HA hq hty
          go_wp2_with (first | (go_at_call 129; refine (rf_digit_b hg _).mono ?_; rintro _ v ⟨rfl,e⟩; obtain rfl:=e.symm) | (go_at_call 110; refine (rf_goes_b hgo _).mono ?_; rintro _ v ⟨rfl,e⟩; obtain rfl:=e.symm))
          exact bodyPost_ret (results_two (p:=4) (u:=5) (ty:=148) rfl _ _ w§ 148 (tkA tk0) (0,0) _ rfl (heap_fst _ _ _) Tryz.underlying148 rfl zK) rfl ⟨by rw [KK.out.1,KK.out.2]; rfl,below_two _ _ _⟩
        ·have hl2':¬ (q:Int) < (s.size:Int):=by omega
         have HE2:Hid (rest s (i+1) = []):=by show _=_; rw [hq]; exact rest_end s q (by omega)
         have KK:=nb_yes (s:=s) (a:=a) (n:=n) (e:=i+1) (ty:=4) (by rw [nbO_of HN.out hi1,if_neg HA.out,hty]; simp [HE2.out,badH])
         rw [hq] at KK
         obtain⟨x,ex⟩:∃ x,s.extract a q=x:=⟨_,rfl⟩
         rw [ex] at KK
         clear HR HN HA hq hty
         go_wp2_with (go_at_call 129; refine (rf_digit_b hg _).mono ?_; rintro _ v ⟨rfl,e⟩; obtain rfl:=e.symm)
         exact bodyPost_ret (results_two (p:=4) (u:=5) (ty:=148) rfl _ _ w§ 148 (tkA ⟨3,x,4,(n:Int),(a:Int)⟩) (0,0) _ rfl (heap_fst _ _ _) Tryz.underlying148 rfl zK) rfl ⟨by rw [KK.out.1,KK.out.2]; rfl,below_two _ _ _⟩
       have hty:nbTy (rest s i)=1:=by rw [HQ.out]; simp [nbTy,k113,k112,k116]
       have x1:((c.toNat:Int) == 113)=false:=beq_false_of_ne (by omega)
       have x2:((c.toNat:Int) == 112)=false:=beq_false_of_ne (by omega)
       have x3:((c.toNat:Int) == 116)=false:=beq_false_of_ne (by omega)
       cases hgo:goB c
       ·by_cases hup:65≤c.toNat∧c.toNat≤90
        ·have hu1:(65:Int)≤(c.toNat:Int):=by omega
         have hu2:(c.toNat:Int)≤90:=by omega
         have KK:=nb_no (s:=s) (a:=a) (by rw [nbO_of HN.out hi1,if_neg HA.out,hty]; simp [HQ.out,badH,upB,hup])
         clear HR HN HA
         go_wp2_with (first | (go_at_call 129; refine (rf_digit_b hg _).mono ?_; rintro _ v ⟨rfl,e⟩; obtain rfl:=e.symm) | (go_at_call 110; refine (rf_goes_b hgo _).mono ?_; rintro _ v ⟨rfl,e⟩; obtain rfl:=e.symm))
         exact bodyPost_ret (results_two (p:=4) (u:=5) (ty:=148) rfl _ _ w§ 148 (tkA tk0) (0,0) _ rfl (heap_fst _ _ _) Tryz.underlying148 rfl zK) rfl ⟨by rw [KK.out.1,KK.out.2]; rfl,below_two _ _ _⟩
        ·have hu:¬ ((65:Int)≤(c.toNat:Int))∨¬ ((c.toNat:Int)≤90):=by omega
         rcases hu with hu | hu
         ·have KK:=nb_yes (s:=s) (a:=a) (n:=n) (e:=i) (ty:=1) (by rw [nbO_of HN.out hi1,if_neg HA.out,hty]; simp [HQ.out,badH,upB,hup,hgo])
          obtain⟨x,ex⟩:∃ x,s.extract a (i)=x:=⟨_,rfl⟩
          rw [ex] at KK
          clear HR HN HA
          go_wp2_with (first | (go_at_call 129; refine (rf_digit_b hg _).mono ?_; rintro _ v ⟨rfl,e⟩; obtain rfl:=e.symm) | (go_at_call 110; refine (rf_goes_b hgo _).mono ?_; rintro _ v ⟨rfl,e⟩; obtain rfl:=e.symm))
          exact bodyPost_ret (results_two (p:=4) (u:=5) (ty:=148) rfl _ _ w§ 148 (tkA ⟨3,x,1,(n:Int),(a:Int)⟩) (0,0) _ rfl (heap_fst _ _ _) Tryz.underlying148 rfl zK) rfl ⟨by rw [KK.out.1,KK.out.2]; rfl,below_two _ _ _⟩
         ·have KK:=nb_yes (s:=s) (a:=a) (n:=n) (e:=i) (ty:=1) (by rw [nbO_of HN.out hi1,if_neg HA.out,hty]; simp [HQ.out,badH,upB,hup,hgo])
          obtain⟨x,ex⟩:∃ x,s.extract a (i)=x:=⟨_,rfl⟩
          rw [ex] at KK
          clear HR HN HA
          go_wp2_with (first | (go_at_call 129; refine (rf_digit_b hg _).mono ?_; rintro _ v ⟨rfl,e⟩; obtain rfl:=e.symm) | (go_at_call 110; refine (rf_goes_b hgo _).mono ?_; rintro _ v ⟨rfl,e⟩; obtain rfl:=e.symm))
          exact bodyPost_ret (results_two (p:=4) (u:=5) (ty:=148) rfl _ _ w§ 148 (tkA ⟨3,x,1,(n:Int),(a:Int)⟩) (0,0) _ rfl (heap_fst _ _ _) Tryz.underlying148 rfl zK) rfl ⟨by rw [KK.out.1,KK.out.2]; rfl,below_two _ _ _⟩
       ·have hgo':=hgo
        have KK:=nb_no (s:=s) (a:=a) (by rw [nbO_of HN.out hi1,if_neg HA.out,hty]; simp [HQ.out,badH,hgo])
        clear HR HN HA
        go_wp2_with (first | (go_at_call 129; refine (rf_digit_b hg _).mono ?_; rintro _ v ⟨rfl,e⟩; obtain rfl:=e.symm) | (go_at_call 110; refine (rf_goes_b hgo _).mono ?_; rintro _ v ⟨rfl,e⟩; obtain rfl:=e.symm))
        exact bodyPost_ret (results_two (p:=4) (u:=5) (ty:=148) rfl _ _ w§ 148 (tkA tk0) (0,0) _ rfl (heap_fst _ _ _) Tryz.underlying148 rfl zK) rfl ⟨by rw [KK.out.1,KK.out.2]; rfl,below_two _ _ _⟩
   ·have hd:48≤c.toNat∧c.toNat≤57:=by unfold digB at hg; exact of_decide_eq_true hg
    by_cases hov:n > 922337203685477580
    ·have hov':(922337203685477580:Int) < (n:Int):=by omega
     have hO:nbO s a=none:=by
      unfold nbO
      rw [HR.out,HQ.out,nmS,if_pos hg,if_pos hov]
     have KK:=nb_no hO
     clear hO
     go_wp2_with (go_at_call 129; refine (rf_digit_b hg _).mono ?_; rintro _ v ⟨rfl,e⟩; obtain rfl:=e.symm)
     exact bodyPost_ret (results_two (p:=4) (u:=5) (ty:=148) rfl _ _ w§ 148 (tkA tk0) (0,0) _ rfl (heap_fst _ _ _) Tryz.underlying148 rfl zK) rfl ⟨by rw [KK.out.1,KK.out.2]; rfl,below_two _ _ _⟩
    ·have hov':¬ (922337203685477580:Int) < (n:Int):=by omega
     obtain⟨m,hm⟩:∃ m,10 * n+(c.toNat - 48)=m:=⟨_,rfl⟩
     have hm9:m≤9223372036854775809:=by omega
     have hm':10 * (n:Int)+((c.toNat:Int) - 48)=(m:Int):=by omega
     have hs2:Hid (nmS (rest s a) 0 0=nmS (rest s (i+1)) m (i+1 - a)):=by
      show _=_
      rw [HR.out,HQ.out,nmS,if_pos hg,if_neg hov,hm,show i+1 - a=i - a+1 by omega]
     have hd1:(48:Int)≤(c.toNat:Int):=by omega
     have hd2:(c.toNat:Int)≤57:=by omega
     clear hd hm
     go_wp2_with (go_at_call 129; refine (rf_digit_b hg _).mono ?_; rintro _ v ⟨rfl,e⟩; obtain rfl:=e.symm)
     exact⟨⟨i+1,m,by omega,by omega,by go_num,by first | rfl | (simp; omega),hm9,hs2⟩,by simp only [intOf]; omega⟩
  ·skip
   have hn1:¬ (i:Int) < (s.size:Int):=by omega
   have HE:Hid (rest s i = []):=rest_end s i (by omega)
   have HN:Hid (nmS (rest s a) 0 0=some (n,i - a)):=by show _=_; rw [HR.out,HE.out]; rfl
   by_cases hbig:n > 9223372036854775807
   ·have hbig':(9223372036854775807:Int) < (n:Int):=by omega
    have HA:Hid True:=trivial
    have KK:=nb_no (s:=s) (a:=a) (by rw [nbO_of HN.out hi1]; rw [if_pos (Or.inl hbig)])
    clear HR HN HA
    go_wp2
    exact bodyPost_ret (results_two (p:=4) (u:=5) (ty:=148) rfl _ _ w§ 148 (tkA tk0) (0,0) _ rfl (heap_fst _ _ _) Tryz.underlying148 rfl zK) rfl ⟨by rw [KK.out.1,KK.out.2]; rfl,below_two _ _ _⟩
   ·have hbig':¬ (9223372036854775807:Int) < (n:Int):=by omega
    have hwr:IntKind.i64.wrap (n:Int)=(n:Int):=by simp only [IntKind.wrap_i64]; omega
    by_cases hz0:i - a > 1∧z.toNat=48
    ·have hz1:(1:Int) < (i:Int) - (a:Int):=by omega
     have hz2:((z.toNat:Int) == 48)=true:=by rw [hz0.2]; rfl
     have HA:Hid True:=trivial
     have KK:=nb_no (s:=s) (a:=a) (by rw [nbO_of HN.out hi1]; rw [if_pos (Or.inr ⟨hz0.1,by rw [HZ.out]; exact decide_eq_true hz0.2⟩)])
     clear HR HN HA
     go_wp2
     exact bodyPost_ret (results_two (p:=4) (u:=5) (ty:=148) rfl _ _ w§ 148 (tkA tk0) (0,0) _ rfl (heap_fst _ _ _) Tryz.underlying148 rfl zK) rfl ⟨by rw [KK.out.1,KK.out.2]; rfl,below_two _ _ _⟩
    ·have HA:Hid (¬ (n > 9223372036854775807∨(i - a > 1∧hd0 (rest s a)=true))):=by
      rintro (h | ⟨h1,h2⟩)
      ·exact hbig h
      ·rw [HZ.out] at h2; exact hz0 ⟨h1,of_decide_eq_true h2⟩
     have hzz:((i:Int) - (a:Int)≤1)∨(((z.toNat:Int) == 48)=false):=by
      by_cases h:i - a > 1
      ·exact .inr (beq_false_of_ne (fun e=>hz0 ⟨h,by omega⟩))
      ·exact .inl (by omega)
     clear hz0
     go_upto_region 9 with fail
     go_cut [48] from 35 to 48 (fun s48 wx=>s48=.bool false∧wx=(w.alloc (.cells #[zU 0,.string ⟨#[]⟩,zU 0,zI 0,zI 0] 148)).alloc (.cells #[zU 3,.string ⟨#[]⟩,zU 1,zI 0,zI (a:Int)] 148))
     case first =>
      rcases hzz with h | h
      ·have hz1:¬ (1:Int) < (i:Int) - (a:Int):=by omega
       go_wp2
       go_meet
       case rel=>exact⟨by first | rfl | (rw [decide_eq_false (by omega)]),rfl⟩
      ·by_cases hz1:(1:Int) < (i:Int) - (a:Int)
       ·go_wp2
        go_meet
        case rel=>exact⟨by first | rfl | (rw [decide_eq_false (by omega)]),rfl⟩
       ·go_wp2
        go_meet
        case rel=>exact⟨by first | rfl | (rw [decide_eq_false (by omega)]),rfl⟩
     case rest =>
      obtain⟨rfl,rfl⟩:=hcut
      have KK:=nb_yes (s:=s) (a:=a) (n:=n) (e:=i) (ty:=1) (by rw [nbO_of HN.out hi1,if_neg HA.out,HE.out]; simp [nbTy,badH,HE.out])
      obtain⟨x,ex⟩:∃ x,s.extract a (i)=x:=⟨_,rfl⟩
      rw [ex] at KK
      clear HR HN HA
      go_wp2
      all_goals exact bodyPost_ret (results_two (p:=4) (u:=5) (ty:=148) rfl _ _ w§ 148 (tkA ⟨3,x,1,(n:Int),(a:Int)⟩) (0,0) _ rfl (heap_fst _ _ _) Tryz.underlying148 rfl zK) rfl ⟨by rw [KK.out.1,KK.out.2]; rfl,below_two _ _ _⟩
end Go.Proofs.YtoogodlnnijikaaGreatDoor
