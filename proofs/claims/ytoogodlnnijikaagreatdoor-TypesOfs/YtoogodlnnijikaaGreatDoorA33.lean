import Derived.Test.YtoogodlnnijikaaGreatDoorA0
import Derived.Test.YtoogodlnnijikaaGreatDoorA6
namespace Go.Proofs.YtoogodlnnijikaaGreatDoor
open Go.RowKit
set_option linter.unusedVariables false
def OkH (h:Hd):Prop:=h.k=6→6≤h.o∧h.o≤18
theorem ok_form {h:Hd}{a:Option Addr}{c:Nat}{ks:List Nd}(f:formB (.mk h a c ks)=true):OkH h:=by
 intro hk
 simp only [formB,oneH,Bool.and_eq_true] at f
 have:=f.1.2
 unfold fitB at this
 simp [hk] at this
 omega
theorem ok_formX {m:Nd}(f:formB m=true):OkH m.h:=by cases m; exact ok_form f
theorem form_kidO {h:Hd}{a:Option Addr}{c:Nat}{ks:List Nd}(f:formB (.mk h a c ks)=true) {k:Nd}(hk:k ∈ ks):formB k=true:=by
 simp only [formB,Bool.and_eq_true] at f
 have f2:=f.2
 clear f
 induction ks with
 | nil=>cases hk
 | cons j js ih =>
  simp only [formsB,Bool.and_eq_true] at f2
  rcases List.mem_cons.1 hk with e | e
  ·rw [e]; exact f2.1
  ·exact ih e f2.2
set_option maxRecDepth 100000 in
theorem rlevel_any (h:Hd) (a:Option Addr) (l c:Nat) (ok:OkH h) (w:World):Calls zG 152 #[.agg (hdA h a l c)] w fun e w'=>e=.returned (zI (lvl h))∧Below w§ w w':=by
 obtain⟨k,o,t,n,f,x,p⟩:=h
 unfold hdA lvl
 unfold OkH at ok
 simp only at ok ⊢
 by_cases a7:k=7
 ·subst a7; clear ok; go_enter Tryz.func152,Tryz.ntmps152; go_wp2_with fail; go_ret; exact⟨rfl,below_new _ _⟩
 by_cases a6:k=6
 ·subst a6
  obtain⟨o1,o2⟩:=ok rfl
  clear ok
  unfold lvO
  rw [if_neg (by decide),if_pos rfl]
  by_cases b18:o=18
  ·subst b18; go_enter Tryz.func152,Tryz.ntmps152; go_wp2_with fail; go_ret; exact⟨rfl,below_new _ _⟩
  have n18:(o == 18)=false:=by simp [b18]
  by_cases b17:o=17
  ·subst b17; go_enter Tryz.func152,Tryz.ntmps152; go_wp2_with fail; go_ret; exact⟨rfl,below_new _ _⟩
  have n17:(o == 17)=false:=by simp [b17]
  rw [if_neg b18,if_neg b17]
  by_cases b11:11≤o
  ·rw [if_neg (by omega),if_neg (by omega)]
   clear b17 b18 o1 o2
   go_enter Tryz.func152,Tryz.ntmps152; go_wp2_with fail; go_ret; exact⟨rfl,below_new _ _⟩
  by_cases b7:o≤7
  ·rw [if_pos (by omega)]
   clear b17 b18 o1 o2
   go_enter Tryz.func152,Tryz.ntmps152; go_wp2_with fail; go_ret; exact⟨rfl,below_new _ _⟩
  rw [if_neg (by omega),if_pos (by omega)]
  clear b17 b18 o1 o2
  go_enter Tryz.func152,Tryz.ntmps152; go_wp2_with fail; go_ret; exact⟨rfl,below_new _ _⟩
 by_cases a5:k=5
 ·subst a5; clear ok; go_enter Tryz.func152,Tryz.ntmps152; go_wp2_with fail; go_ret; exact⟨rfl,below_new _ _⟩
 rw [if_neg a7,if_neg a6,if_neg a5]
 have b7:(k == 7)=false:=by simp [a7]
 have b6:(k == 6)=false:=by simp [a6]
 have b5:(k == 5)=false:=by simp [a5]
 clear a7 a6 a5 ok
 go_enter Tryz.func152,Tryz.ntmps152; go_wp2_with fail; go_ret; exact⟨rfl,below_new _ _⟩
set_option maxRecDepth 100000 in
set_option maxHeartbeats 1000000 in
theorem rasks_any (h:Hd) (a:Option Addr) (l c i:Nat) (hi:i≤9223372036854775000) (ok:OkH h) (w:World):Calls zG 153 #[.agg (hdA h a l c),zI i] w fun e w'=>e=.returned (zI (ask h i))∧Below w§ w w':=by
 have cL:=fun v=>rlevel_any h a l c ok v
 have hle:=lvl_le h
 unfold ask
 obtain⟨V,eV⟩:∃ V,lvl h=V:=⟨_,rfl⟩
 rw [eV] at hle
 simp only [eV] at cL
 simp only [eV]
 clear eV ok
 obtain⟨k,o,t,n,f,x,p⟩:=h
 unfold hdA at cL ⊢
 simp only at cL ⊢
 obtain⟨hl1,hl2⟩:=hle
 by_cases a7:k=7
 ·subst a7
  by_cases i0:i=0
  ·subst i0; go_enter Tryz.func153,Tryz.ntmps153; go_wp2_with (go_at_call 152; refine (cL _).mono ?_; rintro e w1 ⟨rfl,hb⟩; obtain⟨q0,q1,q2,q3,q4,q5,q6,q7⟩:=box8 hb; have HB1:Hid (Below w§ w w1):=(below_new _ _).trans (hb.mono (by simp)); clear hb); go_ret; exact⟨rfl,HB1.out⟩
  ·have i0':((i:Int) == 0)=false:=by simp; omega
   rw [if_pos rfl,if_neg i0]
   go_enter Tryz.func153,Tryz.ntmps153; go_wp2_with (go_at_call 152; refine (cL _).mono ?_; rintro e w1 ⟨rfl,hb⟩; obtain⟨q0,q1,q2,q3,q4,q5,q6,q7⟩:=box8 hb; have HB1:Hid (Below w§ w w1):=(below_new _ _).trans (hb.mono (by simp)); clear hb); go_ret; exact⟨rfl,HB1.out⟩
 by_cases a6:k=6
 ·subst a6
  by_cases v4:V=4
  ·subst v4; go_enter Tryz.func153,Tryz.ntmps153; go_wp2_with (go_at_call 152; refine (cL _).mono ?_; rintro e w1 ⟨rfl,hb⟩; obtain⟨q0,q1,q2,q3,q4,q5,q6,q7⟩:=box8 hb; have HB1:Hid (Below w§ w w1):=(below_new _ _).trans (hb.mono (by simp)); clear hb); go_ret; exact⟨rfl,HB1.out⟩
  ·have v4':(V == 4)=false:=by simp [v4]
   have g1:-9223372036854775808≤V+(i:Int):=by omega
   have g2:V+(i:Int)≤9223372036854775807:=by omega
   rw [if_neg (by decide),if_pos rfl,if_neg v4]
   go_enter Tryz.func153,Tryz.ntmps153
   go_wp2_with (go_at_call 152; refine (cL _).mono ?_; rintro e w1 ⟨rfl,hb⟩; obtain⟨q0,q1,q2,q3,q4,q5,q6,q7⟩:=box8 hb; have HB1:Hid (Below w§ w w1):=(below_new _ _).trans (hb.mono (by simp)); clear hb)
   go_ret
   exact⟨rfl,HB1.out⟩
 by_cases a5:k=5
 ·subst a5; go_enter Tryz.func153,Tryz.ntmps153; go_wp2_with (go_at_call 152; refine (cL _).mono ?_; rintro e w1 ⟨rfl,hb⟩; obtain⟨q0,q1,q2,q3,q4,q5,q6,q7⟩:=box8 hb; have HB1:Hid (Below w§ w w1):=(below_new _ _).trans (hb.mono (by simp)); clear hb); go_ret; exact⟨rfl,HB1.out⟩
 rw [if_neg a7,if_neg a6,if_neg a5]
 have b7:(k == 7)=false:=by simp [a7]
 have b6:(k == 6)=false:=by simp [a6]
 have b5:(k == 5)=false:=by simp [a5]
 clear a7 a6 a5
 go_enter Tryz.func153,Tryz.ntmps153; go_wp2_with (go_at_call 152; refine (cL _).mono ?_; rintro e w1 ⟨rfl,hb⟩; obtain⟨q0,q1,q2,q3,q4,q5,q6,q7⟩:=box8 hb; have HB1:Hid (Below w§ w w1):=(below_new _ _).trans (hb.mono (by simp)); clear hb); go_ret; exact⟨rfl,HB1.out⟩
end Go.Proofs.YtoogodlnnijikaaGreatDoor
