import Derived.Test.YtfbjofnaghjmeaaGreatDoorA1
namespace Go.Proofs.YtfbjofnaghjmeaaGreatDoor
open Go.Proofs.Tryz
set_option maxHeartbeats 4000000
set_option maxRecDepth 100000
open Go.RowKit
set_option linter.unusedVariables false
theorem VC (c:UInt8) (w:yW):Calls zG 123 #[zU (c.toNat:Int)] w fun e w'=>e=.returned (.bool (letB c))∧w'=w:=by
 go_enter func123,ntmps123
 go_wp2
 all_goals go_ret
 all_goals refine⟨retB ?_,rfl⟩
 all_goals unfold letB
 ·have h:97≤c.toNat:=by omega
  by_cases h2:c.toNat≤122
  ·rw [decide_eq_true (show (c.toNat:Int)≤122 by omega),decide_eq_true ⟨h,h2⟩]
  ·rw [decide_eq_false (show ¬ (c.toNat:Int)≤122 by omega),decide_eq_false (fun k=>h2 k.2)]
 ·rw [decide_eq_false zY]
theorem Hn (c:UInt8) (w:yW):Calls zG 169 #[zU (c.toNat:Int)] w fun e w'=>e=.returned (.bool (digB c))∧w'=w:=by
 go_enter func169,ntmps169
 go_wp2
 all_goals go_ret
 all_goals refine⟨retB ?_,rfl⟩
 all_goals unfold digB
 ·have h:48≤c.toNat:=by omega
  by_cases h2:c.toNat≤57
  ·rw [decide_eq_true (show (c.toNat:Int)≤57 by omega),decide_eq_true ⟨h,h2⟩]
  ·rw [decide_eq_false (show ¬ (c.toNat:Int)≤57 by omega),decide_eq_false (fun k=>h2 k.2)]
 ·rw [decide_eq_false zY]
theorem Jh {c:UInt8}{b:Bool}(h:letB c=b) (w:yW):Calls zG 123 #[zU (c.toNat:Int)] w fun e w'=>e=.returned (.bool b)∧w'=w:=h ▸ VC c w
theorem Qv {c:UInt8}{b:Bool}(h:digB c=b) (w:yW):Calls zG 169 #[zU (c.toNat:Int)] w fun e w'=>e=.returned (.bool b)∧w'=w:=h ▸ Hn c w
theorem PT (c:UInt8) (w:yW):Calls zG 124 #[zU (c.toNat:Int)] w fun e w'=>e=.returned (.bool (goB c))∧w'=w:=by
 cases b1:letB c
 ·cases b2:digB c
  ·have hg:goB c=((c.toNat:Int) == 95):=by
    unfold goB
    rw [b1,b2]
    by_cases h:c.toNat=95
    ·rw [h];rfl
    ·have h':((c.toNat:Int) == 95)=false:=beq_false_of_ne zY
     rw [h'];simp [h]
   go_enter func124,ntmps124
   go_wp2_with (first | (go_at_call 123;refine (Jh b1 _).mono ?_;rintro _ v ⟨rfl,e⟩;obtain rfl:=e.symm) | (go_at_call 169;refine (Qv b2 _).mono ?_;rintro _ v ⟨rfl,e⟩;obtain rfl:=e.symm))
   all_goals go_ret
   all_goals exact⟨by rw [hg];rfl,rfl⟩
  ·have hg:goB c=true:=by unfold goB;rw [b1,b2];rfl
   go_enter func124,ntmps124
   go_wp2_with (first | (go_at_call 123;refine (Jh b1 _).mono ?_;rintro _ v ⟨rfl,e⟩;obtain rfl:=e.symm) | (go_at_call 169;refine (Qv b2 _).mono ?_;rintro _ v ⟨rfl,e⟩;obtain rfl:=e.symm))
   all_goals go_ret
   all_goals exact⟨by rw [hg];rfl,rfl⟩
 ·have hg:goB c=true:=by unfold goB;rw [b1];rfl
  go_enter func124,ntmps124
  go_wp2_with (go_at_call 123;refine (Jh b1 _).mono ?_;rintro _ v ⟨rfl,e⟩;obtain rfl:=e.symm)
  all_goals go_ret
  all_goals exact⟨by rw [hg];rfl,rfl⟩
theorem QF {c:UInt8}{b:Bool}(h:goB c=b) (w:yW):Calls zG 124 #[zU (c.toNat:Int)] w fun e w'=>e=.returned (.bool b)∧w'=w:=h ▸ PT c w
theorem Km (s:yB) (a:Nat) (hs:s.size≤140737488355328) (ha:a≤s.size) (d:Nat) (hd:Hid (d=a+ov (rest s a) false)) (w:yW) :
  Calls zG 199 #[.string s,zI a] w fun e w'=>e=.returned (zI d)∧w'=w:=by
 go_enter func199,ntmps199
 go_wp2_with fail
 go_loop [5,6] (fun r t=>∃ (i:Nat) (b:Bool),a≤i∧i≤s.size∧t=zI i∧r=.bool b∧Hid (d=i+ov (rest s i) b)) (fun _ t=>s.size - (intOf t).toNat)
 case atStart=>exact⟨a,false,Nat.le_refl _,ha,rfl,rfl,hd⟩
 case round =>
  obtain⟨i,b,hi1,hi2,rfl,rfl,HR⟩:=hrel
  clear hd
  by_cases hlt:i < s.size
  ·have hlt':(i:Int) < (s.size:Int):=by omega
   have hr:=QY s i hlt
   obtain⟨c,hc⟩:∃ c,s[i]=c:=jV
   rw [hc] at hr
   have hcl:=K0 c
   have hq:=zH hr
   clear hr
   have e10:(((c.toNat:Int) == 10)=true ↔ c.toNat=10):=by rw [beq_iff_eq];omega
   by_cases k35:c.toNat=35
   ·have x10:((c.toNat:Int) == 10)=false:=beq_false_of_ne zY
    have x35:((c.toNat:Int) == 35)=true:=by rw [k35];rfl
    have hs2:Hid (d=(i+1)+ov (rest s (i+1)) true):=by
     show _=_
     have e:remB b c=true:=by unfold remB;rw [if_pos k35]
     rw [HR.out,hq.out,XL (by rw [e];simp),e];omega
    clear e10
    cases b <;> go_wp2 <;> exact⟨⟨i+1,true,by omega,by omega,by go_num,rfl,hs2⟩,by simp only [intOf];omega⟩
   ·have x35:((c.toNat:Int) == 35)=false:=beq_false_of_ne zY
    by_cases k10:c.toNat=10
    ·have x10:((c.toNat:Int) == 10)=true:=by rw [k10];rfl
     have hs2:Hid (d=(i+1)+ov (rest s (i+1)) false):=by
      show _=_
      have e:remB b c=false:=by unfold remB;rw [if_neg k35,if_pos k10]
      have e2:Jj c=true:=by unfold Jj;simp [k10]
      rw [HR.out,hq.out,XL (by rw [e2];simp),e];omega
     have n10:((c.toNat:Int) != 10)=false:=by rw [k10];rfl
     clear e10
     cases b <;> go_wp2 <;> first | exact⟨⟨i+1,false,by omega,by omega,by go_num,rfl,hs2⟩,by simp only [intOf];omega⟩ | (exfalso;omega)
    ·have x10:((c.toNat:Int) == 10)=false:=beq_false_of_ne zY
     have n10:((c.toNat:Int) != 10)=true:=by simp;omega
     have e:remB b c=b:=by unfold remB;rw [if_neg k35,if_neg k10]
     clear e10
     cases b
     ·cases hb:Jj c
      ·have n32:((c.toNat:Int) != 32)=true:=by unfold Jj at hb;simp at hb ⊢;omega
       have n9:((c.toNat:Int) != 9)=true:=by unfold Jj at hb;simp at hb ⊢;omega
       have n13:((c.toNat:Int) != 13)=true:=by unfold Jj at hb;simp at hb ⊢;omega
       have hs2:Hid (i=d):=by show _=_;rw [HR.out,hq.out,X6 e hb];omega
       go_wp2
       go_ret
       exact⟨retI (by rw [hs2.out]),rfl⟩
      ·have hs2:Hid (d=(i+1)+ov (rest s (i+1)) false):=by
        show _=_
        rw [HR.out,hq.out,XL (by rw [hb];simp),e];omega
       have hor:c.toNat=32∨c.toNat=9∨c.toNat=13:=by unfold Jj at hb;simp at hb;omega
       have n32:((c.toNat:Int) != 32)=decide (c.toNat≠32):=by by_cases h:c.toNat=32 <;> simp [h];omega
       have n9:((c.toNat:Int) != 9)=decide (c.toNat≠9):=by by_cases h:c.toNat=9 <;> simp [h];omega
       have n13:((c.toNat:Int) != 13)=decide (c.toNat≠13):=by by_cases h:c.toNat=13 <;> simp [h];omega
       clear hb
       rcases hor with h | h | h
       all_goals simp only [h] at n32 n9 n13
       all_goals go_wp2
       all_goals first | exact⟨⟨i+1,false,by omega,by omega,by go_num,rfl,hs2⟩,by simp only [intOf];omega⟩ | (exfalso;omega)
     ·have hs2:Hid (d=(i+1)+ov (rest s (i+1)) true):=by
       show _=_
       rw [HR.out,hq.out,XL (by rw [e];simp),e];omega
      go_wp2
      exact⟨⟨i+1,true,by omega,by omega,by go_num,rfl,hs2⟩,by simp only [intOf];omega⟩
  ·have hn:¬ (i:Int) < (s.size:Int):=by omega
   have hs2:Hid (s.size=d):=by show _=_;rw [HR.out,Jt s i zY];show _=i+0;omega
   go_wp2
   go_ret
   exact⟨retI (by rw [hs2.out]),rfl⟩
theorem Hk (w:yW):Calls zG 168 #[] w fun e w'=>e=.returned (.slice (some w§¢0) 41 41)∧w'=w.alloc (.cells Ut 9):=by
 go_enter func168,ntmps168
 go_wp2
 go_ret
 exact⟨rfl,rfl⟩
theorem Xf (s:yB) (w:yW):Calls zG 122 #[.string s] w fun e w'=>e=.returned (.bool (isW s))∧yD w w':=by
 have hc:=FJ w
 have hB:=Qb w (.cells Ut 9)
 go_enter func122,ntmps122
 go_wp2_with fail
 refine (Hk _).mono ?_
 rintro _ v ⟨rfl,e⟩
 rw [← e] at hc hB
 have HC:=zH hc
 clear hc e
 go_wp2_with fail
 go_loop [4] (fun t=>∃ i:Nat,i≤41∧t=zI i∧Hid (∀ j,j < i→¬ wd j=s)) (fun t=>41 - (intOf t).toNat)
 case atStart=>exact⟨0,by omega,rfl,fun j hj=>by omega⟩
 case round =>
  obtain⟨i,hi,rfl,HR⟩:=hrel
  by_cases hlt:i < 41
  ·have hlt':(i:Int) < 41:=by omega
   have hcell:=HC.out i hlt
   obtain⟨x,ex⟩:∃ x,wd i=x:=jV
   rw [ex] at hcell
   by_cases he:x=s
   ·have hw:=Qbs hlt (ex.trans he)
    subst he
    go_wp2
    go_ret
    exact⟨by first | rfl | exact retB hw.symm,hB⟩
   ·have hne:=U0 he
    have hn:Hid (∀ j,j < i+1→¬ wd j=s):=fun j hj=>by
     by_cases e:j=i
     ·subst e;rw [ex];exact he
     ·exact HR.out j zY
    clear he ex
    go_wp2
    exact⟨⟨i+1,by omega,by go_num,hn⟩,by simp only [intOf];omega⟩
  ·obtain rfl:i=41:=by omega
   have hw:=QeA HR.out
   go_wp2
   go_ret
   exact⟨by first | rfl | exact retB hw.symm,hB⟩
theorem Hl (s:yB) (a:Nat) (hs:s.size≤140737488355328) (ha:a≤s.size) (w:yW) :
  Calls zG 200 #[.string s,zI a] w fun e w'=>e=.returned (.tuple #[.agg (tkA (nmT s a)),zI (nmE s a)])∧yD w w':=by
 obtain⟨d,hd⟩:∃ d,a+lead goB (rest s a)=d:=jV
 have hd1:a≤d:=by omega
 have hd2:d≤s.size:=by have:=KV goB (rest s a);rw [Jl] at this;omega
 have HT:Hid (nmT s a=if d - a > 16 then tk0 else ⟨if isW (s.extract a d)=true then 1 else 2,s.extract a d,0,0,a⟩):=by show _=_;unfold nmT;rw [hd,show lead goB (rest s a)=d - a by omega]
 have HE:Hid (nmE s a=if d - a > 16 then 112 else 0):=by show _=_;unfold nmE;rw [show lead goB (rest s a)=d - a by omega]
 have HD:=zH hd.symm
 have H0:Hid (TkH (zA w (tkA tk0) 233) w§ tk0):=Qc w _
 have hB:=Qb w (.cells (tkA tk0) 233)
 have hz:=Qe w (.cells (tkA tk0) 233)
 unfold tkA tk0 at hB hz
 dsimp only at hB hz
 clear hd
 go_enter func200,ntmps200
 go_wp2_with fail
 obtain⟨W,eW⟩:∃ W,w.alloc (.cells zv 233)=W:=jV
 have H1:Hid (TkH W w§ tk0):=by have:=H0.out;unfold tkA tk0 at this;dsimp only at this;rw [eW] at this;exact this
 rw [eW] at hB hz ⊢
 clear eW H0
 go_loop [6] (fun t=>∃ i:Nat,a≤i∧i≤d∧t=zI i∧Hid (d=i+lead goB (rest s i))) (fun t=>s.size - (intOf t).toNat)
 case atStart=>exact⟨a,Nat.le_refl _,hd1,rfl,HD⟩
 case round =>
  obtain⟨i,hi1,hi2,rfl,HR⟩:=hrel
  clear HD
  by_cases hlt:i < s.size
  ·have hlt':(i:Int) < (s.size:Int):=by omega
   have hr:=QY s i hlt
   obtain⟨c,hc⟩:∃ c,s[i]=c:=jV
   rw [hc] at hr
   cases hg:goB c
   ·have hs2:Hid (i=d):=by show _=_;rw [HR.out,hr,lead,if_neg (by rw [hg];decide)];omega
    have hs3:=hs2.out
    subst hs3
    clear hr hs2 HR
    by_cases h16:i - a > 16
    ·have h16':(16:Int) < (i:Int) - (a:Int):=by omega
     have hT:=HT.out
     rw [if_pos h16] at hT
     have hE:=HE.out
     rw [if_pos h16] at hE
     obtain⟨r0,r1,r2,r3,r4⟩:=H1.out.cells
     obtain⟨f0,f1,f2,f3,f4⟩:=H1.out.froz
     have hlt4:=H1.out.lt
     have KT:Hid (nmT s a=tk0):=hT
     have KE:Hid (nmE s a=112):=hE
     clear hT hE HT HE
     go_wp2_with (go_at_call 124;refine (QF hg _).mono ?_;rintro _ v ⟨rfl,e⟩;obtain rfl:=e.symm)
     exact bodyPost_ret (Qi (p:=4) (u:=5) (ty:=233) rfl _ _ w§ 233 (tkA tk0) (0,0) _ rfl (Qz (H1.out.put tk0) (H1.out.put tk0).lt) underlying233 rfl zK) rfl ⟨by rw [KT.out,KE.out];rfl,(Qu hB (Nat.le_refl _) _ _ _ _ _).alloc (Qu hB (Nat.le_refl _) _ _ _ _ _).size _⟩
    ·have h16':¬ (16:Int) < (i:Int) - (a:Int):=by omega
     have hT:=HT.out
     rw [if_neg h16] at hT
     have hE:=HE.out
     rw [if_neg h16] at hE
     obtain⟨x,ex⟩:∃ x,s.extract a i=x:=jV
     rw [ex] at hT
     have hY:TkH (zA W (tkA ⟨2,x,0,0,a⟩) 233) W§ ⟨2,x,0,0,a⟩:=Qc W _
     have hR:TkH (zA W (tkA ⟨2,x,0,0,a⟩) 233) w§ tk0:=Qz H1.out H1.out.lt
     have hB2:=hB.alloc hB.size (.cells (tkA ⟨2,x,0,0,a⟩) 233)
     rw [hz] at hY
     have HY:=hY.hid
     have HRR:=hR.hid
     have HB2:=zH hB2
     have hwa:=Xf x
     cases hw:isW x
     ·rw [hw] at hT hwa
      have hT':nmT s a=⟨2,x,0,0,a⟩:=hT
      have KT:=zH hT'
      have KE:Hid (nmE s a=0):=hE
      clear hT hE HT HE hT' hY hR hB2
      go_wp2_with (go_at_call 124;refine (QF hg _).mono ?_;rintro _ v ⟨rfl,e⟩;obtain rfl:=e.symm)
      refine (hwa _).mono ?_
      rintro _ v ⟨rfl,bb⟩
      have HY2:=(HY.out.onto bb).hid
      have HR2:=(HRR.out.onto bb).hid
      have hB3:=HB2.out.trans (bb.mono HB2.out.size)
      obtain⟨y0,y1,y2,y3,y4⟩:=HY2.out.cells
      obtain⟨r0,r1,r2,r3,r4⟩:=HR2.out.cells
      obtain⟨f0,f1,f2,f3,f4⟩:=HR2.out.froz
      clear bb
      go_wp2
      exact bodyPost_ret (Qi (p:=4) (u:=5) (ty:=233) rfl _ _ w§ 233 (tkA ⟨2,x,0,0,a⟩) (0,0) _ rfl (HR2.out.put ⟨2,x,0,0,a⟩) underlying233 rfl zK) rfl ⟨by rw [KT.out,KE.out];rfl,Qu hB3 (Nat.le_refl _) _ _ _ _ _⟩
     ·rw [hw] at hT hwa
      have hT':nmT s a=⟨1,x,0,0,a⟩:=hT
      have KT:=zH hT'
      have KE:Hid (nmE s a=0):=hE
      clear hT hE HT HE hT' hY hR hB2
      go_wp2_with (go_at_call 124;refine (QF hg _).mono ?_;rintro _ v ⟨rfl,e⟩;obtain rfl:=e.symm)
      refine (hwa _).mono ?_
      rintro _ v ⟨rfl,bb⟩
      have HY2:=(HY.out.onto bb).hid
      have HR2:=(HRR.out.onto bb).hid
      have hB3:=HB2.out.trans (bb.mono HB2.out.size)
      obtain⟨V,eV⟩:∃ V,v.setCell ⟨w§+1,0,none⟩ (zU 1)=V:=jV
      have HY3:Hid (TkH V (w§+1) ⟨1,x,0,0,a⟩):=by show TkH V _ _;rw [← eV];exact Qp _ HY2.out
      have HR3:Hid (TkH V w§ tk0):=by show TkH V _ _;rw [← eV];exact (Below.heap_setCell _ _ _ _ (by simp)).trans HR2.out
      have hB4:yD w V:=by rw [← eV];exact hB3.setCell (p:=⟨w§+1,0,none⟩) (by simp) _
      obtain⟨z0,z1,z2,z3,z4⟩:=HY2.out.cells
      obtain⟨g0,g1,g2,g3,g4⟩:=HY2.out.froz
      obtain⟨y0,y1,y2,y3,y4⟩:=HY3.out.cells
      obtain⟨r0,r1,r2,r3,r4⟩:=HR3.out.cells
      obtain⟨f0,f1,f2,f3,f4⟩:=HR3.out.froz
      clear bb hB3
      go_wp2
      exact bodyPost_ret (Qi (p:=4) (u:=5) (ty:=233) rfl _ _ w§ 233 (tkA ⟨1,x,0,0,a⟩) (0,0) _ rfl (HR3.out.put ⟨1,x,0,0,a⟩) underlying233 rfl zK) rfl ⟨by rw [KT.out,KE.out];rfl,Qu hB4 (Nat.le_refl _) _ _ _ _ _⟩
   ·have hs2:Hid (d=(i+1)+lead goB (rest s (i+1))):=by show _=_;rw [HR.out,hr,lead,if_pos hg];omega
    have h3:i+1≤d:=by have:=hs2.out;omega
    clear hr
    go_wp2_with (go_at_call 124;refine (QF hg _).mono ?_;rintro _ v ⟨rfl,e⟩;obtain rfl:=e.symm)
    exact⟨⟨i+1,by omega,h3,by go_num,hs2⟩,by simp only [intOf];omega⟩
  ·have hn:¬ (i:Int) < (s.size:Int):=by omega
   have hs3:i=d:=by rw [HR.out,Jt s i zY];rfl
   subst hs3
   clear HR
   by_cases h16:i - a > 16
   ·have h16':(16:Int) < (i:Int) - (a:Int):=by omega
    have hT:=HT.out
    rw [if_pos h16] at hT
    have hE:=HE.out
    rw [if_pos h16] at hE
    obtain⟨r0,r1,r2,r3,r4⟩:=H1.out.cells
    obtain⟨f0,f1,f2,f3,f4⟩:=H1.out.froz
    have hlt4:=H1.out.lt
    have KT:Hid (nmT s a=tk0):=hT
    have KE:Hid (nmE s a=112):=hE
    clear hT hE HT HE
    go_wp2_with fail
    exact bodyPost_ret (Qi (p:=4) (u:=5) (ty:=233) rfl _ _ w§ 233 (tkA tk0) (0,0) _ rfl (Qz (H1.out.put tk0) (H1.out.put tk0).lt) underlying233 rfl zK) rfl ⟨by rw [KT.out,KE.out];rfl,(Qu hB (Nat.le_refl _) _ _ _ _ _).alloc (Qu hB (Nat.le_refl _) _ _ _ _ _).size _⟩
   ·have h16':¬ (16:Int) < (i:Int) - (a:Int):=by omega
    have hT:=HT.out
    rw [if_neg h16] at hT
    have hE:=HE.out
    rw [if_neg h16] at hE
    obtain⟨x,ex⟩:∃ x,s.extract a i=x:=jV
    rw [ex] at hT
    have hY:TkH (zA W (tkA ⟨2,x,0,0,a⟩) 233) W§ ⟨2,x,0,0,a⟩:=Qc W _
    have hR:TkH (zA W (tkA ⟨2,x,0,0,a⟩) 233) w§ tk0:=Qz H1.out H1.out.lt
    have hB2:=hB.alloc hB.size (.cells (tkA ⟨2,x,0,0,a⟩) 233)
    rw [hz] at hY
    have HY:=hY.hid
    have HRR:=hR.hid
    have HB2:=zH hB2
    have hwa:=Xf x
    cases hw:isW x
    ·rw [hw] at hT hwa
     have hT':nmT s a=⟨2,x,0,0,a⟩:=hT
     have KT:=zH hT'
     have KE:Hid (nmE s a=0):=hE
     clear hT hE HT HE hT' hY hR hB2
     go_wp2_with fail
     refine (hwa _).mono ?_
     rintro _ v ⟨rfl,bb⟩
     have HY2:=(HY.out.onto bb).hid
     have HR2:=(HRR.out.onto bb).hid
     have hB3:=HB2.out.trans (bb.mono HB2.out.size)
     obtain⟨y0,y1,y2,y3,y4⟩:=HY2.out.cells
     obtain⟨r0,r1,r2,r3,r4⟩:=HR2.out.cells
     obtain⟨f0,f1,f2,f3,f4⟩:=HR2.out.froz
     clear bb
     go_wp2
     exact bodyPost_ret (Qi (p:=4) (u:=5) (ty:=233) rfl _ _ w§ 233 (tkA ⟨2,x,0,0,a⟩) (0,0) _ rfl (HR2.out.put ⟨2,x,0,0,a⟩) underlying233 rfl zK) rfl ⟨by rw [KT.out,KE.out];rfl,Qu hB3 (Nat.le_refl _) _ _ _ _ _⟩
    ·rw [hw] at hT hwa
     have hT':nmT s a=⟨1,x,0,0,a⟩:=hT
     have KT:=zH hT'
     have KE:Hid (nmE s a=0):=hE
     clear hT hE HT HE hT' hY hR hB2
     go_wp2_with fail
     refine (hwa _).mono ?_
     rintro _ v ⟨rfl,bb⟩
     have HY2:=(HY.out.onto bb).hid
     have HR2:=(HRR.out.onto bb).hid
     have hB3:=HB2.out.trans (bb.mono HB2.out.size)
     obtain⟨V,eV⟩:∃ V,v.setCell ⟨w§+1,0,none⟩ (zU 1)=V:=jV
     have HY3:Hid (TkH V (w§+1) ⟨1,x,0,0,a⟩):=by show TkH V _ _;rw [← eV];exact Qp _ HY2.out
     have HR3:Hid (TkH V w§ tk0):=by show TkH V _ _;rw [← eV];exact (Below.heap_setCell _ _ _ _ (by simp)).trans HR2.out
     have hB4:yD w V:=by rw [← eV];exact hB3.setCell (p:=⟨w§+1,0,none⟩) (by simp) _
     obtain⟨z0,z1,z2,z3,z4⟩:=HY2.out.cells
     obtain⟨g0,g1,g2,g3,g4⟩:=HY2.out.froz
     obtain⟨y0,y1,y2,y3,y4⟩:=HY3.out.cells
     obtain⟨r0,r1,r2,r3,r4⟩:=HR3.out.cells
     obtain⟨f0,f1,f2,f3,f4⟩:=HR3.out.froz
     clear bb hB3
     go_wp2
     exact bodyPost_ret (Qi (p:=4) (u:=5) (ty:=233) rfl _ _ w§ 233 (tkA ⟨1,x,0,0,a⟩) (0,0) _ rfl (HR3.out.put ⟨1,x,0,0,a⟩) underlying233 rfl zK) rfl ⟨by rw [KT.out,KE.out];rfl,Qu hB4 (Nat.le_refl _) _ _ _ _ _⟩
theorem PS (s:yB) (a:Nat) (hs:s.size≤140737488355328) (ha:a≤s.size) (w:yW) :
  Calls zG 202 #[.string s,zI a] w fun e w'=>e=.returned (.tuple #[.agg (tkA (mkT s a)),zI (mkE s a)])∧yD w w':=by
 have h0:TkH ((zA w (tkA tk0) 233).alloc (.cells UD 9)) w§ tk0:=Qz (Qc w _) (by rw [Qe];omega)
 have hc:∀ j,j < 23→((zA w (tkA tk0) 233).alloc (.cells UD 9)).cell? ⟨w§+1,j,none⟩=some (.string (mk j)):=fun j hj=>by
  have:=QaF (zA w (tkA tk0) 233) j hj
  rwa [Qe] at this
 have hB:=Qk w (.cells (tkA tk0) 233) (.cells UD 9)
 go_enter func202,ntmps202
 go_wp2_with fail
 obtain⟨W,eW⟩:∃ W,(zA w (tkA tk0) 233).alloc (.cells UD 9)=W:=jV
 rw [eW] at h0 hc hB
 have eW':(zA w zv 233).alloc (.cells #[.string ⟨#[61,61]⟩,.string ⟨#[33,61]⟩,.string ⟨#[60,61]⟩,.string ⟨#[62,61]⟩,.string Z7,.string Zk,.string Zg,.string Ze,.string ⟨#[40]⟩,.string ⟨#[41]⟩,.string Z8,.string Z9,.string ⟨#[63]⟩,.string ⟨#[58]⟩,.string Zh,.string ⟨#[33]⟩,.string ⟨#[60]⟩,.string ⟨#[62]⟩,.string ⟨#[43]⟩,.string Zi,.string ⟨#[42]⟩,.string ⟨#[47]⟩,.string ⟨#[37]⟩] 9)=W:=eW
 rw [eW']
 have H0:=h0.hid
 have HC:=zH hc
 clear h0 hc eW eW'
 go_loopw [7] (fun t wr=>∃ i n:Nat,i≤23∧t=zI i∧wr=W.drewN n∧Hid (∀ j,j < i→mkB s a j=false)) (fun t _=>23 - (intOf t).toNat)
 case atStart=>exact⟨0,0,by omega,rfl,rfl,fun j hj=>by omega⟩
 case round =>
  obtain⟨i,n,hi,rfl,rfl,HR⟩:=hrel
  by_cases hlt:i < 23
  ·have hlt':(i:Int) < 23:=by omega
   have hcell:=HC.out i hlt
   have hsz:=Qgb i
   obtain⟨x,ex⟩:∃ x,mk i=x:=jV
   rw [ex] at hcell hsz
   obtain⟨r0,r1,r2,r3,r4⟩:=H0.out.cells
   obtain⟨f0,f1,f2,f3,f4⟩:=H0.out.froz
   obtain⟨q,hq⟩:∃ q:Nat,a+x.size=q:=jV
   have hq':(a:Int)+(x.size:Int)=(q:Int):=by omega
   have haq:a≤q:=by omega
   have haq':(a:Int)≤(q:Int):=by omega
   by_cases hfit:q≤s.size
   ·have hfit':(q:Int)≤(s.size:Int):=by omega
    obtain⟨y,ey⟩:∃ y,s.extract a q=y:=jV
    by_cases he:y=x
    ·have hm:mkB s a i=true:=by unfold mkB;rw [ex,hq,ey,he,decide_eq_true hfit];simp
     have hO:=Qen hlt HR.out hm
     have KT:Hid (mkT s a=⟨4,x,0,0,a⟩):=by show _=_;unfold mkT;rw [hO];simp only [ex]
     have KE:Hid (mkE s a=0):=by show _=_;unfold mkE;rw [hO]
     subst he
     clear hm hO ex hq
     go_wp2
     go_quiet (fail)
     go_wp2
     exact bodyPost_ret (Qi (p:=4) (u:=5) (ty:=233) rfl _ _ w§ 233 (tkA ⟨4,y,0,0,a⟩) (0,0) _ rfl ((H0.out.drewN _).put ⟨4,y,0,0,a⟩) underlying233 rfl zK) rfl ⟨by rw [KT.out,KE.out];rfl,Qu (XV hB _) (Nat.le_refl _) _ _ _ _ _⟩
    ·have hne:=U0 he
     have hm:mkB s a i=false:=by
      unfold mkB
      rw [ex,hq,ey]
      have:(y.data.toList == x.data.toList)=false:=beq_false_of_ne (fun h=>he (Xc h))
      rw [this];simp
     have hn:Hid (∀ j,j < i+1→mkB s a j=false):=fun j hj=>by
      by_cases e:j=i
      ·subst e;exact hm
      ·exact HR.out j zY
     clear hm ex hq he
     go_wp2
     go_quiet (fail)
     go_wp2
     exact⟨⟨i+1,_,by omega,by go_num,rfl,hn⟩,by simp only [intOf];omega⟩
   ·have hfit':¬ (q:Int)≤(s.size:Int):=by omega
    have hm:mkB s a i=false:=by unfold mkB;rw [ex,hq,decide_eq_false hfit];rfl
    have hn:Hid (∀ j,j < i+1→mkB s a j=false):=fun j hj=>by
     by_cases e:j=i
     ·subst e;exact hm
     ·exact HR.out j zY
    clear hm ex hq
    go_wp2
    go_quiet (fail)
    go_wp2
    exact⟨⟨i+1,_,by omega,by go_num,rfl,hn⟩,by simp only [intOf];omega⟩
  ·obtain rfl:i=23:=by omega
   have hO:=Qeo HR.out
   have KT:Hid (mkT s a=tk0):=by show _=_;unfold mkT;rw [hO]
   have KE:Hid (mkE s a=111):=by show _=_;unfold mkE;rw [hO]
   obtain⟨r0,r1,r2,r3,r4⟩:=H0.out.cells
   obtain⟨f0,f1,f2,f3,f4⟩:=H0.out.froz
   clear hO
   go_wp2
   exact bodyPost_ret (Qi (p:=4) (u:=5) (ty:=233) rfl _ _ w§ 233 (tkA tk0) (0,0) _ rfl ((H0.out.drewN _).put tk0) underlying233 rfl zK) rfl ⟨by rw [KT.out,KE.out];rfl,Qu (XV hB _) (Nat.le_refl _) _ _ _ _ _⟩
set_option maxHeartbeats 8000000
theorem VB (s:yB) (a:Nat) (hs:s.size≤140737488355328) (ha:a < s.size) (w:yW) :
  Calls zG 201 #[.string s,zI a] w fun e w'=>e=.returned (.tuple #[.agg (tkA (nbT s a)),zI (nbE s a)])∧yD w w':=by
 obtain⟨z,hz⟩:∃ z,s[a]=z:=jV
 have HZ:Hid (rest s a=z :: rest s (a+1)):=by show _=_;rw [QY s a ha,hz]
 have hzl:=K0 z
 have ha':(a:Int) < (s.size:Int):=by omega
 go_enter func201,ntmps201
 go_wp2_with fail
 go_loop [7,8] (fun t u=>∃ i n:Nat,a≤i∧i≤s.size∧t=zI i∧u=.int .u64 n∧n≤9223372036854775809∧Hid (nmS (rest s a) 0 0=nmS (rest s i) n (i - a))) (fun t _=>s.size - (intOf t).toNat)
 case atStart=>exact⟨a,0,Nat.le_refl _,by omega,rfl,rfl,by omega,by show _=_;rw [Nat.sub_self]⟩
 case round =>
  obtain⟨i,n,hi1,hi2,rfl,rfl,hn9,HR⟩:=hrel
  by_cases hlt:i < s.size
  ·have hlt':(i:Int) < (s.size:Int):=by omega
   obtain⟨c,hc⟩:∃ c,s[i]=c:=jV
   have HQ:Hid (rest s i=c :: rest s (i+1)):=by show _=_;rw [QY s i hlt,hc]
   have hcl:=K0 c
   cases hg:digB c
   ·skip
    have HN:Hid (nmS (rest s a) 0 0=some (n,i - a)):=by show _=_;rw [HR.out,HQ.out,nmS,if_neg (by rw [hg];decide)]
    by_cases hbig:n > jX
    ·have hbig':(jX:Int) < (n:Int):=by omega
     have HA:Hid True:=trivial
     have KK:=Kq (s:=s) (a:=a) (by rw [QZ HN.out hi1];rw [if_pos (Or.inl hbig)])
     clear HR HN HA
     go_wp2_with (go_at_call 169;refine (Qv hg _).mono ?_;rintro _ v ⟨rfl,e⟩;obtain rfl:=e.symm)
     exact bodyPost_ret (Qi (p:=4) (u:=5) (ty:=233) rfl _ _ w§ 233 (tkA tk0) (0,0) _ rfl (QC _ _ _) underlying233 rfl zK) rfl ⟨by rw [KK.out.1,KK.out.2];rfl,Qk _ _ _⟩
    ·have hbig':¬ (jX:Int) < (n:Int):=by omega
     have hwr:IntKind.i64.wrap (n:Int)=(n:Int):=by simp only [IntKind.wrap_i64];omega
     by_cases hz0:i - a > 1∧z.toNat=48
     ·have hz1:(1:Int) < (i:Int) - (a:Int):=by omega
      have hz2:((z.toNat:Int) == 48)=true:=by rw [hz0.2];rfl
      have HA:Hid True:=trivial
      have KK:=Kq (s:=s) (a:=a) (by rw [QZ HN.out hi1];rw [if_pos (Or.inr ⟨hz0.1,by rw [HZ.out];exact decide_eq_true hz0.2⟩)])
      clear HR HN HA
      go_wp2_with (go_at_call 169;refine (Qv hg _).mono ?_;rintro _ v ⟨rfl,e⟩;obtain rfl:=e.symm)
      exact bodyPost_ret (Qi (p:=4) (u:=5) (ty:=233) rfl _ _ w§ 233 (tkA tk0) (0,0) _ rfl (QC _ _ _) underlying233 rfl zK) rfl ⟨by rw [KK.out.1,KK.out.2];rfl,Qk _ _ _⟩
     ·have HA:Hid (¬ (n > jX∨(i - a > 1∧hd0 (rest s a)=true))):=by
       rintro (h | ⟨h1,h2⟩)
       ·exact hbig h
       ·rw [HZ.out] at h2;exact hz0 ⟨h1,of_decide_eq_true h2⟩
      have hzz:((i:Int) - (a:Int)≤1)∨(((z.toNat:Int) == 48)=false):=by
       by_cases h:i - a > 1
       ·exact .inr (beq_false_of_ne (fun e=>hz0 ⟨h,by omega⟩))
       ·exact .inl zY
      clear hz0
      go_upto_region 9 with (go_at_call 169;refine (Qv hg _).mono ?_;rintro _ v ⟨rfl,e⟩;obtain rfl:=e.symm)
      go_cut [48] from 35 to 48 (fun s48 wx=>s48=.bool false∧wx=(zA w zv 233).alloc (.cells #[zU 3,yQ,zU 1,zI 0,zI (a:Int)] 233))
      case first =>
       rcases hzz with h | h
       ·have hz1:¬ (1:Int) < (i:Int) - (a:Int):=by omega
        go_wp2
        go_meet
        case rel=>exact⟨by first | rfl | (rw [decide_eq_false zY]),rfl⟩
       ·by_cases hz1:(1:Int) < (i:Int) - (a:Int)
        ·go_wp2
         go_meet
         case rel=>exact⟨by first | rfl | (rw [decide_eq_false zY]),rfl⟩
        ·go_wp2
         go_meet
         case rel=>exact⟨by first | rfl | (rw [decide_eq_false zY]),rfl⟩
      case rest =>
       obtain⟨rfl,rfl⟩:=hcut
       by_cases k113:c.toNat=113
       ·have hty:nbTy (rest s i)=2:=by rw [HQ.out];simp [nbTy,k113]
        have x1:((c.toNat:Int) == 113)=true:=by rw [k113];rfl
        have x2:((c.toNat:Int) == 112)=false:=beq_false_of_ne zY
        have x3:((c.toNat:Int) == 116)=false:=beq_false_of_ne zY
        obtain⟨q,hq⟩:∃ q:Nat,i+1=q:=jV
        have hq':(i:Int)+1=(q:Int):=by omega
        have hqa:a≤q:=by omega
        have hqs:q≤s.size:=by omega
        by_cases hl2:q < s.size
        ·have hl2':(q:Int) < (s.size:Int):=by omega
         obtain⟨c2,hc2⟩:∃ c2,s[q]=c2:=jV
         have HQ2:Hid (rest s (i+1)=c2 :: rest s (q+1)):=by show _=_;rw [hq,QY s q hl2,hc2]
         have hcl2:=K0 c2
         cases hgo:goB c2
         ·by_cases hup:65≤c2.toNat∧c2.toNat≤90
          ·have hu1:(65:Int)≤(c2.toNat:Int):=by omega
           have hu2:(c2.toNat:Int)≤90:=by omega
           have KK:=Kq (s:=s) (a:=a) (by rw [QZ HN.out hi1,if_neg HA.out,hty];simp [HQ2.out,badH,upB,hup])
           clear HR HN HA hq hty
           go_wp2_with (first | (go_at_call 169;refine (Qv hg _).mono ?_;rintro _ v ⟨rfl,e⟩;obtain rfl:=e.symm) | (go_at_call 124;refine (QF hgo _).mono ?_;rintro _ v ⟨rfl,e⟩;obtain rfl:=e.symm))
           exact bodyPost_ret (Qi (p:=4) (u:=5) (ty:=233) rfl _ _ w§ 233 (tkA tk0) (0,0) _ rfl (QC _ _ _) underlying233 rfl zK) rfl ⟨by rw [KK.out.1,KK.out.2];rfl,Qk _ _ _⟩
          ·have hu:¬ ((65:Int)≤(c2.toNat:Int))∨¬ ((c2.toNat:Int)≤90):=by omega
           rcases hu with hu | hu
           ·have KK:=JT (s:=s) (a:=a) (n:=n) (e:=i+1) (ty:=2) (by rw [QZ HN.out hi1,if_neg HA.out,hty];simp [HQ2.out,badH,upB,hup,hgo])
            rw [hq] at KK
            obtain⟨x,ex⟩:∃ x,s.extract a q=x:=jV
            rw [ex] at KK
            clear HR HN HA hq hty
            go_wp2_with (first | (go_at_call 169;refine (Qv hg _).mono ?_;rintro _ v ⟨rfl,e⟩;obtain rfl:=e.symm) | (go_at_call 124;refine (QF hgo _).mono ?_;rintro _ v ⟨rfl,e⟩;obtain rfl:=e.symm))
            exact bodyPost_ret (Qi (p:=4) (u:=5) (ty:=233) rfl _ _ w§ 233 (tkA ⟨3,x,2,(n:Int),(a:Int)⟩) (0,0) _ rfl (QC _ _ _) underlying233 rfl zK) rfl ⟨by rw [KK.out.1,KK.out.2];rfl,Qk _ _ _⟩
           ·have KK:=JT (s:=s) (a:=a) (n:=n) (e:=i+1) (ty:=2) (by rw [QZ HN.out hi1,if_neg HA.out,hty];simp [HQ2.out,badH,upB,hup,hgo])
            rw [hq] at KK
            obtain⟨x,ex⟩:∃ x,s.extract a q=x:=jV
            rw [ex] at KK
            clear HR HN HA hq hty
            go_wp2_with (first | (go_at_call 169;refine (Qv hg _).mono ?_;rintro _ v ⟨rfl,e⟩;obtain rfl:=e.symm) | (go_at_call 124;refine (QF hgo _).mono ?_;rintro _ v ⟨rfl,e⟩;obtain rfl:=e.symm))
            exact bodyPost_ret (Qi (p:=4) (u:=5) (ty:=233) rfl _ _ w§ 233 (tkA ⟨3,x,2,(n:Int),(a:Int)⟩) (0,0) _ rfl (QC _ _ _) underlying233 rfl zK) rfl ⟨by rw [KK.out.1,KK.out.2];rfl,Qk _ _ _⟩
         ·have hgo':=hgo
          have KK:=Kq (s:=s) (a:=a) (by rw [QZ HN.out hi1,if_neg HA.out,hty];simp [HQ2.out,badH,hgo])
          clear HR HN HA hq hty
          go_wp2_with (first | (go_at_call 169;refine (Qv hg _).mono ?_;rintro _ v ⟨rfl,e⟩;obtain rfl:=e.symm) | (go_at_call 124;refine (QF hgo _).mono ?_;rintro _ v ⟨rfl,e⟩;obtain rfl:=e.symm))
          exact bodyPost_ret (Qi (p:=4) (u:=5) (ty:=233) rfl _ _ w§ 233 (tkA tk0) (0,0) _ rfl (QC _ _ _) underlying233 rfl zK) rfl ⟨by rw [KK.out.1,KK.out.2];rfl,Qk _ _ _⟩
        ·have hl2':¬ (q:Int) < (s.size:Int):=by omega
         have HE2:Hid (rest s (i+1) = []):=by show _=_;rw [hq];exact Jt s q zY
         have KK:=JT (s:=s) (a:=a) (n:=n) (e:=i+1) (ty:=2) (by rw [QZ HN.out hi1,if_neg HA.out,hty];simp [HE2.out,badH])
         rw [hq] at KK
         obtain⟨x,ex⟩:∃ x,s.extract a q=x:=jV
         rw [ex] at KK
         clear HR HN HA hq hty
         go_wp2_with (go_at_call 169;refine (Qv hg _).mono ?_;rintro _ v ⟨rfl,e⟩;obtain rfl:=e.symm)
         exact bodyPost_ret (Qi (p:=4) (u:=5) (ty:=233) rfl _ _ w§ 233 (tkA ⟨3,x,2,(n:Int),(a:Int)⟩) (0,0) _ rfl (QC _ _ _) underlying233 rfl zK) rfl ⟨by rw [KK.out.1,KK.out.2];rfl,Qk _ _ _⟩
       by_cases k112:c.toNat=112
       ·have hty:nbTy (rest s i)=3:=by rw [HQ.out];simp [nbTy,k112]
        have x1:((c.toNat:Int) == 113)=false:=beq_false_of_ne zY
        have x2:((c.toNat:Int) == 112)=true:=by rw [k112];rfl
        have x3:((c.toNat:Int) == 116)=false:=beq_false_of_ne zY
        obtain⟨q,hq⟩:∃ q:Nat,i+1=q:=jV
        have hq':(i:Int)+1=(q:Int):=by omega
        have hqa:a≤q:=by omega
        have hqs:q≤s.size:=by omega
        by_cases hl2:q < s.size
        ·have hl2':(q:Int) < (s.size:Int):=by omega
         obtain⟨c2,hc2⟩:∃ c2,s[q]=c2:=jV
         have HQ2:Hid (rest s (i+1)=c2 :: rest s (q+1)):=by show _=_;rw [hq,QY s q hl2,hc2]
         have hcl2:=K0 c2
         cases hgo:goB c2
         ·by_cases hup:65≤c2.toNat∧c2.toNat≤90
          ·have hu1:(65:Int)≤(c2.toNat:Int):=by omega
           have hu2:(c2.toNat:Int)≤90:=by omega
           have KK:=Kq (s:=s) (a:=a) (by rw [QZ HN.out hi1,if_neg HA.out,hty];simp [HQ2.out,badH,upB,hup])
           clear HR HN HA hq hty
           go_wp2_with (first | (go_at_call 169;refine (Qv hg _).mono ?_;rintro _ v ⟨rfl,e⟩;obtain rfl:=e.symm) | (go_at_call 124;refine (QF hgo _).mono ?_;rintro _ v ⟨rfl,e⟩;obtain rfl:=e.symm))
           exact bodyPost_ret (Qi (p:=4) (u:=5) (ty:=233) rfl _ _ w§ 233 (tkA tk0) (0,0) _ rfl (QC _ _ _) underlying233 rfl zK) rfl ⟨by rw [KK.out.1,KK.out.2];rfl,Qk _ _ _⟩
          ·have hu:¬ ((65:Int)≤(c2.toNat:Int))∨¬ ((c2.toNat:Int)≤90):=by omega
           rcases hu with hu | hu
           ·have KK:=JT (s:=s) (a:=a) (n:=n) (e:=i+1) (ty:=3) (by rw [QZ HN.out hi1,if_neg HA.out,hty];simp [HQ2.out,badH,upB,hup,hgo])
            rw [hq] at KK
            obtain⟨x,ex⟩:∃ x,s.extract a q=x:=jV
            rw [ex] at KK
            clear HR HN HA hq hty
            go_wp2_with (first | (go_at_call 169;refine (Qv hg _).mono ?_;rintro _ v ⟨rfl,e⟩;obtain rfl:=e.symm) | (go_at_call 124;refine (QF hgo _).mono ?_;rintro _ v ⟨rfl,e⟩;obtain rfl:=e.symm))
            exact bodyPost_ret (Qi (p:=4) (u:=5) (ty:=233) rfl _ _ w§ 233 (tkA ⟨3,x,3,(n:Int),(a:Int)⟩) (0,0) _ rfl (QC _ _ _) underlying233 rfl zK) rfl ⟨by rw [KK.out.1,KK.out.2];rfl,Qk _ _ _⟩
           ·have KK:=JT (s:=s) (a:=a) (n:=n) (e:=i+1) (ty:=3) (by rw [QZ HN.out hi1,if_neg HA.out,hty];simp [HQ2.out,badH,upB,hup,hgo])
            rw [hq] at KK
            obtain⟨x,ex⟩:∃ x,s.extract a q=x:=jV
            rw [ex] at KK
            clear HR HN HA hq hty
            go_wp2_with (first | (go_at_call 169;refine (Qv hg _).mono ?_;rintro _ v ⟨rfl,e⟩;obtain rfl:=e.symm) | (go_at_call 124;refine (QF hgo _).mono ?_;rintro _ v ⟨rfl,e⟩;obtain rfl:=e.symm))
            exact bodyPost_ret (Qi (p:=4) (u:=5) (ty:=233) rfl _ _ w§ 233 (tkA ⟨3,x,3,(n:Int),(a:Int)⟩) (0,0) _ rfl (QC _ _ _) underlying233 rfl zK) rfl ⟨by rw [KK.out.1,KK.out.2];rfl,Qk _ _ _⟩
         ·have hgo':=hgo
          have KK:=Kq (s:=s) (a:=a) (by rw [QZ HN.out hi1,if_neg HA.out,hty];simp [HQ2.out,badH,hgo])
          clear HR HN HA hq hty
          go_wp2_with (first | (go_at_call 169;refine (Qv hg _).mono ?_;rintro _ v ⟨rfl,e⟩;obtain rfl:=e.symm) | (go_at_call 124;refine (QF hgo _).mono ?_;rintro _ v ⟨rfl,e⟩;obtain rfl:=e.symm))
          exact bodyPost_ret (Qi (p:=4) (u:=5) (ty:=233) rfl _ _ w§ 233 (tkA tk0) (0,0) _ rfl (QC _ _ _) underlying233 rfl zK) rfl ⟨by rw [KK.out.1,KK.out.2];rfl,Qk _ _ _⟩
        ·have hl2':¬ (q:Int) < (s.size:Int):=by omega
         have HE2:Hid (rest s (i+1) = []):=by show _=_;rw [hq];exact Jt s q zY
         have KK:=JT (s:=s) (a:=a) (n:=n) (e:=i+1) (ty:=3) (by rw [QZ HN.out hi1,if_neg HA.out,hty];simp [HE2.out,badH])
         rw [hq] at KK
         obtain⟨x,ex⟩:∃ x,s.extract a q=x:=jV
         rw [ex] at KK
         clear HR HN HA hq hty
         go_wp2_with (go_at_call 169;refine (Qv hg _).mono ?_;rintro _ v ⟨rfl,e⟩;obtain rfl:=e.symm)
         exact bodyPost_ret (Qi (p:=4) (u:=5) (ty:=233) rfl _ _ w§ 233 (tkA ⟨3,x,3,(n:Int),(a:Int)⟩) (0,0) _ rfl (QC _ _ _) underlying233 rfl zK) rfl ⟨by rw [KK.out.1,KK.out.2];rfl,Qk _ _ _⟩
       by_cases k116:c.toNat=116
       ·have hty:nbTy (rest s i)=4:=by rw [HQ.out];simp [nbTy,k116]
        have x1:((c.toNat:Int) == 113)=false:=beq_false_of_ne zY
        have x2:((c.toNat:Int) == 112)=false:=beq_false_of_ne zY
        have x3:((c.toNat:Int) == 116)=true:=by rw [k116];rfl
        obtain⟨q,hq⟩:∃ q:Nat,i+1=q:=jV
        have hq':(i:Int)+1=(q:Int):=by omega
        have hqa:a≤q:=by omega
        have hqs:q≤s.size:=by omega
        by_cases hl2:q < s.size
        ·have hl2':(q:Int) < (s.size:Int):=by omega
         obtain⟨c2,hc2⟩:∃ c2,s[q]=c2:=jV
         have HQ2:Hid (rest s (i+1)=c2 :: rest s (q+1)):=by show _=_;rw [hq,QY s q hl2,hc2]
         have hcl2:=K0 c2
         cases hgo:goB c2
         ·by_cases hup:65≤c2.toNat∧c2.toNat≤90
          ·have hu1:(65:Int)≤(c2.toNat:Int):=by omega
           have hu2:(c2.toNat:Int)≤90:=by omega
           have KK:=Kq (s:=s) (a:=a) (by rw [QZ HN.out hi1,if_neg HA.out,hty];simp [HQ2.out,badH,upB,hup])
           clear HR HN HA hq hty
           go_wp2_with (first | (go_at_call 169;refine (Qv hg _).mono ?_;rintro _ v ⟨rfl,e⟩;obtain rfl:=e.symm) | (go_at_call 124;refine (QF hgo _).mono ?_;rintro _ v ⟨rfl,e⟩;obtain rfl:=e.symm))
           exact bodyPost_ret (Qi (p:=4) (u:=5) (ty:=233) rfl _ _ w§ 233 (tkA tk0) (0,0) _ rfl (QC _ _ _) underlying233 rfl zK) rfl ⟨by rw [KK.out.1,KK.out.2];rfl,Qk _ _ _⟩
          ·have hu:¬ ((65:Int)≤(c2.toNat:Int))∨¬ ((c2.toNat:Int)≤90):=by omega
           rcases hu with hu | hu
           ·have KK:=JT (s:=s) (a:=a) (n:=n) (e:=i+1) (ty:=4) (by rw [QZ HN.out hi1,if_neg HA.out,hty];simp [HQ2.out,badH,upB,hup,hgo])
            rw [hq] at KK
            obtain⟨x,ex⟩:∃ x,s.extract a q=x:=jV
            rw [ex] at KK
            clear HR HN HA hq hty
            go_wp2_with (first | (go_at_call 169;refine (Qv hg _).mono ?_;rintro _ v ⟨rfl,e⟩;obtain rfl:=e.symm) | (go_at_call 124;refine (QF hgo _).mono ?_;rintro _ v ⟨rfl,e⟩;obtain rfl:=e.symm))
            exact bodyPost_ret (Qi (p:=4) (u:=5) (ty:=233) rfl _ _ w§ 233 (tkA ⟨3,x,4,(n:Int),(a:Int)⟩) (0,0) _ rfl (QC _ _ _) underlying233 rfl zK) rfl ⟨by rw [KK.out.1,KK.out.2];rfl,Qk _ _ _⟩
           ·have KK:=JT (s:=s) (a:=a) (n:=n) (e:=i+1) (ty:=4) (by rw [QZ HN.out hi1,if_neg HA.out,hty];simp [HQ2.out,badH,upB,hup,hgo])
            rw [hq] at KK
            obtain⟨x,ex⟩:∃ x,s.extract a q=x:=jV
            rw [ex] at KK
            clear HR HN HA hq hty
            go_wp2_with (first | (go_at_call 169;refine (Qv hg _).mono ?_;rintro _ v ⟨rfl,e⟩;obtain rfl:=e.symm) | (go_at_call 124;refine (QF hgo _).mono ?_;rintro _ v ⟨rfl,e⟩;obtain rfl:=e.symm))
            exact bodyPost_ret (Qi (p:=4) (u:=5) (ty:=233) rfl _ _ w§ 233 (tkA ⟨3,x,4,(n:Int),(a:Int)⟩) (0,0) _ rfl (QC _ _ _) underlying233 rfl zK) rfl ⟨by rw [KK.out.1,KK.out.2];rfl,Qk _ _ _⟩
         ·have hgo':=hgo
          have KK:=Kq (s:=s) (a:=a) (by rw [QZ HN.out hi1,if_neg HA.out,hty];simp [HQ2.out,badH,hgo])
          clear HR HN HA hq hty
          go_wp2_with (first | (go_at_call 169;refine (Qv hg _).mono ?_;rintro _ v ⟨rfl,e⟩;obtain rfl:=e.symm) | (go_at_call 124;refine (QF hgo _).mono ?_;rintro _ v ⟨rfl,e⟩;obtain rfl:=e.symm))
          exact bodyPost_ret (Qi (p:=4) (u:=5) (ty:=233) rfl _ _ w§ 233 (tkA tk0) (0,0) _ rfl (QC _ _ _) underlying233 rfl zK) rfl ⟨by rw [KK.out.1,KK.out.2];rfl,Qk _ _ _⟩
        ·have hl2':¬ (q:Int) < (s.size:Int):=by omega
         have HE2:Hid (rest s (i+1) = []):=by show _=_;rw [hq];exact Jt s q zY
         have KK:=JT (s:=s) (a:=a) (n:=n) (e:=i+1) (ty:=4) (by rw [QZ HN.out hi1,if_neg HA.out,hty];simp [HE2.out,badH])
         rw [hq] at KK
         obtain⟨x,ex⟩:∃ x,s.extract a q=x:=jV
         rw [ex] at KK
         clear HR HN HA hq hty
         go_wp2_with (go_at_call 169;refine (Qv hg _).mono ?_;rintro _ v ⟨rfl,e⟩;obtain rfl:=e.symm)
         exact bodyPost_ret (Qi (p:=4) (u:=5) (ty:=233) rfl _ _ w§ 233 (tkA ⟨3,x,4,(n:Int),(a:Int)⟩) (0,0) _ rfl (QC _ _ _) underlying233 rfl zK) rfl ⟨by rw [KK.out.1,KK.out.2];rfl,Qk _ _ _⟩
       have hty:nbTy (rest s i)=1:=by rw [HQ.out];simp [nbTy,k113,k112,k116]
       have x1:((c.toNat:Int) == 113)=false:=beq_false_of_ne zY
       have x2:((c.toNat:Int) == 112)=false:=beq_false_of_ne zY
       have x3:((c.toNat:Int) == 116)=false:=beq_false_of_ne zY
       cases hgo:goB c
       ·by_cases hup:65≤c.toNat∧c.toNat≤90
        ·have hu1:(65:Int)≤(c.toNat:Int):=by omega
         have hu2:(c.toNat:Int)≤90:=by omega
         have KK:=Kq (s:=s) (a:=a) (by rw [QZ HN.out hi1,if_neg HA.out,hty];simp [HQ.out,badH,upB,hup])
         clear HR HN HA
         go_wp2_with (first | (go_at_call 169;refine (Qv hg _).mono ?_;rintro _ v ⟨rfl,e⟩;obtain rfl:=e.symm) | (go_at_call 124;refine (QF hgo _).mono ?_;rintro _ v ⟨rfl,e⟩;obtain rfl:=e.symm))
         exact bodyPost_ret (Qi (p:=4) (u:=5) (ty:=233) rfl _ _ w§ 233 (tkA tk0) (0,0) _ rfl (QC _ _ _) underlying233 rfl zK) rfl ⟨by rw [KK.out.1,KK.out.2];rfl,Qk _ _ _⟩
        ·have hu:¬ ((65:Int)≤(c.toNat:Int))∨¬ ((c.toNat:Int)≤90):=by omega
         rcases hu with hu | hu
         ·have KK:=JT (s:=s) (a:=a) (n:=n) (e:=i) (ty:=1) (by rw [QZ HN.out hi1,if_neg HA.out,hty];simp [HQ.out,badH,upB,hup,hgo])
          obtain⟨x,ex⟩:∃ x,s.extract a (i)=x:=jV
          rw [ex] at KK
          clear HR HN HA
          go_wp2_with (first | (go_at_call 169;refine (Qv hg _).mono ?_;rintro _ v ⟨rfl,e⟩;obtain rfl:=e.symm) | (go_at_call 124;refine (QF hgo _).mono ?_;rintro _ v ⟨rfl,e⟩;obtain rfl:=e.symm))
          exact bodyPost_ret (Qi (p:=4) (u:=5) (ty:=233) rfl _ _ w§ 233 (tkA ⟨3,x,1,(n:Int),(a:Int)⟩) (0,0) _ rfl (QC _ _ _) underlying233 rfl zK) rfl ⟨by rw [KK.out.1,KK.out.2];rfl,Qk _ _ _⟩
         ·have KK:=JT (s:=s) (a:=a) (n:=n) (e:=i) (ty:=1) (by rw [QZ HN.out hi1,if_neg HA.out,hty];simp [HQ.out,badH,upB,hup,hgo])
          obtain⟨x,ex⟩:∃ x,s.extract a (i)=x:=jV
          rw [ex] at KK
          clear HR HN HA
          go_wp2_with (first | (go_at_call 169;refine (Qv hg _).mono ?_;rintro _ v ⟨rfl,e⟩;obtain rfl:=e.symm) | (go_at_call 124;refine (QF hgo _).mono ?_;rintro _ v ⟨rfl,e⟩;obtain rfl:=e.symm))
          exact bodyPost_ret (Qi (p:=4) (u:=5) (ty:=233) rfl _ _ w§ 233 (tkA ⟨3,x,1,(n:Int),(a:Int)⟩) (0,0) _ rfl (QC _ _ _) underlying233 rfl zK) rfl ⟨by rw [KK.out.1,KK.out.2];rfl,Qk _ _ _⟩
       ·have hgo':=hgo
        have KK:=Kq (s:=s) (a:=a) (by rw [QZ HN.out hi1,if_neg HA.out,hty];simp [HQ.out,badH,hgo])
        clear HR HN HA
        go_wp2_with (first | (go_at_call 169;refine (Qv hg _).mono ?_;rintro _ v ⟨rfl,e⟩;obtain rfl:=e.symm) | (go_at_call 124;refine (QF hgo _).mono ?_;rintro _ v ⟨rfl,e⟩;obtain rfl:=e.symm))
        exact bodyPost_ret (Qi (p:=4) (u:=5) (ty:=233) rfl _ _ w§ 233 (tkA tk0) (0,0) _ rfl (QC _ _ _) underlying233 rfl zK) rfl ⟨by rw [KK.out.1,KK.out.2];rfl,Qk _ _ _⟩
   ·have hd:48≤c.toNat∧c.toNat≤57:=by unfold digB at hg;exact of_decide_eq_true hg
    by_cases hov:n > 922337203685477580
    ·have hov':(922337203685477580:Int) < (n:Int):=by omega
     have hO:nbO s a=none:=by
      unfold nbO
      rw [HR.out,HQ.out,nmS,if_pos hg,if_pos hov]
     have KK:=Kq hO
     clear hO
     go_wp2_with (go_at_call 169;refine (Qv hg _).mono ?_;rintro _ v ⟨rfl,e⟩;obtain rfl:=e.symm)
     exact bodyPost_ret (Qi (p:=4) (u:=5) (ty:=233) rfl _ _ w§ 233 (tkA tk0) (0,0) _ rfl (QC _ _ _) underlying233 rfl zK) rfl ⟨by rw [KK.out.1,KK.out.2];rfl,Qk _ _ _⟩
    ·have hov':¬ (922337203685477580:Int) < (n:Int):=by omega
     obtain⟨m,hm⟩:∃ m,10 * n+(c.toNat - 48)=m:=jV
     have hm9:m≤9223372036854775809:=by omega
     have hm':10 * (n:Int)+((c.toNat:Int) - 48)=(m:Int):=by omega
     have hs2:Hid (nmS (rest s a) 0 0=nmS (rest s (i+1)) m (i+1 - a)):=by
      show _=_
      rw [HR.out,HQ.out,nmS,if_pos hg,if_neg hov,hm,show i+1 - a=i - a+1 by omega]
     have hd1:(48:Int)≤(c.toNat:Int):=by omega
     have hd2:(c.toNat:Int)≤57:=by omega
     clear hd hm
     go_wp2_with (go_at_call 169;refine (Qv hg _).mono ?_;rintro _ v ⟨rfl,e⟩;obtain rfl:=e.symm)
     exact⟨⟨i+1,m,by omega,by omega,by go_num,by first | rfl | (simp;omega),hm9,hs2⟩,by simp only [intOf];omega⟩
  ·skip
   have hn1:¬ (i:Int) < (s.size:Int):=by omega
   have HE:Hid (rest s i = []):=Jt s i zY
   have HN:Hid (nmS (rest s a) 0 0=some (n,i - a)):=by show _=_;rw [HR.out,HE.out];rfl
   by_cases hbig:n > jX
   ·have hbig':(jX:Int) < (n:Int):=by omega
    have HA:Hid True:=trivial
    have KK:=Kq (s:=s) (a:=a) (by rw [QZ HN.out hi1];rw [if_pos (Or.inl hbig)])
    clear HR HN HA
    go_wp2
    exact bodyPost_ret (Qi (p:=4) (u:=5) (ty:=233) rfl _ _ w§ 233 (tkA tk0) (0,0) _ rfl (QC _ _ _) underlying233 rfl zK) rfl ⟨by rw [KK.out.1,KK.out.2];rfl,Qk _ _ _⟩
   ·have hbig':¬ (jX:Int) < (n:Int):=by omega
    have hwr:IntKind.i64.wrap (n:Int)=(n:Int):=by simp only [IntKind.wrap_i64];omega
    by_cases hz0:i - a > 1∧z.toNat=48
    ·have hz1:(1:Int) < (i:Int) - (a:Int):=by omega
     have hz2:((z.toNat:Int) == 48)=true:=by rw [hz0.2];rfl
     have HA:Hid True:=trivial
     have KK:=Kq (s:=s) (a:=a) (by rw [QZ HN.out hi1];rw [if_pos (Or.inr ⟨hz0.1,by rw [HZ.out];exact decide_eq_true hz0.2⟩)])
     clear HR HN HA
     go_wp2
     exact bodyPost_ret (Qi (p:=4) (u:=5) (ty:=233) rfl _ _ w§ 233 (tkA tk0) (0,0) _ rfl (QC _ _ _) underlying233 rfl zK) rfl ⟨by rw [KK.out.1,KK.out.2];rfl,Qk _ _ _⟩
    ·have HA:Hid (¬ (n > jX∨(i - a > 1∧hd0 (rest s a)=true))):=by
      rintro (h | ⟨h1,h2⟩)
      ·exact hbig h
      ·rw [HZ.out] at h2;exact hz0 ⟨h1,of_decide_eq_true h2⟩
     have hzz:((i:Int) - (a:Int)≤1)∨(((z.toNat:Int) == 48)=false):=by
      by_cases h:i - a > 1
      ·exact .inr (beq_false_of_ne (fun e=>hz0 ⟨h,by omega⟩))
      ·exact .inl zY
     clear hz0
     go_upto_region 9 with fail
     go_cut [48] from 35 to 48 (fun s48 wx=>s48=.bool false∧wx=(zA w zv 233).alloc (.cells #[zU 3,yQ,zU 1,zI 0,zI (a:Int)] 233))
     case first =>
      rcases hzz with h | h
      ·have hz1:¬ (1:Int) < (i:Int) - (a:Int):=by omega
       go_wp2
       go_meet
       case rel=>exact⟨by first | rfl | (rw [decide_eq_false zY]),rfl⟩
      ·by_cases hz1:(1:Int) < (i:Int) - (a:Int)
       ·go_wp2
        go_meet
        case rel=>exact⟨by first | rfl | (rw [decide_eq_false zY]),rfl⟩
       ·go_wp2
        go_meet
        case rel=>exact⟨by first | rfl | (rw [decide_eq_false zY]),rfl⟩
     case rest =>
      obtain⟨rfl,rfl⟩:=hcut
      have KK:=JT (s:=s) (a:=a) (n:=n) (e:=i) (ty:=1) (by rw [QZ HN.out hi1,if_neg HA.out,HE.out];simp [nbTy,badH,HE.out])
      obtain⟨x,ex⟩:∃ x,s.extract a (i)=x:=jV
      rw [ex] at KK
      clear HR HN HA
      go_wp2
      all_goals exact bodyPost_ret (Qi (p:=4) (u:=5) (ty:=233) rfl _ _ w§ 233 (tkA ⟨3,x,1,(n:Int),(a:Int)⟩) (0,0) _ rfl (QC _ _ _) underlying233 rfl zK) rfl ⟨by rw [KK.out.1,KK.out.2];rfl,Qk _ _ _⟩
end Go.Proofs.YtfbjofnaghjmeaaGreatDoor
