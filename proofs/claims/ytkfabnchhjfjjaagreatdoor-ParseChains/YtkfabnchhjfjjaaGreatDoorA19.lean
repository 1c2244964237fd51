import Derived.Test.YtkfabnchhjfjjaaGreatDoorA0
import Derived.Test.YtkfabnchhjfjjaaGreatDoorA18
import Derived.Test.YtkfabnchhjfjjaaGreatDoorA1
import Derived.Test.YtkfabnchhjfjjaaGreatDoorA2
import Derived.Test.YtkfabnchhjfjjaaGreatDoorA17
import Derived.Laws.Tables
namespace Go.Proofs.YtkfabnchhjfjjaaGreatDoor
set_option maxRecDepth 100000
set_option maxHeartbeats 2000000
open Go.RowKit
set_option linter.unusedVariables false
theorem rf_one_name (s:ByteArray) (f d:Nat) (hs:s.size≤140737488355328) (hf:f≤s.size) (hp:oneP s f=d) (hd:d < s.size) (c:UInt8) (hc:s[d]=c) (hl:letB c=true) (w:World) :
  Calls zG 24 #[.string s,zI f] w fun e w'=>e=.returned (oneV s f)∧Below w§ w w':=by
 have hr:rest s d=c :: rest s (d+1):=by rw [rest_at s d hd,hc]
 have hne:¬ d=s.size:=by omega
 have KT:Hid (oneT s f=nmT s d):=by show _=_; unfold oneT; rw [hp,if_neg hne,hr]; simp [hdB,hl]
 have KE:Hid (oneE s f=nmE s d):=by show _=_; unfold oneE; rw [hp,if_neg hne,hr]; simp [hdB,hl]
 have cO:=rf_over_any s f hs hf d hp.symm
 have cN:=rf_named_any s d hs (Nat.le_of_lt hd)
 obtain⟨T,eT⟩:∃ T,nmT s d=T:=⟨_,rfl⟩
 obtain⟨E,eE⟩:∃ E,nmE s d=E:=⟨_,rfl⟩
 rw [eT,eE] at cN
 rw [eT] at KT
 rw [eE] at KE
 have KB:Hid (oneB s f=if E=0 then 0 else (d:Int)):=by show _=_; unfold oneB; rw [KE.out,hp]
 have hR:TkH ((w.alloc (.cells (tkA tk0) 82)).alloc (.cells (tkA tk0) 82)) w§ tk0:=heap_fst _ _ _
 have hT:TkH ((w.alloc (.cells (tkA tk0) 82)).alloc (.cells (tkA tk0) 82)) (w§+1) tk0:=by
  have:=Hn (w.alloc (.cells (tkA tk0) 82)) (.cells (tkA tk0) 82)
  rwa [Sa] at this
 have hB:=below_two w (.cells (tkA tk0) 82) (.cells (tkA tk0) 82)
 have HR:=hR.hid
 have HT:=hT.hid
 have HB:=zH hB
 have hd':(d:Int) < (s.size:Int):=by omega
 have hne':((d:Int) == (s.size:Int))=false:=beq_false_of_ne (by omega)
 unfold tkA at cN
 clear hR hT hB hr hp eT eE
 go_enter Tryz.func24,Tryz.ntmps24
 go_wp2_with (first | (go_at_call 55; refine (cO _).mono ?_; rintro _ v ⟨rfl,e⟩; obtain rfl:=e.symm) | (go_at_call 56; refine (rf_letter_b hl _).mono ?_; rintro _ v ⟨rfl,e⟩; obtain rfl:=e.symm))
 refine (cN _).mono ?_
 rintro _ v ⟨rfl,bb⟩
 have HR2:=(HR.out.onto bb).hid
 have HT2:=(HT.out.onto bb).hid
 have hB2:=HB.out.trans (bb.mono HB.out.size)
 obtain⟨V,eV⟩:∃ V,((((v.setCell ⟨w§+1,0,none⟩ (zU T.k)).setCell ⟨w§+1,1,none⟩ (.string T.x)).setCell ⟨w§+1,2,none⟩ (zU T.ty)).setCell ⟨w§+1,3,none⟩ (zI T.n)).setCell ⟨w§+1,4,none⟩ (zI T.p)=V:=⟨_,rfl⟩
 have HT3:Hid (TkH V (w§+1) T):=by show TkH V _ _; rw [← eV]; exact HT2.out.put T
 have HR3:Hid (TkH V w§ tk0):=by
  show TkH V _ _
  rw [← eV]
  refine Eq.trans ?_ HR2.out
  rw [Below.heap_setCell _ _ _ _ (by simp),Below.heap_setCell _ _ _ _ (by simp),Below.heap_setCell _ _ _ _ (by simp),Below.heap_setCell _ _ _ _ (by simp),Below.heap_setCell _ _ _ _ (by simp)]
 have hB4:Below w§ w V:=by rw [← eV]; exact below_put hB2 (by omega) _ _ _ _ _
 obtain⟨t0,t1,t2,t3,t4⟩:=HT2.out.cells
 obtain⟨g0,g1,g2,g3,g4⟩:=HT2.out.froz
 clear bb hB2 HR HT HB
 by_cases hE:E=0
 ·have kB:=KB.out
  rw [if_pos hE] at kB
  have hE':(E != 0)=false:=by simp [hE]
  have KE0:Hid (oneE s f=0):=by show _=_; rw [KE.out,hE]
  have KB0:Hid (oneB s f=0):=kB
  subst hE
  clear kB KB KE
  obtain⟨y0,y1,y2,y3,y4⟩:=HT3.out.cells
  obtain⟨r0,r1,r2,r3,r4⟩:=HR3.out.cells
  obtain⟨f0,f1,f2,f3,f4⟩:=HR3.out.froz
  go_wp2
  exact bodyPost_ret (results_three (p:=4) (u:=5) (v:=6) (ty:=82) rfl _ _ w§ 82 (tkA T) (0,0) _ rfl (HR3.out.put T) Tryz.underlying82 rfl zK) rfl ⟨by unfold oneV; rw [KT.out,KE0.out,KB0.out]; rfl,below_put hB4 (Nat.le_refl _) _ _ _ _ _⟩
 ·have kB:=KB.out
  rw [if_neg hE] at kB
  have hE':(E != 0)=true:=by simp [hE]
  have KB0:Hid (oneB s f=(d:Int)):=kB
  clear kB KB hE
  obtain⟨y0,y1,y2,y3,y4⟩:=HT3.out.cells
  obtain⟨r0,r1,r2,r3,r4⟩:=HR3.out.cells
  obtain⟨f0,f1,f2,f3,f4⟩:=HR3.out.froz
  go_wp2
  exact bodyPost_ret (results_three (p:=4) (u:=5) (v:=6) (ty:=82) rfl _ _ w§ 82 (tkA T) (0,0) _ rfl (HR3.out.put T) Tryz.underlying82 rfl zK) rfl ⟨by unfold oneV; rw [KT.out,KE.out,KB0.out]; rfl,below_put hB4 (Nat.le_refl _) _ _ _ _ _⟩
theorem rf_one_num (s:ByteArray) (f d:Nat) (hs:s.size≤140737488355328) (hf:f≤s.size) (hp:oneP s f=d) (hd:d < s.size) (c:UInt8) (hc:s[d]=c) (hl:letB c=false) (hg:digB c=true) (w:World) :
  Calls zG 24 #[.string s,zI f] w fun e w'=>e=.returned (oneV s f)∧Below w§ w w':=by
 have hr:rest s d=c :: rest s (d+1):=by rw [rest_at s d hd,hc]
 have hne:¬ d=s.size:=by omega
 have KT:Hid (oneT s f=nbT s d):=by show _=_; unfold oneT; rw [hp,if_neg hne,hr]; simp [hdB,hl,hg]
 have KE:Hid (oneE s f=nbE s d):=by show _=_; unfold oneE; rw [hp,if_neg hne,hr]; simp [hdB,hl,hg]
 have cO:=rf_over_any s f hs hf d hp.symm
 have cN:=rf_number_any s d hs hd
 obtain⟨T,eT⟩:∃ T,nbT s d=T:=⟨_,rfl⟩
 obtain⟨E,eE⟩:∃ E,nbE s d=E:=⟨_,rfl⟩
 rw [eT,eE] at cN
 rw [eT] at KT
 rw [eE] at KE
 have KB:Hid (oneB s f=if E=0 then 0 else (d:Int)):=by show _=_; unfold oneB; rw [KE.out,hp]
 have hR:TkH ((w.alloc (.cells (tkA tk0) 82)).alloc (.cells (tkA tk0) 82)) w§ tk0:=heap_fst _ _ _
 have hT:TkH ((w.alloc (.cells (tkA tk0) 82)).alloc (.cells (tkA tk0) 82)) (w§+1) tk0:=by
  have:=Hn (w.alloc (.cells (tkA tk0) 82)) (.cells (tkA tk0) 82)
  rwa [Sa] at this
 have hB:=below_two w (.cells (tkA tk0) 82) (.cells (tkA tk0) 82)
 have HR:=hR.hid
 have HT:=hT.hid
 have HB:=zH hB
 have hd':(d:Int) < (s.size:Int):=by omega
 have hne':((d:Int) == (s.size:Int))=false:=beq_false_of_ne (by omega)
 unfold tkA at cN
 clear hR hT hB hr hp eT eE
 go_enter Tryz.func24,Tryz.ntmps24
 go_wp2_with (first | (go_at_call 55; refine (cO _).mono ?_; rintro _ v ⟨rfl,e⟩; obtain rfl:=e.symm) | (go_at_call 56; refine (rf_letter_b hl _).mono ?_; rintro _ v ⟨rfl,e⟩; obtain rfl:=e.symm) | (go_at_call 58; refine (rf_digit_b hg _).mono ?_; rintro _ v ⟨rfl,e⟩; obtain rfl:=e.symm))
 refine (cN _).mono ?_
 rintro _ v ⟨rfl,bb⟩
 have HR2:=(HR.out.onto bb).hid
 have HT2:=(HT.out.onto bb).hid
 have hB2:=HB.out.trans (bb.mono HB.out.size)
 obtain⟨V,eV⟩:∃ V,((((v.setCell ⟨w§+1,0,none⟩ (zU T.k)).setCell ⟨w§+1,1,none⟩ (.string T.x)).setCell ⟨w§+1,2,none⟩ (zU T.ty)).setCell ⟨w§+1,3,none⟩ (zI T.n)).setCell ⟨w§+1,4,none⟩ (zI T.p)=V:=⟨_,rfl⟩
 have HT3:Hid (TkH V (w§+1) T):=by show TkH V _ _; rw [← eV]; exact HT2.out.put T
 have HR3:Hid (TkH V w§ tk0):=by
  show TkH V _ _
  rw [← eV]
  refine Eq.trans ?_ HR2.out
  rw [Below.heap_setCell _ _ _ _ (by simp),Below.heap_setCell _ _ _ _ (by simp),Below.heap_setCell _ _ _ _ (by simp),Below.heap_setCell _ _ _ _ (by simp),Below.heap_setCell _ _ _ _ (by simp)]
 have hB4:Below w§ w V:=by rw [← eV]; exact below_put hB2 (by omega) _ _ _ _ _
 obtain⟨t0,t1,t2,t3,t4⟩:=HT2.out.cells
 obtain⟨g0,g1,g2,g3,g4⟩:=HT2.out.froz
 clear bb hB2 HR HT HB
 by_cases hE:E=0
 ·have kB:=KB.out
  rw [if_pos hE] at kB
  have hE':(E != 0)=false:=by simp [hE]
  have KE0:Hid (oneE s f=0):=by show _=_; rw [KE.out,hE]
  have KB0:Hid (oneB s f=0):=kB
  subst hE
  clear kB KB KE
  obtain⟨y0,y1,y2,y3,y4⟩:=HT3.out.cells
  obtain⟨r0,r1,r2,r3,r4⟩:=HR3.out.cells
  obtain⟨f0,f1,f2,f3,f4⟩:=HR3.out.froz
  go_wp2
  exact bodyPost_ret (results_three (p:=4) (u:=5) (v:=6) (ty:=82) rfl _ _ w§ 82 (tkA T) (0,0) _ rfl (HR3.out.put T) Tryz.underlying82 rfl zK) rfl ⟨by unfold oneV; rw [KT.out,KE0.out,KB0.out]; rfl,below_put hB4 (Nat.le_refl _) _ _ _ _ _⟩
 ·have kB:=KB.out
  rw [if_neg hE] at kB
  have hE':(E != 0)=true:=by simp [hE]
  have KB0:Hid (oneB s f=(d:Int)):=kB
  clear kB KB hE
  obtain⟨y0,y1,y2,y3,y4⟩:=HT3.out.cells
  obtain⟨r0,r1,r2,r3,r4⟩:=HR3.out.cells
  obtain⟨f0,f1,f2,f3,f4⟩:=HR3.out.froz
  go_wp2
  exact bodyPost_ret (results_three (p:=4) (u:=5) (v:=6) (ty:=82) rfl _ _ w§ 82 (tkA T) (0,0) _ rfl (HR3.out.put T) Tryz.underlying82 rfl zK) rfl ⟨by unfold oneV; rw [KT.out,KE.out,KB0.out]; rfl,below_put hB4 (Nat.le_refl _) _ _ _ _ _⟩
theorem rf_one_mark (s:ByteArray) (f d:Nat) (hs:s.size≤140737488355328) (hf:f≤s.size) (hp:oneP s f=d) (hd:d < s.size) (c:UInt8) (hc:s[d]=c) (hl:letB c=false) (hg:digB c=false) (w:World) :
  Calls zG 24 #[.string s,zI f] w fun e w'=>e=.returned (oneV s f)∧Below w§ w w':=by
 have hr:rest s d=c :: rest s (d+1):=by rw [rest_at s d hd,hc]
 have hne:¬ d=s.size:=by omega
 have KT:Hid (oneT s f=mkT s d):=by show _=_; unfold oneT; rw [hp,if_neg hne,hr]; simp [hdB,hl,hg]
 have KE:Hid (oneE s f=mkE s d):=by show _=_; unfold oneE; rw [hp,if_neg hne,hr]; simp [hdB,hl,hg]
 have cO:=rf_over_any s f hs hf d hp.symm
 have cN:=rf_mark_any s d hs (Nat.le_of_lt hd)
 obtain⟨T,eT⟩:∃ T,mkT s d=T:=⟨_,rfl⟩
 obtain⟨E,eE⟩:∃ E,mkE s d=E:=⟨_,rfl⟩
 rw [eT,eE] at cN
 rw [eT] at KT
 rw [eE] at KE
 have KB:Hid (oneB s f=if E=0 then 0 else (d:Int)):=by show _=_; unfold oneB; rw [KE.out,hp]
 have hR:TkH ((w.alloc (.cells (tkA tk0) 82)).alloc (.cells (tkA tk0) 82)) w§ tk0:=heap_fst _ _ _
 have hT:TkH ((w.alloc (.cells (tkA tk0) 82)).alloc (.cells (tkA tk0) 82)) (w§+1) tk0:=by
  have:=Hn (w.alloc (.cells (tkA tk0) 82)) (.cells (tkA tk0) 82)
  rwa [Sa] at this
 have hB:=below_two w (.cells (tkA tk0) 82) (.cells (tkA tk0) 82)
 have HR:=hR.hid
 have HT:=hT.hid
 have HB:=zH hB
 have hd':(d:Int) < (s.size:Int):=by omega
 have hne':((d:Int) == (s.size:Int))=false:=beq_false_of_ne (by omega)
 unfold tkA at cN
 clear hR hT hB hr hp eT eE
 go_enter Tryz.func24,Tryz.ntmps24
 go_wp2_with (first | (go_at_call 55; refine (cO _).mono ?_; rintro _ v ⟨rfl,e⟩; obtain rfl:=e.symm) | (go_at_call 56; refine (rf_letter_b hl _).mono ?_; rintro _ v ⟨rfl,e⟩; obtain rfl:=e.symm) | (go_at_call 58; refine (rf_digit_b hg _).mono ?_; rintro _ v ⟨rfl,e⟩; obtain rfl:=e.symm))
 refine (cN _).mono ?_
 rintro _ v ⟨rfl,bb⟩
 have HR2:=(HR.out.onto bb).hid
 have HT2:=(HT.out.onto bb).hid
 have hB2:=HB.out.trans (bb.mono HB.out.size)
 obtain⟨V,eV⟩:∃ V,((((v.setCell ⟨w§+1,0,none⟩ (zU T.k)).setCell ⟨w§+1,1,none⟩ (.string T.x)).setCell ⟨w§+1,2,none⟩ (zU T.ty)).setCell ⟨w§+1,3,none⟩ (zI T.n)).setCell ⟨w§+1,4,none⟩ (zI T.p)=V:=⟨_,rfl⟩
 have HT3:Hid (TkH V (w§+1) T):=by show TkH V _ _; rw [← eV]; exact HT2.out.put T
 have HR3:Hid (TkH V w§ tk0):=by
  show TkH V _ _
  rw [← eV]
  refine Eq.trans ?_ HR2.out
  rw [Below.heap_setCell _ _ _ _ (by simp),Below.heap_setCell _ _ _ _ (by simp),Below.heap_setCell _ _ _ _ (by simp),Below.heap_setCell _ _ _ _ (by simp),Below.heap_setCell _ _ _ _ (by simp)]
 have hB4:Below w§ w V:=by rw [← eV]; exact below_put hB2 (by omega) _ _ _ _ _
 obtain⟨t0,t1,t2,t3,t4⟩:=HT2.out.cells
 obtain⟨g0,g1,g2,g3,g4⟩:=HT2.out.froz
 clear bb hB2 HR HT HB
 by_cases hE:E=0
 ·have kB:=KB.out
  rw [if_pos hE] at kB
  have hE':(E != 0)=false:=by simp [hE]
  have KE0:Hid (oneE s f=0):=by show _=_; rw [KE.out,hE]
  have KB0:Hid (oneB s f=0):=kB
  subst hE
  clear kB KB KE
  obtain⟨y0,y1,y2,y3,y4⟩:=HT3.out.cells
  obtain⟨r0,r1,r2,r3,r4⟩:=HR3.out.cells
  obtain⟨f0,f1,f2,f3,f4⟩:=HR3.out.froz
  go_wp2
  exact bodyPost_ret (results_three (p:=4) (u:=5) (v:=6) (ty:=82) rfl _ _ w§ 82 (tkA T) (0,0) _ rfl (HR3.out.put T) Tryz.underlying82 rfl zK) rfl ⟨by unfold oneV; rw [KT.out,KE0.out,KB0.out]; rfl,below_put hB4 (Nat.le_refl _) _ _ _ _ _⟩
 ·have kB:=KB.out
  rw [if_neg hE] at kB
  have hE':(E != 0)=true:=by simp [hE]
  have KB0:Hid (oneB s f=(d:Int)):=kB
  clear kB KB hE
  obtain⟨y0,y1,y2,y3,y4⟩:=HT3.out.cells
  obtain⟨r0,r1,r2,r3,r4⟩:=HR3.out.cells
  obtain⟨f0,f1,f2,f3,f4⟩:=HR3.out.froz
  go_wp2
  exact bodyPost_ret (results_three (p:=4) (u:=5) (v:=6) (ty:=82) rfl _ _ w§ 82 (tkA T) (0,0) _ rfl (HR3.out.put T) Tryz.underlying82 rfl zK) rfl ⟨by unfold oneV; rw [KT.out,KE.out,KB0.out]; rfl,below_put hB4 (Nat.le_refl _) _ _ _ _ _⟩
theorem rf_one_end (s:ByteArray) (f:Nat) (hs:s.size≤140737488355328) (hf:f≤s.size) (hp:oneP s f=s.size) (w:World) :
  Calls zG 24 #[.string s,zI f] w fun e w'=>e=.returned (oneV s f)∧Below w§ w w':=by
 have KT:Hid (oneT s f=⟨0,⟨#[]⟩,0,0,s.size⟩):=by show _=_; unfold oneT; rw [hp,if_pos rfl]
 have KE:Hid (oneE s f=0):=by show _=_; unfold oneE; rw [if_pos hp]
 have KB:Hid (oneB s f=0):=by show _=_; unfold oneB; rw [if_pos KE.out]
 have cO:=rf_over_any s f hs hf s.size hp.symm
 go_enter Tryz.func24,Tryz.ntmps24
 go_wp2_with (go_at_call 55; refine (cO _).mono ?_; rintro _ v ⟨rfl,e⟩; obtain rfl:=e.symm)
 exact bodyPost_ret (results_three (p:=4) (u:=5) (v:=6) (ty:=82) rfl _ _ w§ 82 (tkA ⟨0,⟨#[]⟩,0,0,s.size⟩) (0,0) _ rfl (Hn w _) Tryz.underlying82 rfl zK) rfl ⟨by unfold oneV; rw [KT.out,KE.out,KB.out]; rfl,Bn w _⟩
theorem rf_one_any (s:ByteArray) (f:Nat) (hs:s.size≤140737488355328) (hf:f≤s.size) (w:World) :
  Calls zG 24 #[.string s,zI f] w fun e w'=>e=.returned (oneV s f)∧Below w§ w w':=by
 by_cases h:oneP s f=s.size
 ·exact rf_one_end s f hs hf h w
 ·have hd:oneP s f < s.size:=by have:=oneP_le s f hf; omega
  cases hl:letB s[oneP s f]
  ·cases hg:digB s[oneP s f]
   ·exact rf_one_mark s f _ hs hf rfl hd _ rfl hl hg w
   ·exact rf_one_num s f _ hs hf rfl hd _ rfl hl hg w
  ·exact rf_one_name s f _ hs hf rfl hd _ rfl hl w
theorem rf_begin_any (s:ByteArray) (hs:s.size≤1000000) (w:World) :
  Calls zG 73 #[.string s] w fun e w'=>∃ v,e=.returned (.tuple #[v,zI (begO s 0).2.1,zI (begO s 0).2.2])∧RL w w' v (begO s 0).1:=by
 go_enter Tryz.func73,Tryz.ntmps73
 go_wp2_with fail
 go_loopw [5,6] (fun l i wr=>∃ (L:List Tk) (k:Nat),k≤s.size∧i=zI k∧L.length≤k∧RL w wr l L∧Hid (begO s 0=(L ++ (begO s k).1,(begO s k).2))) (fun _ i _=>s.size - (intOf i).toNat)
 case atStart=>exact⟨[],0,by omega,rfl,Nat.le_refl _,RL.nil w,by show _=_; rfl⟩
 case round =>
  obtain⟨L,k,hk,rfl,hL,hR,HG⟩:=hrel
  have cO:=rf_one_any s k (by omega) hk
  unfold oneV at cO
  obtain⟨T,eT⟩:∃ T,oneT s k=T:=⟨_,rfl⟩
  obtain⟨E,eE⟩:∃ E,oneE s k=E:=⟨_,rfl⟩
  obtain⟨B,eB⟩:∃ B,oneB s k=B:=⟨_,rfl⟩
  rw [eT,eE,eB] at cO
  unfold tkA at cO
  have HX:=hR.hid
  have KT:Hid (oneT s k=T):=eT
  have KE:Hid (oneE s k=E):=eE
  have KB:Hid (oneB s k=B):=eB
  clear hR eT eE eB
  go_wp2_with fail
  refine (cO _).mono ?_
  rintro _ v ⟨rfl,bb⟩
  have HX2:=(HX.out.call bb).hid
  clear bb HX cO
  by_cases hE:E=0
  ·have hE':(E != 0)=false:=by simp [hE]
   subst hE
   have HX3:=(HX2.out.alloc (.cells (tkA T) 82)).hid
   have HT:Hid (TkH (v.alloc (.cells (tkA T) 82)) v§ T):=Hn _ _
   have HN:=zH HX2.out.row.lt
   by_cases hk0:T.k=0
   ·have e0:(T.k == 0)=true:=by simp [hk0]
    have K:Hid (begO s 0=(L ++ [T],0,0)):=by
     show _=_
     rw [HG.out,beg_end KE.out (by rw [KT.out]; exact hk0),KT.out]
    clear HG KT KE KB hk0
    go_wp2_with (at_builtin; refine append_token rfl (.tmp 22) (.tmp 24) rfl T HX3.out rfl (by show Value.slice (some ⟨v§+1,0,none⟩) 1 1=_; rw [Sa]) (by omega) ?_; intro v1 w1 hr1 hs1 hk1; have HX1:=hr1.hid; have HT1:Hid (TkH w1 v§ T):=(hk1 _ (by simp) (fun e=>by have:=HN.out _ e; omega)).trans HT.out; obtain⟨y0,y1,y2,y3,y4⟩:=HT1.out.cells; clear hk1 hs1 hr1)
    exact bodyPost_ret (results_t3 (p:=2) (u:=3) (v:=4) rfl _ _) rfl ⟨_,by rw [K.out]; rfl,by rw [K.out]; exact HX1.out⟩
   ·have e0:(T.k == 0)=false:=by simp [hk0]
    obtain⟨q1,q2,q3,q4⟩:=beg_more hk KE.out (by rw [KT.out]; exact hk0)
    obtain⟨Q,eQ⟩:∃ Q,oneQ s k=Q:=⟨_,rfl⟩
    rw [KT.out,eQ] at q3
    rw [KT.out,eQ] at q4
    rw [eQ] at q1 q2
    have K:Hid (begO s 0=((L ++ [T]) ++ (begO s Q).1,(begO s Q).2)):=by
     show _=_
     rw [HG.out,q4]
     simp
    clear HG KT KE KB hk0 q4
    go_wp2_with (at_builtin; refine append_token rfl (.tmp 22) (.tmp 24) rfl T HX3.out rfl (by show Value.slice (some ⟨v§+1,0,none⟩) 1 1=_; rw [Sa]) (by omega) ?_; intro v1 w1 hr1 hs1 hk1; have HX1:=hr1.hid; have HT1:Hid (TkH w1 v§ T):=(hk1 _ (by simp) (fun e=>by have:=HN.out _ e; omega)).trans HT.out; obtain⟨y0,y1,y2,y3,y4⟩:=HT1.out.cells; clear hk1 hs1 hr1)
    exact⟨⟨L ++ [T],Q,q2,by go_num,by simp; omega,HX1.out,K⟩,by simp only [intOf]; omega⟩
  ·have hE':(E != 0)=true:=by simp [hE]
   have K:Hid (begO s 0=(L,E,B)):=by
    show _=_
    rw [HG.out,beg_bad (by rw [KE.out]; exact hE),KE.out,KB.out]
    simp
   have HX3:=(HX2.out.alloc (.cells (tkA T) 82)).hid
   clear HG KT KE KB hE
   go_wp2
   exact bodyPost_ret (results_t3 (p:=2) (u:=3) (v:=4) rfl _ _) rfl ⟨_,by rw [K.out]; rfl,by rw [K.out]; exact HX3.out⟩
theorem RowL.tk {w:World}{v:Value}{L:List Tk}(h:RowL w v L):∃ a c,v=.slice a L.length c∧∀ j (hj:j < L.length),∃ G,a=some ⟨G,0,none⟩∧v.ownBlock=some G∧TkC w G (0+j * 5) L[j]:=by
 obtain⟨a,c,e,h1,h2⟩:=Row.form h
 refine⟨a,c,e,fun j hj=>?_⟩
 obtain⟨G,eG⟩:=h1 (by omega)
 subst eG e
 refine⟨G,rfl,rfl,?_⟩
 have key:∀ i,i < 5→w.cell? ⟨G,0+j * 5+i,none⟩=some (tkF (lsF L) (j * 5+i)):=fun i hi=>by
  have:=Row.cell h (j:=j * 5+i) (by omega)
  rw [show 0+j * 5+i=j * 5+i by omega]
  exact this
 have e1:lsF L j=L[j]:=by
  unfold lsF
  rw [List.getD_eq_getElem?_getD,List.getElem?_eq_getElem hj]
  rfl
 have f:∀ i,i < 5→tkF (lsF L) (j * 5+i)=if i=0 then zU L[j].k else if i=1 then .string L[j].x else if i=2 then zU L[j].ty else if i=3 then zI L[j].n else zI L[j].p:=fun i hi=>by
  unfold tkF
  rw [show (j * 5+i) % 5=i by omega,show (j * 5+i) / 5=j by omega,e1]
 refine⟨?_,?_,?_,?_,?_⟩
 ·have:=key 0 (by omega); rw [f 0 (by omega)] at this; exact this
 ·have:=key 1 (by omega); rw [f 1 (by omega)] at this; exact this
 ·have:=key 2 (by omega); rw [f 2 (by omega)] at this; exact this
 ·have:=key 3 (by omega); rw [f 3 (by omega)] at this; exact this
 ·have:=key 4 (by omega); rw [f 4 (by omega)] at this; exact this
def OutB (s:ByteArray) (w:World) (e:Ending) (w':World):Prop :=
 ∃ b K,e=.returned (zP b)∧w§≤b∧Sp w' b K (nf (rdT s))∧KOk K∧(∀ t ∈ K.T,Gd t)∧K.T=rdT s∧((K.lg=false∧K.be=tksE s∧K.ba=tksB s)∨(K.lg=true∧tksE s=110∧tksB s=0))∧Below w§ w w'
theorem begin_d (s:ByteArray) (w:World):Calls zG 27 #[.string s] w (OutB s w):=by
 by_cases hs:s.size > 4096
 ·have h1:(s.size:Int) > 4096:=by omega
  have h2:decide (4096 < (s.size:Int))=true:=decide_eq_true (by omega)
  obtain⟨r1,r2,r3⟩:=rdT_long hs
  have HR:Hid (rdT s = []∧tksE s=110∧tksB s=0):=⟨r1,r2,r3⟩
  clear r1 r2 r3 hs
  go_enter Tryz.func27,Tryz.ntmps27
  go_wp2_with fail
  go_ret
  refine⟨w§,⟨none,0,[],0,0,true⟩,rfl,Nat.le_refl _,?_,⟨fun t ht=>by simp at ht,by simp⟩,fun t ht=>by simp at ht,HR.out.1.symm,.inr ⟨rfl,HR.out.2.1,HR.out.2.2⟩,Bn _ _⟩
  rw [HR.out.1]
  exact⟨110,0,true,⟨Hn _ _,Nat.le_refl _,by simp,fun _=>⟨rfl,rfl,rfl⟩,fun j hj=>by simp at hj⟩,.inr (.inr rfl)⟩
 ·have h1:¬ (s.size:Int) > 4096:=by omega
  have h2:decide (4096 < (s.size:Int))=false:=decide_eq_false (by omega)
  have hs':s.size≤4096:=by omega
  have cB:=rf_begin_any s (by omega) w
  have HR:Hid (rdT s=(begO s 0).1∧tksE s=(begO s 0).2.1∧tksB s=(begO s 0).2.2):=⟨rdT_beg hs',(tksB_beg hs').1,(tksB_beg hs').2⟩
  clear hs hs'
  go_enter Tryz.func27,Tryz.ntmps27
  go_wp2_with fail
  refine cB.mono ?_
  rintro e w1 ⟨v,rfl,hr⟩
  obtain⟨a,c,rfl,ht⟩:=hr.row.tk
  have HT:=zH ht
  have HB:=zH hr.B
  clear cB hr ht
  go_wp2_with fail
  go_ret
  have hL:=rdT_len s
  rw [HR.out.1] at hL
  have hn:=Bn w1 (.cells #[.slice a (begO s 0).1.length c,zI (begO s 0).2.1,zI (begO s 0).2.2,zI 0,zI 0,zI 0,.bool false] 96)
  refine⟨w1§,⟨a,c,(begO s 0).1,(begO s 0).2.1,(begO s 0).2.2,false⟩,rfl,HB.out.size,?_,⟨fun t ht=>?_,hL⟩,fun t ht=>?_,HR.out.1.symm,.inl ⟨rfl,HR.out.2.1.symm,HR.out.2.2.symm⟩,B2 HB.out hn⟩
  ·rw [HR.out.1]
   refine Lv.sp ⟨0,0,false,⟨Hn _ _,Nat.zero_le _,by show (begO s 0).1.length≤_; omega,(fun h=>by cases h),fun j hj=>?_⟩,rfl⟩
   obtain⟨G,e1,e2,e3⟩:=HT.out j hj
   have:=e3.lt
   exact⟨G,0,e1,by omega,e3.blk (hn.block _ this)⟩
  ·exact gd_ok (rdT_gd s t (by rw [HR.out.1]; exact ht)) (rdT_rg s t (by rw [HR.out.1]; exact ht))
  ·exact rdT_gd s t (by rw [HR.out.1]; exact ht)
def dEnd:St→St
 | .ok []=>.error .lex
 | .ok (t :: ts)=>if t.k=0 then .ok (t :: ts) else .error (.tok 130 t.p)
 | .error f=>.error f
def DdX (w:World) (b:Nat) (K:PK):Ft→Prop
 | .tok no p=>∃ i,Pr w b K i no p false∧no≠0
 | .lex=>∃ i e p,Pr w b K i e p true∧(K.lg=true∨(e=K.be∧p=K.ba))
def SpX (w:World) (b:Nat) (K:PK):St→Prop
 | .ok ts=>Lv w b K ts
 | .error f=>DdX w b K f
theorem end_dead {w:World}{b:Nat}{K:PK}{f:Ft}(h:Dd w b K f) :
  Calls zG 48 #[zP b] w fun e w'=>e=.returned (.tuple #[])∧DdX w' b K f∧Mv w w' (fun k=>k=b):=by
 have key:∀ {i:Nat}{e p:Int}{t:Bool},Pr w b K i e p t→e≠0→Calls zG 48 #[zP b] w fun e w'=>e=.returned (.tuple #[])∧w'=w:=by
  intro i e p t h1 h2
  have cO:=over_yes h1 h2
  clear h1 h
  go_enter Tryz.func48,Tryz.ntmps48
  go_wp2_with fail
  refine cO.mono ?_
  rintro e w1 ⟨rfl,rfl⟩
  go_wp2_with fail
  exact bodyPost_ret (results_none rfl _ _ _) rfl ⟨rfl,rfl⟩
 cases f with
 | tok no p =>
  obtain⟨i,h1,h2⟩:=h
  refine (key h1 h2).mono ?_
  rintro e w' ⟨rfl,rfl⟩
  exact⟨rfl,⟨i,h1,h2⟩,Mv.refl _ _⟩
 | lex =>
  obtain⟨e,p,t,h1,h2⟩:=h
  by_cases he:e=0
  ·subst he
   clear h2 key
   have cO:=over_no h1
   have HP:=h1.hid
   have c0:w.cell? ⟨b,0,none⟩=some (.slice K.a K.T.length K.c):=Co h1.h 0
   have c3:w.cell? ⟨b,3,none⟩=some (zI K.T.length):=Co h1.h 3
   clear h1
   go_enter Tryz.func48,Tryz.ntmps48
   go_wp2_with fail
   refine cO.mono ?_
   rintro e w1 ⟨rfl,rfl⟩
   clear cO
   go_upto_region 1 with fail
   go_quiet (fail)
   obtain⟨V,eV⟩:∃ V,w1.drewN nq=V:=⟨_,rfl⟩
   have HPV:=(HP.out.blk (w':=V) (fun _ _=>by rw [← eV]; rfl)).hid
   have HMV:Hid (Mv w1 V (fun k=>k=b)):=by rw [← eV]; exact⟨rfl,rfl,rfl,Nat.le_refl _,fun _ _ _=>rfl⟩
   rw [eV]
   clear eV c0 c3 HP
   have cW:=wrong_lex HPV.out 130
   go_wp2_with fail
   refine cW.mono ?_
   rintro e w2 ⟨rfl,hp,hm⟩
   have HP2:=hp.hid
   have HM2:=zH hm
   clear cW hp hm
   go_wp2_with fail
   go_end0
   exact⟨rfl,⟨_,_,_,HP2.out,.inr ⟨rfl,rfl⟩⟩,HMV.out.trans HM2.out (fun k e=>.inl e)⟩
  ·refine (key h1 he).mono ?_
   rintro e' w' ⟨rfl,rfl⟩
   rcases h2 with h2 | ⟨h3,h4,h5⟩ | h3
   ·exact absurd h2 he
   ·subst h5
    exact⟨rfl,⟨_,_,_,h1,.inr ⟨h3,h4⟩⟩,Mv.refl _ _⟩
   ·obtain⟨_,_,h5⟩:=h1.z h3
    subst h5
    exact⟨rfl,⟨_,_,_,h1,.inl h3⟩,Mv.refl _ _⟩
theorem end_live {w:World}{b:Nat}{K:PK}{t:Tk}{ts:List Tk}(h:Lv w b K (t :: ts)) :
  Calls zG 48 #[zP b] w fun e w'=>e=.returned (.tuple #[])∧SpX w' b K (dEnd (.ok (t :: ts)))∧Mv w w' (fun k=>k=b):=by
 have HH:=h.hid
 obtain⟨i,p,u,h1,h2⟩:=h
 have cO:=over_no h1
 have hg:K.T[i]? = some t:=by
  have:=congrArg (fun l=>l[0]?) h2
  simp at this
  exact this.symm
 obtain⟨hi,etk⟩:=List.getElem?_eq_some_iff.1 hg
 obtain⟨G,o,ea,hn,ht⟩:=h1.r i hi
 rw [etk] at ht
 have c0:w.cell? ⟨b,0,none⟩=some (.slice (some ⟨G,o,none⟩) K.T.length K.c):=by rw [← ea]; exact Co h1.h 0
 have c3:w.cell? ⟨b,3,none⟩=some (zI i):=Co h1.h 3
 have y0:=ht.c0
 have hd:¬ (K.T.length:Int)≤(i:Int):=by omega
 have hd':decide ((K.T.length:Int)≤(i:Int))=false:=decide_eq_false hd
 have hi':(i:Int) < (K.T.length:Int):=by omega
 clear h1 h2 hg etk ea ht
 by_cases hk:t.k=0
 ·simp only [dEnd,hk,if_true]
  rw [hk] at y0
  go_enter Tryz.func48,Tryz.ntmps48
  go_wp2_with fail
  refine cO.mono ?_
  rintro e w1 ⟨rfl,rfl⟩
  clear cO
  go_upto_region 1 with fail
  go_quiet (fail)
  obtain⟨V,eV⟩:∃ V,w1.drewN nq=V:=⟨_,rfl⟩
  have HHV:=(HH.out.blk (w':=V) (fun _ _=>by rw [← eV]; rfl)).hid
  have HMV:Hid (Mv w1 V (fun k=>k=b)):=by rw [← eV]; exact⟨rfl,rfl,rfl,Nat.le_refl _,fun _ _ _=>rfl⟩
  rw [eV]
  clear eV c0 c3 y0
  go_wp2_with fail
  go_end0
  exact⟨rfl,HHV.out,HMV.out⟩
 ·simp only [dEnd,hk,if_false]
  have hk2:(t.k != 0)=true:=bne_iff_ne.2 hk
  go_enter Tryz.func48,Tryz.ntmps48
  go_wp2_with fail
  refine cO.mono ?_
  rintro e w1 ⟨rfl,rfl⟩
  clear cO
  go_upto_region 1 with fail
  go_quiet (fail)
  obtain⟨V,eV⟩:∃ V,w1.drewN nq=V:=⟨_,rfl⟩
  have HHV:=(HH.out.blk (w':=V) (fun _ _=>by rw [← eV]; rfl)).hid
  have HMV:Hid (Mv w1 V (fun k=>k=b)):=by rw [← eV]; exact⟨rfl,rfl,rfl,Nat.le_refl _,fun _ _ _=>rfl⟩
  rw [eV]
  clear eV c0 c3 y0
  have cW:=wrong_live HHV.out 130 (by decide)
  go_wp2_with fail
  refine cW.mono ?_
  rintro e w2 ⟨rfl,hp,hm⟩
  have HP2:=zH hp
  have HM2:=zH hm
  clear cW hp hm
  go_wp2_with fail
  go_end0
  exact⟨rfl,HP2.out,HMV.out.trans HM2.out (fun k e=>.inl e)⟩
theorem end_s {w:World}{b:Nat}{K:PK}{s:St}(h:Sp w b K s) :
  Calls zG 48 #[zP b] w fun e w'=>e=.returned (.tuple #[])∧SpX w' b K (dEnd s)∧Mv w w' (fun k=>k=b):=by
 cases s with
 | error f=>exact end_dead h
 | ok ts =>
  obtain⟨hne,hl⟩:=h
  cases ts with
  | nil=>exact absurd rfl hne
  | cons t ts=>exact end_live hl
set_option maxHeartbeats 4000000
theorem results_cc {P:Program}{fn:Func}{p u:Tmp}{ty ty2:TypeId}(h:fn.results=#[.cell p ty,.cell u ty2]) (tmps:Array Value) (w:World) (g g2:Nat) (t t2:TypeId) (cs cs2:Array Value) (fr fr2:Nat × Nat) (d d2:TypeDesc)
  (hp:tmps.getD p undef=zP g) (hg:w.heap[g]? = some (.cells cs t fr))
  (hu:P.underlying ty=some d) (hd:(match d with | .struct _ | .array _ _=>true | _=>false)=true) (hi:(P.info? ty).map (·.size)=some cs.size)
  (hp2:tmps.getD u undef=zP g2) (hg2:w.heap[g2]? = some (.cells cs2 t2 fr2))
  (hu2:P.underlying ty2=some d2) (hd2:(match d2 with | .struct _ | .array _ _=>true | _=>false)=true) (hi2:(P.info? ty2).map (·.size)=some cs2.size) :
  (results fn tmps).run P w=.ok (.tuple #[.agg cs,.agg cs2]) w:=by
 have hp':tmps[p]?.getD undef=zP g:=by simpa using hp
 have hp2':tmps[u]?.getD undef=zP g2:=by simpa using hp2
 simp [results,h,hp',hp2',asAddr,run_loadVar_row w g t ty cs fr d hg hu hd hi,run_loadVar_row w g2 t2 ty2 cs2 fr2 d2 hg2 hu2 hd2 hi2]
theorem exprT_nil:exprT []=.error .lex:=(exF_nil 26 0).1
theorem whole_err {s:ByteArray}{f:Ft}(h:dEnd (stOf (exprT (rdT s)))=.error f):gWhole s=.error f:=by
 unfold gWhole
 cases hr:exprT (rdT s) with
 | error f'=>rw [hr] at h; cases h; rfl
 | ok q =>
  obtain⟨q1,q2⟩:=q
  rw [hr] at h
  cases q2 with
  | nil=>cases h; rfl
  | cons u r =>
   simp only [stOf,nf,dEnd] at h
   by_cases c:u.k=0
   ·rw [if_pos c] at h; cases h
   ·rw [if_neg c] at h
    cases h
    simp [gEnd,gLook,bind,Except.bind,gNeed,c]
theorem whole_ok {s:ByteArray}{ts:List Tk}(h:dEnd (stOf (exprT (rdT s)))=.ok ts):∃ q,exprT (rdT s)=.ok q∧gWhole s=.ok q.1:=by
 unfold gWhole
 cases hr:exprT (rdT s) with
 | error f'=>rw [hr] at h; cases h
 | ok q =>
  obtain⟨q1,q2⟩:=q
  rw [hr] at h
  cases q2 with
  | nil=>cases h
  | cons u r =>
   simp only [stOf,nf,dEnd] at h
   by_cases c:u.k=0
   ·exact⟨_,rfl,by simp [gEnd,gLook,bind,Except.bind,gNeed,c]⟩
   ·rw [if_neg c] at h; cases h
def ftT (s:ByteArray):Ft→Int × Int × Bool
 | .tok no p=>(no,p,false)
 | .lex=>(tksE s,tksB s,true)
def OutX (s:ByteArray) (w:World) (e:Ending) (w':World):Prop :=
 (match gWhole s with
 | .ok t=>∃ m,e=.returned (.tuple #[.agg m.vals,.agg #[zI 0,zI 0,.bool false]])∧treeOf m=t∧Lies w' m∧Bkn (fun k=>w§≤k∧k < w'§) m
 | .error f=>(ftT s f).1≠0∧e=.returned (.tuple #[.agg nul8,.agg #[zI (ftT s f).1,zI (ftT s f).2.1,.bool (ftT s f).2.2]]))∧Below w§ w w'
theorem fin3f {U:World}{b:Nat}{a0 a1 a2:Value}(h:U.heap[b]? = some (.cells #[a0,a1,a2] 50 (0,0))) (v0 v1 v2:Value) :
  ∃ Y,(((U.setCell ⟨b,0,none⟩ v0).setCell ⟨b,1,none⟩ v1).setCell ⟨b,2,none⟩ v2)=Y∧Y.heap[b]? = some (.cells #[v0,v1,v2] 50 (0,0))∧Y§=U§∧(∀ k,k≠b→Y.heap[k]? = U.heap[k]?)∧(∀ (w:World) (F:Nat→Prop),Mv w U F→w§≤b→Mv w Y F):=by
 have h1:(U.setCell ⟨b,0,none⟩ v0).heap[b]? = some (.cells #[v0,a1,a2] 50 (0,0)):=Hs0 v0 h
 have h2:((U.setCell ⟨b,0,none⟩ v0).setCell ⟨b,1,none⟩ v1).heap[b]? = some (.cells #[v0,v1,a2] 50 (0,0)):=Hs0 v1 h1
 refine⟨_,rfl,Hs0 v2 h2,by simp [World.setCell],fun k hk=>?_,fun w F m hb=>((m.setCell (a:=⟨b,0,none⟩) (.inr hb) v0).setCell (a:=⟨b,1,none⟩) (.inr hb) v1).setCell (a:=⟨b,2,none⟩) (.inr hb) v2⟩
 iterate 3 (refine (Below.heap_setCell _ _ _ _ (show k≠b from hk)).trans ?_)
 rfl
structure XZ (w:World) (V:World):Prop where
 B:Below w§ w V
 z:V.heap[w§]? = some (.cells #[zU 0,zU 0,zU 0,zI 0,zU 0,.string ⟨#[]⟩,.slice none 0 0,zI 0] 64 (0,0))
 f:V.heap[w§+1]? = some (.cells #[zI 0,zI 0,.bool false] 50 (0,0))
theorem XZ.hid {w V:World}(h:XZ w V):Hid (XZ w V):=h
theorem XZ.new (w:World):XZ w ((w.alloc (.cells zA7 64)).alloc (.cells zA12 50)):=by
 have b1:=Bn w (.cells zA7 64)
 have s1:=Sa w (.cells zA7 64)
 have n1:=Hn w (.cells zA7 64)
 have b2:=Bn (w.alloc (.cells zA7 64)) (.cells zA12 50)
 have n2:=Hn (w.alloc (.cells zA7 64)) (.cells zA12 50)
 rw [s1] at n2
 exact⟨B2 b1 b2,(b2.block _ (by omega)).trans n1,n2⟩
theorem XZ.mv {w V V':World}(h:XZ w V) {F:Nat→Prop}(m:Mv V V' F) (hF:∀ k,F k→w§+1 < k):XZ w V':=by
 have hz:=(Array.getElem?_eq_some_iff.1 h.z).1
 have hf:=(Array.getElem?_eq_some_iff.1 h.f).1
 have hs:=h.B.size
 refine⟨?_,(m.block _ hz (fun e=>by have:=hF _ e; omega)).trans h.z,(m.block _ hf (fun e=>by have:=hF _ e; omega)).trans h.f⟩
 have m1:Mv w V (fun k=>w§+1 < k):=Mv.ofBelow h.B
 exact (m1.trans m (fun k e=>.inl (hF k e))).below (Nat.le_refl _) (fun k e=>by omega)
theorem XZ.on {w V V':World}(h:XZ w V) (k:Below V§ V V'):XZ w V':=h.mv (F:=fun _=>False) (Mv.ofBelow k) (fun _ e=>e.elim)
theorem exprX (s:ByteArray) (w:World):Calls zG 17 #[.string s] w (OutX s w):=by
 have HX:=(XZ.new w).hid
 obtain⟨W0,eW0⟩:∃ W,(w.alloc (.cells zA7 64)).alloc (.cells zA12 50)=W:=⟨_,rfl⟩
 rw [eW0] at HX
 have cB:=begin_d s W0
 go_enter Tryz.func17,Tryz.ntmps17
 go_wp2_with fail
 try rw [eW0]
 refine cB.mono ?_
 rintro e w1 ⟨b,K,rfl,hb,hs,hK,hgd,hT,hE,hB⟩
 have HX1:=(HX.out.on hB).hid
 have hz0:=(Array.getElem?_eq_some_iff.1 HX.out.f).1
 have HB1:Hid (w§+1 < b):=by show _ < _; omega
 have HBL:Hid (b < w1§):=hs.lw.1
 have HK:Hid (KOk K):=hK
 have HT:Hid (K.T=rdT s):=hT
 have HE:=zH hE
 have cE:=expr0_d hK w1 (nf (rdT s)) hs
 rw [rd_nf exprT_nil] at cE
 clear cB hb hs hK hgd hT hE hB hz0 HX eW0
 go_wp2_with fail
 refine cE.mono ?_
 rintro e w2 ⟨⟨⟨k2,o2,ty2,n2,f2,x2,p2⟩,am2,cm2,ks2⟩,rfl,hl,hk,hs,hm,ht⟩
 simp only [Nd.vals,Nd.h,Nd.a,Nd.c,Nd.ks,hdA]
 have HX2:=((HX1.out.mv hm (fun k e=>by rw [e]; exact HB1.out)).on (Bn w2 (.cells (zN k2 o2 ty2 n2 f2 x2 am2 ks2 cm2 p2) 64))).hid
 have hn:=Bn w2 (.cells (zN k2 o2 ty2 n2 f2 x2 am2 ks2 cm2 p2) 64)
 have hN:=Hn w2 (.cells (zN k2 o2 ty2 n2 f2 x2 am2 ks2 cm2 p2) 64)
 have HL2:=(hl.on hn).hid
 have hs2:=hs.on hn
 have hz1:=(Array.getElem?_eq_some_iff.1 HX1.out.f).1
 have HQ:Hid (w1§≤w2§∧w§+1 < w1§∧b < w1§):=⟨hm.size,hz1,HBL.out⟩
 have HK2:=zH hk
 have HT2:=zH ht
 have HN2:=zH hN
 have cF:=end_s hs2
 have hsz:=Sa w2 (.cells (zN k2 o2 ty2 n2 f2 x2 am2 ks2 cm2 p2) 64)
 have HSZ:=zH hsz
 clear cE hl hk hs hm ht hN hn hs2 hz1 HX1 hsz
 obtain⟨s2,es2⟩:∃ q,dEnd (stOf (exprT (rdT s)))=q:=⟨_,rfl⟩
 have HS2:=zH es2
 rw [es2] at cF
 clear es2
 go_wp2_with fail
 refine cF.mono ?_
 rintro e w3 ⟨rfl,hs,hm⟩
 have HX3:=(HX2.out.mv hm (fun k e=>by rw [e]; exact HB1.out)).hid
 have hN3:w3.heap[w2§]? = some (.cells (zN k2 o2 ty2 n2 f2 x2 am2 ks2 cm2 p2) 64 (0,0)):=(hm.block _ (by have:=HSZ.out; omega) (by have:=HQ.out; omega)).trans HN2.out
 have HL3:=zH (HL2.out.bkn HK2.out fun j hj=>hm.block j (by have:=HSZ.out; omega) (by have:=HQ.out; omega))
 have HZ3:Hid (w2§+1≤w3§):=by have:=hm.size; have:=HSZ.out; show _≤_; omega
 clear cF hm HX2 HL2 HN2
 cases s2 with
 | ok ts =>
  obtain⟨q,e1,e2⟩:=whole_ok HS2.out
  have HW:Hid (gWhole s=.ok q.1):=e2
  have HTR:=zH (HT2.out q e1)
  obtain⟨i,p,u,hp,_⟩:Lv w3 b K ts:=hs
  have cO:=over_no hp
  clear hp e1 e2
  go_upto_region 4 with fail
  go_wp2_with fail
  refine cO.mono ?_
  rintro e w4 ⟨rfl,e9⟩
  obtain rfl:=e9.symm
  clear cO e9
  have x0':w3.cell? ⟨w2§,0,none⟩=some (zU k2):=Co hN3 0
  have z0:w3.cell? ⟨w§,0,none⟩=some (zU 0):=Co HX3.out.z 0
  have q0:=Fo HX3.out.z 0
  have x1':w3.cell? ⟨w2§,1,none⟩=some (zU o2):=Co hN3 1
  have z1:w3.cell? ⟨w§,1,none⟩=some (zU 0):=Co HX3.out.z 1
  have q1:=Fo HX3.out.z 1
  have x2':w3.cell? ⟨w2§,2,none⟩=some (zU ty2):=Co hN3 2
  have z2:w3.cell? ⟨w§,2,none⟩=some (zU 0):=Co HX3.out.z 2
  have q2:=Fo HX3.out.z 2
  have x3':w3.cell? ⟨w2§,3,none⟩=some (zI n2):=Co hN3 3
  have z3:w3.cell? ⟨w§,3,none⟩=some (zI 0):=Co HX3.out.z 3
  have q3:=Fo HX3.out.z 3
  have x4':w3.cell? ⟨w2§,4,none⟩=some (zU f2):=Co hN3 4
  have z4:w3.cell? ⟨w§,4,none⟩=some (zU 0):=Co HX3.out.z 4
  have q4:=Fo HX3.out.z 4
  have x5':w3.cell? ⟨w2§,5,none⟩=some (.string x2):=Co hN3 5
  have z5:w3.cell? ⟨w§,5,none⟩=some (.string ⟨#[]⟩):=Co HX3.out.z 5
  have q5:=Fo HX3.out.z 5
  have x6':w3.cell? ⟨w2§,6,none⟩=some (.slice am2 ks2.length cm2):=Co hN3 6
  have z6:w3.cell? ⟨w§,6,none⟩=some (.slice none 0 0):=Co HX3.out.z 6
  have q6:=Fo HX3.out.z 6
  have x7':w3.cell? ⟨w2§,7,none⟩=some (zI p2):=Co hN3 7
  have z7:w3.cell? ⟨w§,7,none⟩=some (zI 0):=Co HX3.out.z 7
  have q7:=Fo HX3.out.z 7
  obtain⟨Y,eY,hY1,hY2,hY3,hY4⟩:=fin8 HX3.out.z (zU k2) (zU o2) (zU ty2) (zI n2) (zU f2) (.string x2) (.slice am2 ks2.length cm2) (zI p2)
  have hYf:Y.heap[w§+1]? = some (.cells zA12 50 (0,0)):=(hY3 _ (by omega)).trans HX3.out.f
  obtain⟨U,eU,hU1,hU2,hU3,hU4⟩:=fin3f hYf (zI 0) (zI 0) (.bool false)
  have HEY:=zH eY
  have HEU:=zH eU
  obtain⟨fg0,fg1,fg2⟩:=cl3 HX3.out.f
  obtain⟨fk0,fk1,fk2⟩:=fz3 HX3.out.f
  have HF:Hid (U.heap[w§]? = some (.cells (Nd.mk ⟨k2,o2,ty2,n2,f2,x2,p2⟩ am2 cm2 ks2).vals 64 (0,0))∧U.heap[w§+1]? = some (.cells zA12 50 (0,0))∧Lies U (Nd.mk ⟨k2,o2,ty2,n2,f2,x2,p2⟩ am2 cm2 ks2)∧Bkn (fun k=>w§≤k∧k < U§) (Nd.mk ⟨k2,o2,ty2,n2,f2,x2,p2⟩ am2 cm2 ks2)∧Below w§ w U):=by
   have hq:=HQ.out
   have hz:=HZ3.out
   refine⟨(hU3 _ (by omega)).trans hY1,hU1,HL3.out.bkn HK2.out fun j hj=>(hU3 j (by omega)).trans (hY3 j (by omega)),HK2.out.mono fun j hj=>⟨by omega,by omega⟩,?_⟩
   exact (hU4 w (fun _=>False) (hY4 w (fun _=>False) (Mv.ofBelow HX3.out.B) (Nat.le_refl _)) (by omega)).below (Nat.le_refl _) (fun _ e=>e.elim)
  clear hN3 eY eU hY1 hY2 hY3 hY4 hU1 hU2 hU3 hU4 hYf
  go_wp2_with fail
  rw [HEY.out,HEU.out]
  refine bodyPost_ret (results_cc rfl _ _ w§ (w§+1) 64 50 (Nd.mk ⟨k2,o2,ty2,n2,f2,x2,p2⟩ am2 cm2 ks2).vals zA12 (0,0) (0,0) _ _ rfl HF.out.1 Tryz.underlying64 rfl zK rfl HF.out.2.1 Tryz.underlying50 rfl zK) rfl ⟨?_,HF.out.2.2.2.2⟩
  rw [HW.out]
  exact⟨_,rfl,HTR.out,HF.out.2.2.1,HF.out.2.2.2.1⟩
 | error f =>
  have HW:Hid (gWhole s=.error f):=whole_err HS2.out
  obtain⟨i,E,P,T,hp,he,hft⟩:∃ i E P T,Pr w3 b K i E P T∧E≠0∧ftT s f=(E,P,T):=by
   cases f with
   | tok no p =>
    obtain⟨i,h1,h2⟩:=hs
    exact⟨i,no,p,false,h1,h2,rfl⟩
   | lex =>
    obtain⟨i,e,p,h1,h2⟩:=hs
    have h0:tksE s≠0:=fun h=>whole_lex h HW.out
    rcases HE.out with ⟨l1,l2,l3⟩ | ⟨l1,l2,l3⟩
    ·rcases h2 with h2 | ⟨h2,h3⟩
     ·rw [l1] at h2; cases h2
     ·subst h2 h3
      exact⟨i,_,_,true,h1,by rw [l2]; exact h0,by simp only [ftT,l2,l3]⟩
    ·obtain⟨z1,z2,_⟩:=h1.z l1
     subst z1 z2
     exact⟨i,_,_,true,h1,by decide,by simp only [ftT,l2,l3]⟩
  have HFT:Hid (ftT s f=(E,P,T)):=hft
  have HE0:Hid (E≠0):=he
  have HP:=hp.hid
  have cO:=over_yes hp he
  clear hp he hs hft HS2 hN3
  go_upto_region 4 with fail
  go_wp2_with fail
  refine cO.mono ?_
  rintro e w4 ⟨rfl,e9⟩
  obtain rfl:=e9.symm
  clear cO e9
  go_upto_region 5 with fail
  have c4:w3.cell? ⟨b,4,none⟩=some (zI E):=Co HP.out.h 4
  have c5:w3.cell? ⟨b,5,none⟩=some (zI P):=Co HP.out.h 5
  have c6:w3.cell? ⟨b,6,none⟩=some (.bool T):=Co HP.out.h 6
  refine wp_region_held_drew (S:=fun v=>v.cell? ⟨b,4,none⟩=some (zI E)∧v.cell? ⟨b,5,none⟩=some (zI P)∧v.cell? ⟨b,6,none⟩=some (.bool T)) zK ⟨c4,c5,c6⟩ (fun hHeld=>?_)
  refine wpAnyH_take (i:=0) (v:=?_) rfl zK zK zK (fun _ _ _ h=>h) (Or.inl ⟨by rfl,?_⟩) (by assumption) ?_
  rotate_left
  ·(intro v hv; obtain⟨t4,t5,t6⟩:=hv; go_simp; try (with_reducible rfl))
  try simp [Act.put]
  refine wpAnyH_take (i:=1) (v:=?_) rfl zK zK zK (fun _ _ _ h=>h) (Or.inl ⟨by rfl,?_⟩) (by assumption) ?_
  rotate_left
  ·(intro v hv; obtain⟨t4,t5,t6⟩:=hv; go_simp; try (with_reducible rfl))
  try simp [Act.put]
  refine wpAnyH_take (i:=2) (v:=?_) rfl zK zK zK (fun _ _ _ h=>h) (Or.inl ⟨by rfl,?_⟩) (by assumption) ?_
  rotate_left
  ·(intro v hv; obtain⟨t4,t5,t6⟩:=hv; go_simp; try (with_reducible rfl))
  try simp [Act.put]
  refine wpAnyH_take (i:=3) (v:=?_) rfl zK zK zK (fun _ _ _ h=>h) (Or.inl ⟨by rfl,?_⟩) (by assumption) ?_
  rotate_left
  ·(intro v hv; obtain⟨t4,t5,t6⟩:=hv; go_simp; try (with_reducible rfl))
  try simp [Act.put]
  refine wpAnyH_take (i:=4) (v:=?_) rfl zK zK zK (fun _ _ _ h=>h) (Or.inl ⟨by rfl,?_⟩) (by assumption) ?_
  rotate_left
  ·(intro v hv; obtain⟨t4,t5,t6⟩:=hv; go_simp; try (with_reducible rfl))
  try simp [Act.put]
  obtain⟨U,eU⟩:∃ U,w3.drew=U:=⟨_,rfl⟩
  have HXU:Hid (XZ w U):=by
   have h1:=HX3.out
   rw [← eU]
   exact⟨h1.B.drew,h1.z,h1.f⟩
  have HPU:=(HP.out.blk (w':=U) (fun _ _=>by rw [← eU]; rfl)).hid
  rw [eU] at hHeld ⊢
  clear eU c4 c5 c6 HX3 HP
  have hbb:=HB1.out
  have z0:U.cell? ⟨w§,0,none⟩=some (zU 0):=Co HXU.out.z 0
  have q0:=Fo HXU.out.z 0
  have z1:U.cell? ⟨w§,1,none⟩=some (zU 0):=Co HXU.out.z 1
  have q1:=Fo HXU.out.z 1
  have z2:U.cell? ⟨w§,2,none⟩=some (zU 0):=Co HXU.out.z 2
  have q2:=Fo HXU.out.z 2
  have z3:U.cell? ⟨w§,3,none⟩=some (zI 0):=Co HXU.out.z 3
  have q3:=Fo HXU.out.z 3
  have z4:U.cell? ⟨w§,4,none⟩=some (zU 0):=Co HXU.out.z 4
  have q4:=Fo HXU.out.z 4
  have z5:U.cell? ⟨w§,5,none⟩=some (.string ⟨#[]⟩):=Co HXU.out.z 5
  have q5:=Fo HXU.out.z 5
  have z6:U.cell? ⟨w§,6,none⟩=some (.slice none 0 0):=Co HXU.out.z 6
  have q6:=Fo HXU.out.z 6
  have z7:U.cell? ⟨w§,7,none⟩=some (zI 0):=Co HXU.out.z 7
  have q7:=Fo HXU.out.z 7
  obtain⟨fg0,fg1,fg2⟩:=cl3 HXU.out.f
  obtain⟨fk0,fk1,fk2⟩:=fz3 HXU.out.f
  refine wpAnyH_ready (rs:=[5]) zK (by simp) ?_
  refine AllReadyH.cons rfl (fun K' hK=>?_) AllReadyH.nil
  ·obtain⟨Y,eY,hY1,hY2,hY3,hY4⟩:=fin8 HXU.out.z (zU 0) (zU 0) (zU 0) (zI 0) (zU 0) (.string ⟨#[]⟩) (.slice none 0 0) (zI 0)
   have hYf:Y.heap[w§+1]? = some (.cells zA12 50 (0,0)):=(hY3 _ (by omega)).trans HXU.out.f
   obtain⟨Z,eZ,hZ1,hZ2,hZ3,hZ4⟩:=fin3f hYf (zI E) (zI P) (.bool T)
   have HEY:=zH eY
   have HEZ:=zH eZ
   have hYb:Y.heap[b]? = U.heap[b]?:=hY3 b (by omega)
   have hZb:Z.heap[b]? = U.heap[b]?:=(hZ3 b (by omega)).trans hYb
   have HSY:Hid (Y.cell? ⟨b,4,none⟩=some (zI E)∧Y.cell? ⟨b,5,none⟩=some (zI P)∧Y.cell? ⟨b,6,none⟩=some (.bool T)):=by
    have h1:=hYb.trans HPU.out.h
    exact⟨Co h1 4,Co h1 5,Co h1 6⟩
   have HSZ2:Hid (Z.cell? ⟨b,4,none⟩=some (zI E)∧Z.cell? ⟨b,5,none⟩=some (zI P)∧Z.cell? ⟨b,6,none⟩=some (.bool T)):=by
    have h1:=hZb.trans HPU.out.h
    exact⟨Co h1 4,Co h1 5,Co h1 6⟩
   have HF:Hid (Z.heap[w§]? = some (.cells nul8 64 (0,0))∧Z.heap[w§+1]? = some (.cells #[zI E,zI P,.bool T] 50 (0,0))∧Below w§ w Z):=by
    refine⟨(hZ3 _ (by omega)).trans hY1,hZ1,?_⟩
    exact (hZ4 w (fun _=>False) (hY4 w (fun _=>False) (Mv.ofBelow HXU.out.B) (Nat.le_refl _)) (by omega)).below (Nat.le_refl _) (fun _ e=>e.elim)
   clear eY eZ hY1 hY2 hY3 hY4 hZ1 hZ2 hZ3 hZ4 hYb hZb
   go_simp
   rw [HEY.out]
   refine hK.out _ _ HSY.out (fun hHeld5=>?_)
   clear hK K'
   obtain⟨fg0',fg1',fg2'⟩:=cl3 hYf
   obtain⟨fk0',fk1',fk2'⟩:=fz3 hYf
   clear hYf
   refine wpAnyH_ready (rs:=[6]) zK (by simp) ?_
   refine AllReadyH.cons rfl (fun K' hK=>?_) AllReadyH.nil
   go_simp
   rw [HEZ.out]
   refine hK.out _ _ HSZ2.out (fun hHeld6=>?_)
   clear hK K'
   refine wpAnyH_done zK ?_ _
   go_wp2_with fail
   refine bodyPost_ret (results_cc rfl _ _ w§ (w§+1) 64 50 nul8 #[zI E,zI P,.bool T] (0,0) (0,0) _ _ rfl HF.out.1 Tryz.underlying64 rfl zK rfl HF.out.2.1 Tryz.underlying50 rfl zK) rfl ⟨?_,HF.out.2.2⟩
   rw [HW.out]
   refine⟨?_,?_⟩
   ·rw [HFT.out]; exact HE0.out
   ·simp only [HFT.out]
structure KG (K:PK):Prop where
 k:KOk K
 g:∀ t ∈ K.T,Gd t
theorem kw_gd {t:Tk}(h:Gd t) {x:ByteArray}(hx:(lx x.data.toList).map (·.1)=some 1∨(lx x.data.toList).map (·.1)=some 4):t.x=x→t.k=1∨t.k=4:=by
 rintro rfl
 rcases h with h | ⟨_,h2,_⟩
 ·rw [h.lk] at hx
  simp only [Option.map_some,Option.some.injEq] at hx
  exact hx
 ·exfalso
  rw [h2] at hx
  rcases hx with hx | hx <;> exact absurd hx (by decide +kernel)
theorem Lv.gd {w:World}{b:Nat}{K:PK}{t:Tk}{ts:List Tk}(h:Lv w b K (t :: ts)) (hK:KG K):Gd t:=hK.g t (h.mem t (by simp))
theorem take_g {w:World}{b:Nat}{K:PK}{s:St}(hK:KG K) (h:Sp w b K s) (x:ByteArray) (hx:(lx x.data.toList).map (·.1)=some 1∨(lx x.data.toList).map (·.1)=some 4) (hx':x≠⟨#[]⟩) :
  Calls zG 74 #[zP b,.string x] w fun e w'=>(∃ p,e=.returned (zI p))∧Sp w' b K (dTake x s)∧Mv w w' (fun k=>k=b):=by
 cases s with
 | error f=>exact take_dead h x hx'
 | ok ts =>
  obtain⟨hne,hl⟩:=h
  cases ts with
  | nil=>exact absurd rfl hne
  | cons t ts =>
   refine (take_live hl x (kw_gd (hl.gd hK) hx)).mono ?_
   rintro e w' ⟨⟨p,e1,_⟩,h2,h3⟩
   refine⟨⟨p,e1⟩,?_,h3⟩
   simp only [dTake]
   by_cases he:t.x=x
   ·rw [if_pos he] at h2 ⊢
    exact h2.sp
   ·rw [if_neg he] at h2 ⊢
    exact h2
theorem is_g {w:World}{b:Nat}{K:PK}{s:St}(hK:KG K) (h:Sp w b K s) (x:ByteArray) (hx:(lx x.data.toList).map (·.1)=some 1∨(lx x.data.toList).map (·.1)=some 4) (hx':x≠⟨#[]⟩) :
  Calls zG 76 #[zP b,.string x] w fun e w'=>e=.returned (.bool (dIs x s))∧Below w§ w w':=by
 cases s with
 | error f=>exact is_dead h x hx'
 | ok ts =>
  obtain⟨hne,hl⟩:=h
  cases ts with
  | nil=>exact absurd rfl hne
  | cons t ts=>exact is_live hl x (kw_gd (hl.gd hK) hx)
theorem dIs_ok {x:ByteArray}{s:St}(h:dIs x s=true):∃ t ts,s=.ok (t :: ts)∧t.x=x:=by
 match s,h with
 | .ok (t :: ts),h=>exact⟨t,ts,rfl,of_decide_eq_true h⟩
def dAny (L:List ByteArray):St→Int
 | .ok (t :: _)=>fnd t.x L 0
 | _=>-1
theorem any_g {w:World}{b:Nat}{K:PK}{s:St}(hK:KG K) (h:Sp w b K s) {A:Nat}{L:List ByteArray}{n c:Nat}(hL:SLs w A L) (hn:L.length=n) (hm:n≤1000)
  (hx:∀ x ∈ L,((lx x.data.toList).map (·.1)=some 1∨(lx x.data.toList).map (·.1)=some 4)∧x≠⟨#[]⟩) :
  Calls zG 110 #[zP b,.slice (some ⟨A,0,none⟩) n c] w fun e w'=>e=.returned (zI (dAny L s))∧Below w§ w w':=by
 cases s with
 | error f=>exact any_deadN h hL hn hm (fun x h1=>(hx x h1).2)
 | ok ts =>
  obtain⟨hne,hl⟩:=h
  cases ts with
  | nil=>exact absurd rfl hne
  | cons t ts=>exact any_liveN hl hL hn hm (fun x h1=>kw_gd (hl.gd hK) (hx x h1).1)
theorem dAny_ok {L:List ByteArray}{s:St}(h:0≤dAny L s):∃ t ts,s=.ok (t :: ts)∧fnd t.x L 0=dAny L s:=by
 match s,h with
 | .ok (t :: ts),h=>exact⟨t,ts,rfl,rfl⟩
 | .ok [],h=>simp [dAny] at h
 | .error f,h=>simp [dAny] at h
theorem dAny_rg (L:List ByteArray) (s:St):-1≤dAny L s∧dAny L s < (L.length:Nat)∨dAny L s = -1:=by
 match s with
 | .ok (t :: ts)=>exact .inl (by have:=fnd_rg t.x L 0; simpa [dAny] using this)
 | .ok []=>exact .inr rfl
 | .error f=>exact .inr rfl
def dWrong (no:Int):St→St
 | .ok (t :: _)=>.error (.tok no t.p)
 | .ok []=>.error .lex
 | .error f=>.error f
theorem wrong_g {w:World}{b:Nat}{K:PK}{s:St}(h:Sp w b K s) (no:Int) (hn:no≠0) :
  Calls zG 81 #[zP b,zI no] w fun e w'=>e=.returned (.tuple #[])∧Sp w' b K (dWrong no s)∧Mv w w' (fun k=>k=b):=by
 cases s with
 | error f=>exact wrong_dead h no
 | ok ts =>
  obtain⟨hne,hl⟩:=h
  cases ts with
  | nil=>exact absurd rfl hne
  | cons t ts=>exact wrong_live hl no hn
def hdT:St→Tk
 | .ok (t :: _)=>t
 | _=>tk0
theorem now_g {w:World}{b:Nat}{K:PK}{s:St}(h:Sp w b K s) :
  Calls zG 92 #[zP b] w fun e w'=>e=.returned (.agg (tkA (hdT s)))∧Below w§ w w':=by
 cases s with
 | error f=>exact dead_now h
 | ok ts =>
  obtain⟨hne,hl⟩:=h
  cases ts with
  | nil=>exact absurd rfl hne
  | cons t ts=>exact live_now hl
def dStep:St→St
 | .ok (_ :: ts)=>nf ts
 | .ok []=>.error .lex
 | .error f=>.error f
def dName:St→St
 | .ok (t :: ts)=>if t.k=2 then nf ts else .error (.tok 130 t.p)
 | .ok []=>.error .lex
 | .error f=>.error f
theorem name_g {w:World}{b:Nat}{K:PK}{s:St}(h:Sp w b K s) :
  Calls zG 75 #[zP b] w fun e w'=>(∃ x,e=.returned (.string x))∧Sp w' b K (dName s)∧Mv w w' (fun k=>k=b):=by
 have cN:=now_g h
 have HH:=h.hid
 unfold tkA at cN
 by_cases hk:(hdT s).k=2
 ·obtain⟨t,ts,rfl⟩:∃ t ts,s=.ok (t :: ts):=by
   match s,hk with
   | .ok (t :: ts),_=>exact⟨t,ts,rfl⟩
   | .ok [],hk=>exact absurd (show tk0.k=2 from hk) (by decide)
   | .error f,hk=>exact absurd (show tk0.k=2 from hk) (by decide)
  have hk:t.k=2:=hk
  simp only [hdT] at cN
  simp only [dName,hk,if_true]
  rw [hk] at cN
  clear h hk
  go_enter Tryz.func75,Tryz.ntmps75
  go_wp2_with fail
  refine cN.mono ?_
  rintro e w1 ⟨rfl,hb⟩
  have HB:Hid (Below w§ w (w1.alloc (.cells #[zU 2,.string t.x,zU t.ty,zI t.n,zI t.p] 82))):=B2 hb (Bn _ _)
  have hN:=Hn w1 (.cells #[zU 2,.string t.x,zU t.ty,zI t.n,zI t.p] 82)
  obtain⟨i,c3,f3,hmx,hL,hM,ho,_⟩:=(HH.out.2.on HB.out).at'
  have hbl:=HH.out.2.lt
  have hsz:=hb.size
  have k1:((w1.alloc (.cells #[zU 2,.string t.x,zU t.ty,zI t.n,zI t.p] 82)).setCell ⟨b,3,none⟩ (zI ((i:Int)+1))).cell? ⟨w1§,1,none⟩=some (.string t.x):=Co ((ho w1§ (by omega)).trans hN) 1
  obtain⟨W,eW⟩:∃ W,w1.alloc (.cells #[zU 2,.string t.x,zU t.ty,zI t.n,zI t.p] 82)=W:=⟨_,rfl⟩
  have k0:W.cell? ⟨w1§,0,none⟩=some (zU 2):=by rw [← eW]; exact Co hN 0
  rw [eW] at HB c3 f3 hL hM k1
  have HL:=hL.hid
  have HM:=zH hM
  clear cN hb hN hL hM ho hbl hsz
  obtain⟨Y,eY⟩:∃ Y,W.setCell ⟨b,3,none⟩ (zI ((i:Int)+1))=Y:=⟨_,rfl⟩
  rw [eY] at HL HM k1
  go_wp2_with fail
  try rw [eW]
  go_wp2_with fail
  go_ret
  first | exact⟨⟨_,rfl⟩,HL.out.sp,(Mv.ofBelow HB.out).trans HM.out (fun k e=>.inl e)⟩ | (rw [eY]; exact⟨⟨_,rfl⟩,HL.out.sp,(Mv.ofBelow HB.out).trans HM.out (fun k e=>.inl e)⟩)
 ·have e0:dName s=dWrong 130 s:=by
   match s,hk with
   | .ok (t :: ts),hk=>exact if_neg hk
   | .ok [],_=>rfl
   | .error f,_=>rfl
  rw [e0]
  obtain⟨kk,ekk⟩:∃ q,(hdT s).k=q:=⟨_,rfl⟩
  rw [ekk] at hk cN
  have hk2:(kk != 2)=true:=bne_iff_ne.2 hk
  clear h e0 ekk
  go_enter Tryz.func75,Tryz.ntmps75
  go_wp2_with fail
  refine cN.mono ?_
  rintro e w1 ⟨rfl,hb⟩
  have HB:Hid (Below w§ w (w1.alloc (.cells #[zU kk,.string (hdT s).x,zU (hdT s).ty,zI (hdT s).n,zI (hdT s).p] 82))):=B2 hb (Bn _ _)
  have cW:=wrong_g (HH.out.on HB.out) 130 (by decide)
  clear cN hb
  go_wp2_with fail
  refine cW.mono ?_
  rintro e w2 ⟨rfl,hs,hm⟩
  have HS:=hs.hid
  have HM:=zH hm
  clear cW hs hm
  go_wp2_with fail
  go_ret
  exact⟨⟨_,rfl⟩,HS.out,(Mv.ofBelow HB.out).trans HM.out (fun k e=>.inl e)⟩
theorem many_ok {w:World}{b:Nat}{K:PK}{t:Tk}{ts:List Tk}(h:Lv w b K (t :: ts)) (n m:Nat) (hn:n < m) (hm:m≤1000) :
  Calls zG 77 #[zP b,zI n,zI m] w fun e w'=>e=.returned (.bool true)∧w'=w:=by
 obtain⟨i,p,u,h1,h2⟩:=h
 have cO:=over_no h1
 have h3:¬ (m:Int)≤(n:Int):=by omega
 have h4:decide ((m:Int)≤(n:Int))=false:=decide_eq_false h3
 clear h1 h2
 go_enter Tryz.func77,Tryz.ntmps77
 go_wp2_with fail
 refine cO.mono ?_
 rintro e w1 ⟨rfl,rfl⟩
 go_wp2_with fail
 go_ret
 exact⟨rfl,rfl⟩
theorem many_no {w:World}{b:Nat}{K:PK}{t:Tk}{ts:List Tk}(h:Lv w b K (t :: ts)) (n m:Nat) (hn:¬ n < m) (hm:n≤1000) :
  Calls zG 77 #[zP b,zI n,zI m] w fun e w'=>e=.returned (.bool false)∧Dd w' b K (.tok 131 t.p)∧Mv w w' (fun k=>k=b):=by
 have cW:=wrong_live h 131 (by decide)
 have h3:(m:Int)≤(n:Int):=by omega
 have h4:decide ((m:Int)≤(n:Int))=true:=decide_eq_true h3
 clear h
 go_enter Tryz.func77,Tryz.ntmps77
 go_wp2_with fail
 refine cW.mono ?_
 rintro e w1 ⟨rfl,hd,hm⟩
 have HD:=hd.hid
 have HM:=zH hm
 obtain⟨i,h6,h7⟩:=hd
 have cO:=over_yes h6 h7
 clear cW hm h6 h7
 go_wp2_with fail
 refine cO.mono ?_
 rintro e w2 ⟨rfl,rfl⟩
 go_wp2_with fail
 go_ret
 exact⟨rfl,HD.out,HM.out⟩
def Shp (V:World) (N T n:Nat):Prop:=∃ cs:Array Value,V.heap[N]? = some (.cells cs T (0,0))∧cs.size=n∧cs.all (·.oneCell')=true
theorem Shp.blk {V V':World}{N T n:Nat}(h:Shp V N T n) (k:V'.heap[N]? = V.heap[N]?):Shp V' N T n:=by
 obtain⟨cs,h1,h2,h3⟩:=h
 exact⟨cs,k.trans h1,h2,h3⟩
theorem Shp.lt {V:World}{N T n:Nat}(h:Shp V N T n):N < V§:=by
 obtain⟨cs,h1,h2,h3⟩:=h
 exact (Array.getElem?_eq_some_iff.1 h1).1
theorem Shp.cell {V:World}{N T n:Nat}(h:Shp V N T n) (i:Nat) (hi:i < n):∃ v,V.cell? ⟨N,i,none⟩=some v∧V.frozen? ⟨N,i,none⟩=false:=by
 obtain⟨cs,h1,h2,h3⟩:=h
 refine⟨cs[i]'(by omega),?_,Fo h1 i⟩
 rw [Co h1 i,Array.getElem?_eq_getElem (by omega)]
theorem Shp.set {V:World}{N T n:Nat}(h:Shp V N T n) (i:Nat) (v:Value) (hv:v.oneCell'=true):Shp (V.setCell ⟨N,i,none⟩ v) N T n:=by
 obtain⟨cs,h1,h2,h3⟩:=h
 refine⟨cs.setIfInBounds i v,Hs0 v h1,by simpa using h2,?_⟩
 rw [Array.all_eq_true_iff_forall_mem] at h3 ⊢
 intro x hx
 rcases Array.mem_or_eq_of_mem_setIfInBounds hx with hx | hx
 ·exact h3 x hx
 ·rw [hx]; exact hv
structure GX (w:World) (b:Nat) (K:PK) (V:World) (bs:List (Nat × Nat × Nat)) (s:St):Prop where
 M:Mv w V (fun k=>k=b)
 B:∀ p ∈ bs,Shp V p.1 p.2.1 p.2.2∧w§≤p.1
 S:Sp V b K s
 W:Lw w§ b K
theorem GX.hid {w:World}{b:Nat}{K:PK}{V:World}{bs:List (Nat × Nat × Nat)}{s:St}(h:GX w b K V bs s):Hid (GX w b K V bs s):=h
theorem GX.mv {w:World}{b:Nat}{K:PK}{V:World}{bs:List (Nat × Nat × Nat)}{s:St}{V':World}{s':St}(h:GX w b K V bs s) (hm:Mv V V' (fun k=>k=b)) (hs:Sp V' b K s'):GX w b K V' bs s':=by
 have hb:=h.W.1
 refine⟨h.M.trans hm (fun _ e=>.inl e),fun p hp=>?_,hs,h.W⟩
 obtain⟨h1,h2⟩:=h.B p hp
 exact⟨h1.blk (hm.block _ h1.lt (by omega)),h2⟩
theorem GX.on {w:World}{b:Nat}{K:PK}{V:World}{bs:List (Nat × Nat × Nat)}{s:St}{V':World}(h:GX w b K V bs s) (k:Below V§ V V'):GX w b K V' bs s:=h.mv (Mv.ofBelow k) (h.S.on k)
theorem GX.push {w:World}{b:Nat}{K:PK}{V:World}{bs:List (Nat × Nat × Nat)}{s:St}(h:GX w b K V bs s) (cs:Array Value) (T n:Nat) (hn:cs.size=n) (h1:cs.all (·.oneCell')=true):GX w b K (V.alloc (.cells cs T)) ((V§,T,n) :: bs) s:=by
 have h':=h.on (Bn V (.cells cs T))
 refine⟨h'.M,fun p hp=>?_,h'.S,h'.W⟩
 rcases List.mem_cons.1 hp with e | e
 ·rw [e]
  exact⟨⟨cs,Hn _ _,hn,h1⟩,h.M.size⟩
 ·exact h'.B p e
theorem GX.new {w:World}{b:Nat}{K:PK}{s:St}(h:Sp w b K s) (cs:Array Value) (T n:Nat) (hn:cs.size=n) (h1:cs.all (·.oneCell')=true):GX w b K (w.alloc (.cells cs T)) [(w§,T,n)] s :=
 GX.push (bs:=[]) ⟨Mv.refl _ _,(fun p hp=>by simp at hp),h,h.lw⟩ cs T n hn h1
theorem GX.set {w:World}{b:Nat}{K:PK}{V:World}{bs:List (Nat × Nat × Nat)}{s:St}(h:GX w b K V bs s) {N T n:Nat}(hp:(N,T,n) ∈ bs) (i:Nat) (v:Value) (hv:v.oneCell'=true):GX w b K (V.setCell ⟨N,i,none⟩ v) bs s:=by
 obtain⟨h1,h2⟩:=h.B _ hp
 refine⟨h.M.setCell (a:=⟨N,i,none⟩) (.inr h2) v,fun q hq=>?_,h.S.off h.W (fun k hk=>Below.heap_setCell _ _ _ _ (show k≠N by have h2:w§≤N:=h2; omega)),h.W⟩
 obtain⟨g1,g2⟩:=h.B q hq
 by_cases e:q.1=N
 ·refine⟨?_,g2⟩
  have:=g1.set i v hv
  rw [e] at this ⊢
  exact this
 ·exact⟨g1.blk (Below.heap_setCell _ _ _ _ e),g2⟩
theorem GX.node {w:World}{b:Nat}{K:PK}{V:World}{bs:List (Nat × Nat × Nat)}{s:St}(h:GX w b K V bs s) {N T n:Nat}(hp:(N,T,n) ∈ bs) (o:Nat) (m:Nd) :
  GX w b K ((((((((V.setCell ⟨N,o,none⟩ (zU m.h.k)).setCell ⟨N,o+1,none⟩ (zU m.h.o)).setCell ⟨N,o+2,none⟩ (zU m.h.t)).setCell ⟨N,o+3,none⟩ (zI m.h.n)).setCell ⟨N,o+4,none⟩ (zU m.h.f)).setCell ⟨N,o+5,none⟩ (.string m.h.x)).setCell ⟨N,o+6,none⟩ (.slice m.a m.ks.length m.c)).setCell ⟨N,o+7,none⟩ (zI m.h.p)) bs s :=
 (((((((h.set hp _ _ rfl).set hp _ _ rfl).set hp _ _ rfl).set hp _ _ rfl).set hp _ _ rfl).set hp _ _ rfl).set hp _ _ rfl).set hp _ _ rfl
theorem setRow_oth (V:World) (N:Nat) (cs:Array Value) {k:Nat}(h:k≠N):(V.setRow N cs).heap[k]? = V.heap[k]?:=by
 unfold World.setRow
 simp [Array.getElem?_modify,Ne.symm h]
theorem GX.row {w:World}{b:Nat}{K:PK}{V:World}{bs:List (Nat × Nat × Nat)}{s:St}(h:GX w b K V bs s) {N T n:Nat}(hp:(N,T,n) ∈ bs) (cs:Array Value) (hn:cs.size=n) (h1:cs.all (·.oneCell')=true):GX w b K (V.setRow N cs) bs s∧(V.setRow N cs).heap[N]? = some (.cells cs T (0,0)):=by
 obtain⟨⟨old,g1,g2,g3⟩,h2⟩:=h.B _ hp
 have hN:(V.setRow N cs).heap[N]? = some (.cells cs T (0,0)):=setRow_heap V N old cs T (0,0) g1
 have hsz:(V.setRow N cs)§=V§:=by unfold World.setRow; simp
 refine⟨⟨?_,fun q hq=>?_,h.S.off h.W (fun k hk=>setRow_oth _ _ _ (show k≠N by have h2:w§≤N:=h2; omega)),h.W⟩,hN⟩
 ·refine⟨h.M.os,h.M.tape,h.M.output,by rw [hsz]; exact h.M.size,fun k hk hn'=>?_⟩
  rw [setRow_oth _ _ _ (show k≠N by have h2:w§≤N:=h2; omega)]
  exact h.M.block k hk hn'
 ·obtain⟨⟨c2,e1,e2,e3⟩,g5⟩:=h.B q hq
  by_cases e:q.1=N
  ·refine⟨⟨cs,?_,?_,h1⟩,g5⟩
   ·rw [e] at e1 ⊢
    rw [g1] at e1
    cases e1
    exact hN
   ·rw [e] at e1
    rw [g1] at e1
    cases e1
    rw [hn,← e2,g2]
  ·exact⟨⟨c2,(setRow_oth _ _ _ e).trans e1,e2,e3⟩,g5⟩
def OutG (n:Nat) (b:Nat) (K:PK) (w:World) (s':St) (e:Ending) (w':World):Prop :=
 ∃ cs:Array Value,e=.returned (.agg cs)∧cs.size=n∧cs.all (·.oneCell')=true∧Sp w' b K s'∧Mv w w' (fun k=>k=b)
end Go.Proofs.YtkfabnchhjfjjaaGreatDoor
