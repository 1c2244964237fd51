import Derived.Test.YtoogodlnnijikaaGreatDoorA0
import Derived.Test.YtoogodlnnijikaaGreatDoorA9
import Derived.Test.YtoogodlnnijikaaGreatDoorA1
import Derived.Test.YtoogodlnnijikaaGreatDoorA8
import Derived.Test.YtoogodlnnijikaaGreatDoorA2
import Derived.Laws.Tables
import Derived.Laws.Rows
import Derived.Deep.AppendLies
namespace Go.Proofs.YtoogodlnnijikaaGreatDoor
open Go.RowKit
set_option linter.unusedVariables false
set_option maxRecDepth 100000 in
set_option maxHeartbeats 2000000 in
theorem rf_one_name (s:ByteArray) (f d:Nat) (hs:s.size≤140737488355328) (hf:f≤s.size) (hp:oneP s f=d) (hd:d < s.size) (c:UInt8) (hc:s[d]=c) (hl:letB c=true) (w:World) :
  Calls zG 91 #[.string s,zI f] w fun e w'=>e=.returned (oneV s f)∧Below w§ w w':=by
 have hr:rest s d=c :: rest s (d+1):=by rw [rest_at s d hd,hc]
 have hne:¬ d=s.size:=by omega
 have KT:Hid (oneT s f=nmT s d):=by show _=_; unfold oneT; rw [hp,if_neg hne,hr]; simp [hdB,hl]
 have KE:Hid (oneE s f=nmE s d):=by show _=_; unfold oneE; rw [hp,if_neg hne,hr]; simp [hdB,hl]
 have cO:=rf_over_any s f hs hf d hp.symm
 have cN:=rf_named_any s d hs (Nat.le_of_lt hd)
 obtain⟨T,eT⟩:∃ T,nmT s d=T:=⟨_,rfl⟩
 obtain⟨E,eE⟩:∃ E,nmE s d=E:=⟨_,rfl⟩
 rw [eT,eE] at cN
 rw [eT] at KT
 rw [eE] at KE
 have KB:Hid (oneB s f=if E=0 then 0 else (d:Int)):=by show _=_; unfold oneB; rw [KE.out,hp]
 have hR:TkH ((w.alloc (.cells (tkA tk0) 148)).alloc (.cells (tkA tk0) 148)) w§ tk0:=heap_fst _ _ _
 have hT:TkH ((w.alloc (.cells (tkA tk0) 148)).alloc (.cells (tkA tk0) 148)) (w§+1) tk0:=by
  have:=heap_new (w.alloc (.cells (tkA tk0) 148)) (.cells (tkA tk0) 148)
  rwa [size_alloc] at this
 have hB:=below_two w (.cells (tkA tk0) 148) (.cells (tkA tk0) 148)
 have HR:=hR.hid
 have HT:=hT.hid
 have HB:Hid (Below w§ w ((w.alloc (.cells (tkA tk0) 148)).alloc (.cells (tkA tk0) 148))):=hB
 have hd':(d:Int) < (s.size:Int):=by omega
 have hne':((d:Int) == (s.size:Int))=false:=beq_false_of_ne (by omega)
 unfold tkA at cN
 clear hR hT hB hr hp eT eE
 go_enter Tryz.func91,Tryz.ntmps91
 go_wp2_with (first | (go_at_call 127; refine (cO _).mono ?_; rintro _ v ⟨rfl,e⟩; obtain rfl:=e.symm) | (go_at_call 109; refine (rf_letter_b hl _).mono ?_; rintro _ v ⟨rfl,e⟩; obtain rfl:=e.symm))
 refine (cN _).mono ?_
 rintro _ v ⟨rfl,bb⟩
 have HR2:=(HR.out.onto bb).hid
 have HT2:=(HT.out.onto bb).hid
 have hB2:=HB.out.trans (bb.mono HB.out.size)
 obtain⟨V,eV⟩:∃ V,((((v.setCell ⟨w§+1,0,none⟩ (zU T.k)).setCell ⟨w§+1,1,none⟩ (.string T.x)).setCell ⟨w§+1,2,none⟩ (zU T.ty)).setCell ⟨w§+1,3,none⟩ (zI T.n)).setCell ⟨w§+1,4,none⟩ (zI T.p)=V:=⟨_,rfl⟩
 have HT3:Hid (TkH V (w§+1) T):=by show TkH V _ _; rw [← eV]; exact HT2.out.put T
 have HR3:Hid (TkH V w§ tk0):=by
  show TkH V _ _
  rw [← eV]
  refine Eq.trans ?_ HR2.out
  rw [Below.heap_setCell _ _ _ _ (by simp),Below.heap_setCell _ _ _ _ (by simp),Below.heap_setCell _ _ _ _ (by simp),Below.heap_setCell _ _ _ _ (by simp),Below.heap_setCell _ _ _ _ (by simp)]
 have hB4:Below w§ w V:=by rw [← eV]; exact below_put hB2 (by omega) _ _ _ _ _
 obtain⟨t0,t1,t2,t3,t4⟩:=HT2.out.cells
 obtain⟨g0,g1,g2,g3,g4⟩:=HT2.out.froz
 clear bb hB2 HR HT HB
 by_cases hE:E=0
 ·have kB:=KB.out
  rw [if_pos hE] at kB
  have hE':(E != 0)=false:=by simp [hE]
  have KE0:Hid (oneE s f=0):=by show _=_; rw [KE.out,hE]
  have KB0:Hid (oneB s f=0):=kB
  subst hE
  clear kB KB KE
  obtain⟨y0,y1,y2,y3,y4⟩:=HT3.out.cells
  obtain⟨r0,r1,r2,r3,r4⟩:=HR3.out.cells
  obtain⟨f0,f1,f2,f3,f4⟩:=HR3.out.froz
  go_wp2
  exact bodyPost_ret (results_three (p:=4) (u:=5) (v:=6) (ty:=148) rfl _ _ w§ 148 (tkA T) (0,0) _ rfl (HR3.out.put T) Tryz.underlying148 rfl zK) rfl ⟨by unfold oneV; rw [KT.out,KE0.out,KB0.out]; rfl,below_put hB4 (Nat.le_refl _) _ _ _ _ _⟩
 ·have kB:=KB.out
  rw [if_neg hE] at kB
  have hE':(E != 0)=true:=by simp [hE]
  have KB0:Hid (oneB s f=(d:Int)):=kB
  clear kB KB hE
  obtain⟨y0,y1,y2,y3,y4⟩:=HT3.out.cells
  obtain⟨r0,r1,r2,r3,r4⟩:=HR3.out.cells
  obtain⟨f0,f1,f2,f3,f4⟩:=HR3.out.froz
  go_wp2
  exact bodyPost_ret (results_three (p:=4) (u:=5) (v:=6) (ty:=148) rfl _ _ w§ 148 (tkA T) (0,0) _ rfl (HR3.out.put T) Tryz.underlying148 rfl zK) rfl ⟨by unfold oneV; rw [KT.out,KE.out,KB0.out]; rfl,below_put hB4 (Nat.le_refl _) _ _ _ _ _⟩
set_option maxRecDepth 100000 in
set_option maxHeartbeats 2000000 in
theorem rf_one_num (s:ByteArray) (f d:Nat) (hs:s.size≤140737488355328) (hf:f≤s.size) (hp:oneP s f=d) (hd:d < s.size) (c:UInt8) (hc:s[d]=c) (hl:letB c=false) (hg:digB c=true) (w:World) :
  Calls zG 91 #[.string s,zI f] w fun e w'=>e=.returned (oneV s f)∧Below w§ w w':=by
 have hr:rest s d=c :: rest s (d+1):=by rw [rest_at s d hd,hc]
 have hne:¬ d=s.size:=by omega
 have KT:Hid (oneT s f=nbT s d):=by show _=_; unfold oneT; rw [hp,if_neg hne,hr]; simp [hdB,hl,hg]
 have KE:Hid (oneE s f=nbE s d):=by show _=_; unfold oneE; rw [hp,if_neg hne,hr]; simp [hdB,hl,hg]
 have cO:=rf_over_any s f hs hf d hp.symm
 have cN:=rf_number_any s d hs hd
 obtain⟨T,eT⟩:∃ T,nbT s d=T:=⟨_,rfl⟩
 obtain⟨E,eE⟩:∃ E,nbE s d=E:=⟨_,rfl⟩
 rw [eT,eE] at cN
 rw [eT] at KT
 rw [eE] at KE
 have KB:Hid (oneB s f=if E=0 then 0 else (d:Int)):=by show _=_; unfold oneB; rw [KE.out,hp]
 have hR:TkH ((w.alloc (.cells (tkA tk0) 148)).alloc (.cells (tkA tk0) 148)) w§ tk0:=heap_fst _ _ _
 have hT:TkH ((w.alloc (.cells (tkA tk0) 148)).alloc (.cells (tkA tk0) 148)) (w§+1) tk0:=by
  have:=heap_new (w.alloc (.cells (tkA tk0) 148)) (.cells (tkA tk0) 148)
  rwa [size_alloc] at this
 have hB:=below_two w (.cells (tkA tk0) 148) (.cells (tkA tk0) 148)
 have HR:=hR.hid
 have HT:=hT.hid
 have HB:Hid (Below w§ w ((w.alloc (.cells (tkA tk0) 148)).alloc (.cells (tkA tk0) 148))):=hB
 have hd':(d:Int) < (s.size:Int):=by omega
 have hne':((d:Int) == (s.size:Int))=false:=beq_false_of_ne (by omega)
 unfold tkA at cN
 clear hR hT hB hr hp eT eE
 go_enter Tryz.func91,Tryz.ntmps91
 go_wp2_with (first | (go_at_call 127; refine (cO _).mono ?_; rintro _ v ⟨rfl,e⟩; obtain rfl:=e.symm) | (go_at_call 109; refine (rf_letter_b hl _).mono ?_; rintro _ v ⟨rfl,e⟩; obtain rfl:=e.symm) | (go_at_call 129; refine (rf_digit_b hg _).mono ?_; rintro _ v ⟨rfl,e⟩; obtain rfl:=e.symm))
 refine (cN _).mono ?_
 rintro _ v ⟨rfl,bb⟩
 have HR2:=(HR.out.onto bb).hid
 have HT2:=(HT.out.onto bb).hid
 have hB2:=HB.out.trans (bb.mono HB.out.size)
 obtain⟨V,eV⟩:∃ V,((((v.setCell ⟨w§+1,0,none⟩ (zU T.k)).setCell ⟨w§+1,1,none⟩ (.string T.x)).setCell ⟨w§+1,2,none⟩ (zU T.ty)).setCell ⟨w§+1,3,none⟩ (zI T.n)).setCell ⟨w§+1,4,none⟩ (zI T.p)=V:=⟨_,rfl⟩
 have HT3:Hid (TkH V (w§+1) T):=by show TkH V _ _; rw [← eV]; exact HT2.out.put T
 have HR3:Hid (TkH V w§ tk0):=by
  show TkH V _ _
  rw [← eV]
  refine Eq.trans ?_ HR2.out
  rw [Below.heap_setCell _ _ _ _ (by simp),Below.heap_setCell _ _ _ _ (by simp),Below.heap_setCell _ _ _ _ (by simp),Below.heap_setCell _ _ _ _ (by simp),Below.heap_setCell _ _ _ _ (by simp)]
 have hB4:Below w§ w V:=by rw [← eV]; exact below_put hB2 (by omega) _ _ _ _ _
 obtain⟨t0,t1,t2,t3,t4⟩:=HT2.out.cells
 obtain⟨g0,g1,g2,g3,g4⟩:=HT2.out.froz
 clear bb hB2 HR HT HB
 by_cases hE:E=0
 ·have kB:=KB.out
  rw [if_pos hE] at kB
  have hE':(E != 0)=false:=by simp [hE]
  have KE0:Hid (oneE s f=0):=by show _=_; rw [KE.out,hE]
  have KB0:Hid (oneB s f=0):=kB
  subst hE
  clear kB KB KE
  obtain⟨y0,y1,y2,y3,y4⟩:=HT3.out.cells
  obtain⟨r0,r1,r2,r3,r4⟩:=HR3.out.cells
  obtain⟨f0,f1,f2,f3,f4⟩:=HR3.out.froz
  go_wp2
  exact bodyPost_ret (results_three (p:=4) (u:=5) (v:=6) (ty:=148) rfl _ _ w§ 148 (tkA T) (0,0) _ rfl (HR3.out.put T) Tryz.underlying148 rfl zK) rfl ⟨by unfold oneV; rw [KT.out,KE0.out,KB0.out]; rfl,below_put hB4 (Nat.le_refl _) _ _ _ _ _⟩
 ·have kB:=KB.out
  rw [if_neg hE] at kB
  have hE':(E != 0)=true:=by simp [hE]
  have KB0:Hid (oneB s f=(d:Int)):=kB
  clear kB KB hE
  obtain⟨y0,y1,y2,y3,y4⟩:=HT3.out.cells
  obtain⟨r0,r1,r2,r3,r4⟩:=HR3.out.cells
  obtain⟨f0,f1,f2,f3,f4⟩:=HR3.out.froz
  go_wp2
  exact bodyPost_ret (results_three (p:=4) (u:=5) (v:=6) (ty:=148) rfl _ _ w§ 148 (tkA T) (0,0) _ rfl (HR3.out.put T) Tryz.underlying148 rfl zK) rfl ⟨by unfold oneV; rw [KT.out,KE.out,KB0.out]; rfl,below_put hB4 (Nat.le_refl _) _ _ _ _ _⟩
set_option maxRecDepth 100000 in
set_option maxHeartbeats 2000000 in
theorem rf_one_mark (s:ByteArray) (f d:Nat) (hs:s.size≤140737488355328) (hf:f≤s.size) (hp:oneP s f=d) (hd:d < s.size) (c:UInt8) (hc:s[d]=c) (hl:letB c=false) (hg:digB c=false) (w:World) :
  Calls zG 91 #[.string s,zI f] w fun e w'=>e=.returned (oneV s f)∧Below w§ w w':=by
 have hr:rest s d=c :: rest s (d+1):=by rw [rest_at s d hd,hc]
 have hne:¬ d=s.size:=by omega
 have KT:Hid (oneT s f=mkT s d):=by show _=_; unfold oneT; rw [hp,if_neg hne,hr]; simp [hdB,hl,hg]
 have KE:Hid (oneE s f=mkE s d):=by show _=_; unfold oneE; rw [hp,if_neg hne,hr]; simp [hdB,hl,hg]
 have cO:=rf_over_any s f hs hf d hp.symm
 have cN:=rf_mark_any s d hs (Nat.le_of_lt hd)
 obtain⟨T,eT⟩:∃ T,mkT s d=T:=⟨_,rfl⟩
 obtain⟨E,eE⟩:∃ E,mkE s d=E:=⟨_,rfl⟩
 rw [eT,eE] at cN
 rw [eT] at KT
 rw [eE] at KE
 have KB:Hid (oneB s f=if E=0 then 0 else (d:Int)):=by show _=_; unfold oneB; rw [KE.out,hp]
 have hR:TkH ((w.alloc (.cells (tkA tk0) 148)).alloc (.cells (tkA tk0) 148)) w§ tk0:=heap_fst _ _ _
 have hT:TkH ((w.alloc (.cells (tkA tk0) 148)).alloc (.cells (tkA tk0) 148)) (w§+1) tk0:=by
  have:=heap_new (w.alloc (.cells (tkA tk0) 148)) (.cells (tkA tk0) 148)
  rwa [size_alloc] at this
 have hB:=below_two w (.cells (tkA tk0) 148) (.cells (tkA tk0) 148)
 have HR:=hR.hid
 have HT:=hT.hid
 have HB:Hid (Below w§ w ((w.alloc (.cells (tkA tk0) 148)).alloc (.cells (tkA tk0) 148))):=hB
 have hd':(d:Int) < (s.size:Int):=by omega
 have hne':((d:Int) == (s.size:Int))=false:=beq_false_of_ne (by omega)
 unfold tkA at cN
 clear hR hT hB hr hp eT eE
 go_enter Tryz.func91,Tryz.ntmps91
 go_wp2_with (first | (go_at_call 127; refine (cO _).mono ?_; rintro _ v ⟨rfl,e⟩; obtain rfl:=e.symm) | (go_at_call 109; refine (rf_letter_b hl _).mono ?_; rintro _ v ⟨rfl,e⟩; obtain rfl:=e.symm) | (go_at_call 129; refine (rf_digit_b hg _).mono ?_; rintro _ v ⟨rfl,e⟩; obtain rfl:=e.symm))
 refine (cN _).mono ?_
 rintro _ v ⟨rfl,bb⟩
 have HR2:=(HR.out.onto bb).hid
 have HT2:=(HT.out.onto bb).hid
 have hB2:=HB.out.trans (bb.mono HB.out.size)
 obtain⟨V,eV⟩:∃ V,((((v.setCell ⟨w§+1,0,none⟩ (zU T.k)).setCell ⟨w§+1,1,none⟩ (.string T.x)).setCell ⟨w§+1,2,none⟩ (zU T.ty)).setCell ⟨w§+1,3,none⟩ (zI T.n)).setCell ⟨w§+1,4,none⟩ (zI T.p)=V:=⟨_,rfl⟩
 have HT3:Hid (TkH V (w§+1) T):=by show TkH V _ _; rw [← eV]; exact HT2.out.put T
 have HR3:Hid (TkH V w§ tk0):=by
  show TkH V _ _
  rw [← eV]
  refine Eq.trans ?_ HR2.out
  rw [Below.heap_setCell _ _ _ _ (by simp),Below.heap_setCell _ _ _ _ (by simp),Below.heap_setCell _ _ _ _ (by simp),Below.heap_setCell _ _ _ _ (by simp),Below.heap_setCell _ _ _ _ (by simp)]
 have hB4:Below w§ w V:=by rw [← eV]; exact below_put hB2 (by omega) _ _ _ _ _
 obtain⟨t0,t1,t2,t3,t4⟩:=HT2.out.cells
 obtain⟨g0,g1,g2,g3,g4⟩:=HT2.out.froz
 clear bb hB2 HR HT HB
 by_cases hE:E=0
 ·have kB:=KB.out
  rw [if_pos hE] at kB
  have hE':(E != 0)=false:=by simp [hE]
  have KE0:Hid (oneE s f=0):=by show _=_; rw [KE.out,hE]
  have KB0:Hid (oneB s f=0):=kB
  subst hE
  clear kB KB KE
  obtain⟨y0,y1,y2,y3,y4⟩:=HT3.out.cells
  obtain⟨r0,r1,r2,r3,r4⟩:=HR3.out.cells
  obtain⟨f0,f1,f2,f3,f4⟩:=HR3.out.froz
  go_wp2
  exact bodyPost_ret (results_three (p:=4) (u:=5) (v:=6) (ty:=148) rfl _ _ w§ 148 (tkA T) (0,0) _ rfl (HR3.out.put T) Tryz.underlying148 rfl zK) rfl ⟨by unfold oneV; rw [KT.out,KE0.out,KB0.out]; rfl,below_put hB4 (Nat.le_refl _) _ _ _ _ _⟩
 ·have kB:=KB.out
  rw [if_neg hE] at kB
  have hE':(E != 0)=true:=by simp [hE]
  have KB0:Hid (oneB s f=(d:Int)):=kB
  clear kB KB hE
  obtain⟨y0,y1,y2,y3,y4⟩:=HT3.out.cells
  obtain⟨r0,r1,r2,r3,r4⟩:=HR3.out.cells
  obtain⟨f0,f1,f2,f3,f4⟩:=HR3.out.froz
  go_wp2
  exact bodyPost_ret (results_three (p:=4) (u:=5) (v:=6) (ty:=148) rfl _ _ w§ 148 (tkA T) (0,0) _ rfl (HR3.out.put T) Tryz.underlying148 rfl zK) rfl ⟨by unfold oneV; rw [KT.out,KE.out,KB0.out]; rfl,below_put hB4 (Nat.le_refl _) _ _ _ _ _⟩
set_option maxRecDepth 100000 in
set_option maxHeartbeats 2000000 in
theorem rf_one_end (s:ByteArray) (f:Nat) (hs:s.size≤140737488355328) (hf:f≤s.size) (hp:oneP s f=s.size) (w:World) :
  Calls zG 91 #[.string s,zI f] w fun e w'=>e=.returned (oneV s f)∧Below w§ w w':=by
 have KT:Hid (oneT s f=⟨0,⟨#[]⟩,0,0,s.size⟩):=by show _=_; unfold oneT; rw [hp,if_pos rfl]
 have KE:Hid (oneE s f=0):=by show _=_; unfold oneE; rw [if_pos hp]
 have KB:Hid (oneB s f=0):=by show _=_; unfold oneB; rw [if_pos KE.out]
 have cO:=rf_over_any s f hs hf s.size hp.symm
 go_enter Tryz.func91,Tryz.ntmps91
 go_wp2_with (go_at_call 127; refine (cO _).mono ?_; rintro _ v ⟨rfl,e⟩; obtain rfl:=e.symm)
 exact bodyPost_ret (results_three (p:=4) (u:=5) (v:=6) (ty:=148) rfl _ _ w§ 148 (tkA ⟨0,⟨#[]⟩,0,0,s.size⟩) (0,0) _ rfl (heap_new w _) Tryz.underlying148 rfl zK) rfl ⟨by unfold oneV; rw [KT.out,KE.out,KB.out]; rfl,below_new w _⟩
theorem rf_one_any (s:ByteArray) (f:Nat) (hs:s.size≤140737488355328) (hf:f≤s.size) (w:World) :
  Calls zG 91 #[.string s,zI f] w fun e w'=>e=.returned (oneV s f)∧Below w§ w w':=by
 by_cases h:oneP s f=s.size
 ·exact rf_one_end s f hs hf h w
 ·have hd:oneP s f < s.size:=by have:=oneP_le s f hf; omega
  cases hl:letB s[oneP s f]
  ·cases hg:digB s[oneP s f]
   ·exact rf_one_mark s f _ hs hf rfl hd _ rfl hl hg w
   ·exact rf_one_num s f _ hs hf rfl hd _ rfl hl hg w
  ·exact rf_one_name s f _ hs hf rfl hd _ rfl hl w
set_option maxRecDepth 100000 in
set_option maxHeartbeats 2000000 in
theorem rf_begin_any (s:ByteArray) (hs:s.size≤1000000) (w:World) :
  Calls zG 54 #[.string s] w fun e w'=>∃ v,e=.returned (.tuple #[v,zI (begO s 0).2.1,zI (begO s 0).2.2])∧RL w w' v (begO s 0).1:=by
 go_enter Tryz.func54,Tryz.ntmps54
 go_wp2_with fail
 go_loopw [5,6] (fun l i wr=>∃ (L:List Tk) (k:Nat),k≤s.size∧i=zI k∧L.length≤k∧RL w wr l L∧Hid (begO s 0=(L ++ (begO s k).1,(begO s k).2))) (fun _ i _=>s.size - (intOf i).toNat)
 case atStart=>exact⟨[],0,by omega,rfl,Nat.le_refl _,RL.nil w,by show _=_; rfl⟩
 case round =>
  obtain⟨L,k,hk,rfl,hL,hR,HG⟩:=hrel
  have cO:=rf_one_any s k (by omega) hk
  unfold oneV at cO
  obtain⟨T,eT⟩:∃ T,oneT s k=T:=⟨_,rfl⟩
  obtain⟨E,eE⟩:∃ E,oneE s k=E:=⟨_,rfl⟩
  obtain⟨B,eB⟩:∃ B,oneB s k=B:=⟨_,rfl⟩
  rw [eT,eE,eB] at cO
  unfold tkA at cO
  have HX:=hR.hid
  have KT:Hid (oneT s k=T):=eT
  have KE:Hid (oneE s k=E):=eE
  have KB:Hid (oneB s k=B):=eB
  clear hR eT eE eB
  go_wp2_with fail
  refine (cO _).mono ?_
  rintro _ v ⟨rfl,bb⟩
  have HX2:=(HX.out.call bb).hid
  clear bb HX cO
  by_cases hE:E=0
  ·have hE':(E != 0)=false:=by simp [hE]
   subst hE
   have HX3:=(HX2.out.alloc (.cells (tkA T) 148)).hid
   have HT:Hid (TkH (v.alloc (.cells (tkA T) 148)) v§ T):=heap_new _ _
   have HN:Hid (∀ b,(u5:Value).ownBlock=some b→b < v§):=HX2.out.row.lt
   by_cases hk0:T.k=0
   ·have e0:(T.k == 0)=true:=by simp [hk0]
    have K:Hid (begO s 0=(L ++ [T],0,0)):=by
     show _=_
     rw [HG.out,beg_end KE.out (by rw [KT.out]; exact hk0),KT.out]
    clear HG KT KE KB hk0
    go_wp2_with (at_builtin; refine append_token rfl (.tmp 22) (.tmp 24) rfl T HX3.out rfl (by show Value.slice (some ⟨v§+1,0,none⟩) 1 1=_; rw [size_alloc]) (by omega) ?_; intro v1 w1 hr1 hs1 hk1; have HX1:=hr1.hid; have HT1:Hid (TkH w1 v§ T):=(hk1 _ (by simp) (fun e=>by have:=HN.out _ e; omega)).trans HT.out; obtain⟨y0,y1,y2,y3,y4⟩:=HT1.out.cells; clear hk1 hs1 hr1)
    exact bodyPost_ret (results_t3 (p:=2) (u:=3) (v:=4) rfl _ _) rfl ⟨_,by rw [K.out]; rfl,by rw [K.out]; exact HX1.out⟩
   ·have e0:(T.k == 0)=false:=by simp [hk0]
    obtain⟨q1,q2,q3,q4⟩:=beg_more hk KE.out (by rw [KT.out]; exact hk0)
    obtain⟨Q,eQ⟩:∃ Q,oneQ s k=Q:=⟨_,rfl⟩
    rw [KT.out,eQ] at q3
    rw [KT.out,eQ] at q4
    rw [eQ] at q1 q2
    have K:Hid (begO s 0=((L ++ [T]) ++ (begO s Q).1,(begO s Q).2)):=by
     show _=_
     rw [HG.out,q4]
     simp
    clear HG KT KE KB hk0 q4
    go_wp2_with (at_builtin; refine append_token rfl (.tmp 22) (.tmp 24) rfl T HX3.out rfl (by show Value.slice (some ⟨v§+1,0,none⟩) 1 1=_; rw [size_alloc]) (by omega) ?_; intro v1 w1 hr1 hs1 hk1; have HX1:=hr1.hid; have HT1:Hid (TkH w1 v§ T):=(hk1 _ (by simp) (fun e=>by have:=HN.out _ e; omega)).trans HT.out; obtain⟨y0,y1,y2,y3,y4⟩:=HT1.out.cells; clear hk1 hs1 hr1)
    exact⟨⟨L ++ [T],Q,q2,by go_num,by simp; omega,HX1.out,K⟩,by simp only [intOf]; omega⟩
  ·have hE':(E != 0)=true:=by simp [hE]
   have K:Hid (begO s 0=(L,E,B)):=by
    show _=_
    rw [HG.out,beg_bad (by rw [KE.out]; exact hE),KE.out,KB.out]
    simp
   have HX3:=(HX2.out.alloc (.cells (tkA T) 148)).hid
   clear HG KT KE KB hE
   go_wp2
   exact bodyPost_ret (results_t3 (p:=2) (u:=3) (v:=4) rfl _ _) rfl ⟨_,by rw [K.out]; rfl,by rw [K.out]; exact HX3.out⟩
theorem RowL.tk {w:World}{v:Value}{L:List Tk}(h:RowL w v L):∃ a c,v=.slice a L.length c∧∀ j (hj:j < L.length),∃ G,a=some ⟨G,0,none⟩∧v.ownBlock=some G∧TkC w G (0+j * 5) L[j]:=by
 obtain⟨a,c,e,h1,h2⟩:=Row.form h
 refine⟨a,c,e,fun j hj=>?_⟩
 obtain⟨G,eG⟩:=h1 (by omega)
 subst eG e
 refine⟨G,rfl,rfl,?_⟩
 have key:∀ i,i < 5→w.cell? ⟨G,0+j * 5+i,none⟩=some (tkF (lsF L) (j * 5+i)):=fun i hi=>by
  have:=Row.cell h (j:=j * 5+i) (by omega)
  rw [show 0+j * 5+i=j * 5+i by omega]
  exact this
 have e1:lsF L j=L[j]:=by
  unfold lsF
  rw [List.getD_eq_getElem?_getD,List.getElem?_eq_getElem hj]
  rfl
 have f:∀ i,i < 5→tkF (lsF L) (j * 5+i)=if i=0 then zU L[j].k else if i=1 then .string L[j].x else if i=2 then zU L[j].ty else if i=3 then zI L[j].n else zI L[j].p:=fun i hi=>by
  unfold tkF
  rw [show (j * 5+i) % 5=i by omega,show (j * 5+i) / 5=j by omega,e1]
 refine⟨?_,?_,?_,?_,?_⟩
 ·have:=key 0 (by omega); rw [f 0 (by omega)] at this; exact this
 ·have:=key 1 (by omega); rw [f 1 (by omega)] at this; exact this
 ·have:=key 2 (by omega); rw [f 2 (by omega)] at this; exact this
 ·have:=key 3 (by omega); rw [f 3 (by omega)] at this; exact this
 ·have:=key 4 (by omega); rw [f 4 (by omega)] at this; exact this
set_option maxRecDepth 100000 in
set_option maxHeartbeats 4000000 in
theorem begin_y (s:ByteArray) (hs:s.size≤4096) (w:World):Calls zG 25 #[.string s] w fun e w'=>∃ b K,e=.returned (zP b)∧w§≤b∧Lv w' b K (rdT s)∧KG K∧Below w§ w w':=by
 have h1:¬ (s.size:Int) > 4096:=by omega
 have h2:decide (4096 < (s.size:Int))=false:=decide_eq_false (by omega)
 have cB:=rf_begin_any s (by omega) w
 have HR:Hid (rdT s=(begO s 0).1):=rdT_beg hs
 clear hs
 go_enter Tryz.func25,Tryz.ntmps25
 go_wp2_with fail
 refine cB.mono ?_
 rintro e w1 ⟨v,rfl,hr⟩
 obtain⟨a,c,rfl,ht⟩:=hr.row.tk
 have HT:Hid (∀ j (hj:j < (begO s 0).1.length),∃ G,a=some ⟨G,0,none⟩∧(Value.slice a (begO s 0).1.length c).ownBlock=some G∧TkC w1 G (0+j * 5) (begO s 0).1[j]):=ht
 have HB:Hid (Below w§ w w1):=hr.B
 clear cB hr ht
 go_wp2_with fail
 go_ret
 have hL:=rdT_len s
 rw [HR.out] at hL
 have hn:=below_new w1 (.cells #[.slice a (begO s 0).1.length c,zI (begO s 0).2.1,zI (begO s 0).2.2,zI 0,zI 0,zI 0,.bool false] 77)
 refine⟨w1§,⟨a,c,(begO s 0).1,(begO s 0).2.1,(begO s 0).2.2,false⟩,rfl,HB.out.size,?_,⟨⟨fun t ht=>?_,hL⟩,fun t ht=>?_⟩,below2 HB.out hn⟩
 ·rw [HR.out]
  refine⟨0,0,false,⟨heap_new _ _,Nat.zero_le _,by show (begO s 0).1.length≤_; omega,(fun h=>by cases h),fun j hj=>?_⟩,rfl⟩
  obtain⟨G,e1,e2,e3⟩:=HT.out j hj
  have:=e3.lt
  exact⟨G,0,e1,by omega,e3.blk (hn.block _ this)⟩
 ·exact⟨rdT_rg s t (by rw [HR.out]; exact ht)⟩
 ·exact rdT_gd s t (by rw [HR.out]; exact ht)
set_option maxRecDepth 100000 in
set_option maxHeartbeats 4000000 in
theorem end_y {w:World}{b:Nat}{K:PK}{t:Tk}{ts:List Tk}(h:Lv w b K (t :: ts)) (hk:t.k=0) :
  Calls zG 53 #[zP b] w fun e w'=>e=.returned (.tuple #[])∧Lv w' b K (t :: ts)∧Mv w w' (fun k=>k=b):=by
 have HH:=h.hid
 obtain⟨i,p,u,h1,h2⟩:=h
 have cO:=over_no h1
 have hg:K.T[i]? = some t:=by
  have:=congrArg (fun l=>l[0]?) h2
  simp at this
  exact this.symm
 obtain⟨hi,etk⟩:=List.getElem?_eq_some_iff.1 hg
 obtain⟨G,o,ea,hn,ht⟩:=h1.r i hi
 rw [etk] at ht
 have c0:w.cell? ⟨b,0,none⟩=some (.slice (some ⟨G,o,none⟩) K.T.length K.c):=by rw [← ea]; exact cell_of h1.h 0
 have c3:w.cell? ⟨b,3,none⟩=some (zI i):=cell_of h1.h 3
 have y0:=ht.c0
 have hd:¬ (K.T.length:Int)≤(i:Int):=by omega
 have hd':decide ((K.T.length:Int)≤(i:Int))=false:=decide_eq_false hd
 have hi':(i:Int) < (K.T.length:Int):=by omega
 clear h1 h2 hg etk ea ht
 rw [hk] at y0
 go_enter Tryz.func53,Tryz.ntmps53
 go_wp2_with fail
 refine cO.mono ?_
 rintro e w1 ⟨rfl,rfl⟩
 clear cO
 go_upto_region 1 with fail
 go_quiet (fail)
 obtain⟨V,eV⟩:∃ V,w1.drewN nq=V:=⟨_,rfl⟩
 have HHV:=(HH.out.blk (w':=V) (fun _ _=>by rw [← eV]; rfl)).hid
 have HMV:Hid (Mv w1 V (fun k=>k=b)):=by rw [← eV]; exact⟨rfl,rfl,rfl,Nat.le_refl _,fun _ _ _=>rfl⟩
 rw [eV]
 clear eV c0 c3 y0
 go_wp2_with fail
 go_end0
 exact⟨rfl,HHV.out,HMV.out⟩
structure RegT where
 x:ByteArray
 t:Int
 m:Tr
 p:Int
structure SlotT where
 x:ByteArray
 p:Int
structure DoT where
 k:Int
 o:Int
 x:ByteArray
 sd:Tr
 qt:Tr
 pr:Tr
 vl:Tr
 p:Int
structure RuleT where
 m:Tr
 ds:List DoT
 p:Int
structure StateT where
 x:ByteArray
 rs:List RuleT
 p:Int
structure StratT where
 x:ByteArray
 rs:List RegT
 ss:List SlotT
 ts:List StateT
def tr0:Tr:=.mk ⟨0,0,0,0,0,gE,0⟩ []
def pTake (x:ByteArray):List Tk→Option (Int × List Tk)
 | []=>none
 | t :: ts=>if t.x=x then some (t.p,ts) else none
def pName:List Tk→Option (ByteArray × List Tk)
 | []=>none
 | t :: ts=>if t.k=2 then some (t.x,ts) else none
def pIs (x:ByteArray):List Tk→Bool
 | []=>false
 | t :: _=>decide (t.x=x)
def pLit:List Tk→Option (Tr × List Tk)
 | []=>none
 | t :: ts=>if t.k=3 then some (.mk ⟨1,0,t.ty,t.n,0,gE,t.p⟩ [],ts) else if t.k=1∧t.x=Zh then some (.mk ⟨1,0,5,1,0,gE,t.p⟩ [],ts) else none
def LF:List ByteArray:=[⟨#[98,105,100]⟩,⟨#[97,115,107]⟩,⟨#[108,97,115,116]⟩,⟨#[118,111,108,117,109,101]⟩,⟨#[110,111,119]⟩,⟨#[111,112,101,110]⟩]
def LP:List ByteArray:=[⟨#[42]⟩,⟨#[47]⟩,⟨#[37]⟩]
def LS:List ByteArray:=[⟨#[43]⟩,Zg]
def LC:List ByteArray:=[⟨#[61,61]⟩,⟨#[33,61]⟩,⟨#[60]⟩,⟨#[60,61]⟩,⟨#[62]⟩,⟨#[62,61]⟩]
def LU:List ByteArray:=[Zg,⟨#[33]⟩]
def pOne:List Tk→Option (Tr × List Tk)
 | []=>none
 | t :: ts=>if t.k=2 then some (.mk ⟨2,0,0,0,0,t.x,t.p⟩ [],ts) else if t.k=1∧0≤fnd t.x LF 0 then some (.mk ⟨3,0,0,0,fnd t.x LF 0+1,gE,t.p⟩ [],ts) else pLit (t :: ts)
def pNo (L:List ByteArray):List Tk→Bool
 | []=>false
 | t :: _=>fnd t.x L 0 == -1
def pUn (ts:List Tk):Option (Tr × List Tk):=if pNo LU ts then pOne ts else none
def pRow (L:List ByteArray) (c:Int) (part:List Tk→Option (Tr × List Tk)) (ts:List Tk):Option (Tr × List Tk) :=
 (part ts).bind fun a=>if pNo L a.2 then some a else match a.2 with
  | []=>none
  | t :: us=>(part us).bind fun d=>if pNo L d.2 then some (.mk ⟨6,c+fnd t.x L 0,0,0,0,gE,t.p⟩ [a.1,d.1],d.2) else none
def pNone (L:List ByteArray) (part:List Tk→Option (Tr × List Tk)) (ts:List Tk):Option (Tr × List Tk) :=
 (part ts).bind fun a=>if pNo L a.2 then some a else none
def pEx (ts:List Tk):Option (Tr × List Tk) :=
 pNone [Zf] (pNone [Zd] (pNone [Zc] (pNone LC (pRow LS 6 (pRow LP 8 pUn))))) ts
def pXwhole (s:ByteArray):Option Tr:=(pEx (rdT s)).bind fun a=>match a.2 with
 | []=>none
 | t :: _=>if t.k=0 then some a.1 else none
def pAny (L:List ByteArray):List Tk→Option (Int × List Tk)
 | []=>none
 | t :: ts=>if 0≤fnd t.x L 0 then some (fnd t.x L 0,ts) else none
def pInit (ts:List Tk):Option (Tr × List Tk):=if pIs Zg ts=true then none else pLit ts
def pReg (ts:List Tk):Option (RegT × List Tk) :=
 (pTake Z7 ts).bind fun a=>(pName a.2).bind fun b=>(pAny [Zn,Zp,Zo,Zt,Zj,Zr] b.2).bind fun c=>(pTake ⟨#[61]⟩ c.2).bind fun d=>(pInit d.2).bind fun e=>(pTake Z5 e.2).bind fun f =>
  some (⟨b.1,1+c.1,e.1,a.1⟩,f.2)
def pSlot (ts:List Tk):Option (SlotT × List Tk) :=
 (pTake Z6 ts).bind fun a=>(pName a.2).bind fun b=>(pTake Z5 b.2).bind fun f=>some (⟨b.1,a.1⟩,f.2)
def pDo:List Tk→Option (DoT × List Tk)
 | []=>none
 | t :: ts=>if fnd t.x [Zs,Zi,Zk,Zq,Zl,Zm] 0=4 then (pName ts).bind fun a=>some (⟨5,0,a.1,tr0,tr0,tr0,tr0,t.p⟩,a.2) else none
def pDos:Nat→List Tk→Option (List DoT × List Tk)
 | 0,ts=>(pDo ts).bind fun a=>if pIs Z4 a.2=true then none else some ([a.1],a.2)
 | r+1,ts=>(pDo ts).bind fun a=>if pIs Z4 a.2=true then (pDos r a.2.tail).bind fun b=>some (a.1 :: b.1,b.2) else some ([a.1],a.2)
def pRule (ts:List Tk):Option (RuleT × List Tk) :=
 (pTake Z9 ts).bind fun a=>(pEx a.2).bind fun b=>(pTake ⟨#[100,111]⟩ b.2).bind fun c=>(pDos 7 c.2).bind fun d=>(pTake Z5 d.2).bind fun e=>some (⟨b.1,d.1,a.1⟩,e.2)
def pMany {α:Type}(x:ByteArray) (part:List Tk→Option (α × List Tk)):Nat→List Tk→Option (List α × List Tk)
 | 0,ts=>if pIs x ts=true then none else some ([],ts)
 | r+1,ts=>if pIs x ts=true then (part ts).bind fun a=>(pMany x part r a.2).bind fun b=>some (a.1 :: b.1,b.2) else some ([],ts)
def pState (ts:List Tk):Option (StateT × List Tk) :=
 (pTake Z8 ts).bind fun a=>(pName a.2).bind fun b=>(pTake Ze b.2).bind fun c=>(pMany Z9 pRule 12 c.2).bind fun d=>(pTake Za d.2).bind fun e=>some (⟨b.1,d.1,a.1⟩,e.2)
def pBody (ts:List Tk):Option (StratT × List Tk) :=
 (pTake Zu ts).bind fun a=>(pName a.2).bind fun b=>(pTake Ze b.2).bind fun c=>(pMany Z7 pReg 12 c.2).bind fun d=>(pMany Z6 pSlot 4 d.2).bind fun e=>(pMany Z8 pState 12 e.2).bind fun f=>(pTake Za f.2).bind fun g =>
  if f.1.length=0 then none else some (⟨b.1,d.1,e.1,f.1⟩,g.2)
def pWhole (s:ByteArray):Option StratT:=(pBody (rdT s)).bind fun a=>match a.2 with
 | []=>none
 | t :: _=>if t.k=0 then some a.1 else none
set_option maxRecDepth 100000 in
theorem many_ok {w:World}{b:Nat}{K:PK}{t:Tk}{ts:List Tk}(h:Lv w b K (t :: ts)) (n m:Nat) (hn:n < m) (hm:m≤1000) :
  Calls zG 58 #[zP b,zI n,zI m] w fun e w'=>e=.returned (.bool true)∧w'=w:=by
 obtain⟨i,p,u,h1,h2⟩:=h
 have cO:=over_no h1
 have h3:¬ (m:Int)≤(n:Int):=by omega
 have h4:decide ((m:Int)≤(n:Int))=false:=decide_eq_false h3
 clear h1 h2
 go_enter Tryz.func58,Tryz.ntmps58
 go_wp2_with fail
 refine cO.mono ?_
 rintro e w1 ⟨rfl,rfl⟩
 go_wp2_with fail
 go_ret
 exact⟨rfl,rfl⟩
theorem setRow_oth (V:World) (N:Nat) (cs:Array Value) {k:Nat}(h:k≠N):(V.setRow N cs).heap[k]? = V.heap[k]?:=by
 unfold World.setRow
 simp [Array.getElem?_modify,Ne.symm h]
theorem fold_size (n:Nat):∀ (l:List Value) (k:Nat) (a:Array Value),((l.zipIdx k).foldl (fun cs (q:Value × Nat)=>cs.setIfInBounds (0 * n+q.2) q.1) a).size=a.size
 | [],k,a=>rfl
 | c :: l,k,a=>by
  simp only [List.zipIdx_cons,List.foldl_cons]
  rw [fold_size n l (k+1)]
  simp
theorem fold_get (n:Nat):∀ (l:List Value) (k:Nat) (a:Array Value) (i:Nat),i < a.size→((l.zipIdx k).foldl (fun cs (q:Value × Nat)=>cs.setIfInBounds (0 * n+q.2) q.1) a)[i]? = if k≤i∧i < k+l.length then l[i - k]? else a[i]?
 | [],k,a,i,hi=>by
  rw [if_neg (by simp)]
  rfl
 | c :: l,k,a,i,hi=>by
  simp only [List.zipIdx_cons,List.foldl_cons]
  rw [fold_get n l (k+1) _ i (by simpa using hi)]
  simp only [List.length_cons,Nat.zero_mul,Nat.zero_add]
  by_cases h1:k+1≤i∧i < k+1+l.length
  ·rw [if_pos h1,if_pos (by omega),show i - k=(i - (k+1))+1 by omega]
   rfl
  ·rw [if_neg h1,Array.getElem?_setIfInBounds]
   by_cases h2:k=i
   ·subst h2
    rw [if_pos rfl,if_pos hi,if_pos (by omega),Nat.sub_self]
    rfl
   ·rw [if_neg h2,if_neg (by omega)]
theorem fold_all (n:Nat) (cs a:Array Value) (h:a.size=cs.size):cs.zipIdx.foldl (fun (x:Array Value) (q:Value × Nat)=>x.setIfInBounds (0 * n+q.2) q.1) a=cs:=by
 obtain⟨l⟩:=cs
 simp only [List.size_toArray] at h
 have e:(Array.mk l).zipIdx.foldl (fun (x:Array Value) (q:Value × Nat)=>x.setIfInBounds (0 * n+q.2) q.1) a=(l.zipIdx 0).foldl (fun (x:Array Value) (q:Value × Nat)=>x.setIfInBounds (0 * n+q.2) q.1) a:=by
  rw [← Array.foldl_toList]
  simp
 rw [e]
 apply Array.ext_getElem?
 intro i
 by_cases hi:i < a.size
 ·rw [fold_get n l 0 a i hi,if_pos (by omega)]
  simp
 ·rw [Array.getElem?_eq_none (by rw [fold_size]; omega),Array.getElem?_eq_none (by simp; omega)]
theorem wpList_slice1 {w:World}{ops:Array Oper}{rest:List Oper}{o:Oper}{a:Act}{Q:Exit→Act→World→Prop}(hgd:o.guard=none) (t e:TypeId) (x:Operand) (ho:o.op=.buildSlice t 1 #[(0,x)])
  (cs:Array Value) (hx:a.eval x=.agg cs) (n:Nat) (z:Value) (ht:Tryz.prog.underlying t=some (.slice e)) (by_:Nat) (hi:(Tryz.prog.info? e).map (fun i=>(i.zero,i.size,i.bytes))=some (some z,n,by_)) (hz:z.cells.size=n) (hn:cs.size=n) (h0:0 < n) (h1:n≤1000)
  (h:wpList Tryz.prog ops Q rest (a.put o.dst (.slice (some ⟨w§,0,none⟩) 1 1)) (w.alloc (.cells cs e))):wpList Tryz.prog ops Q (o :: rest) a w:=by
 refine wpList_plain hgd fun Kk hK=>?_
 obtain⟨i0,hi0,hz0,hz1,hz2⟩:=info_parts hi
 have hu:=run_underlying ht w
 have hf:Instr.fill (fun i=>some (i * n,n)) ((Array.range (1 * n)).map (z.cells[· % z.cells.size]!)) [(0,.agg cs)]=some cs:=by
  obtain⟨A,hA⟩:∃ A,(Array.range (1 * n)).map (z.cells[· % z.cells.size]!)=A:=⟨_,rfl⟩
  have hAs:A.size=n:=by rw [← hA]; simp
  rw [hA]
  have e3:Instr.fill (fun i=>some (i * n,n)) A [(0,.agg cs)]=if (decide (cs.size≠n) || decide (0 * n+cs.size > A.size))=true then none else some (cs.zipIdx.foldl (fun (x:Array Value) (q:Value × Nat)=>x.setIfInBounds (0 * n+q.2) q.1) A):=rfl
  rw [e3,if_neg (by simp; omega)]
  exact congrArg some (fold_all n cs _ (by omega))
 have hr:(Instr.buildSlice t 1 #[(0,.agg cs)]).run Tryz.prog w=.ok (.slice (some ⟨w§,0,none⟩) 1 1) (w.alloc (.cells cs e)):=by
  have e1:¬ n > 16777216:=by omega
  have e2:¬ n=0:=by omega
  rw [show (1 * n)=n from Nat.one_mul n] at hf
  simp [Instr.buildSlice,Sem.run_bind,hu,sizeOf,zeroValue,typeInfo,hi0,hz0,hz1,e1,e2,hf,newRow,newObj]
  rfl
 unfold Oper.wp execOp
 simp only [ho,List.map_toArray,List.map_cons,List.map_nil,hx,Sem.run_bind,hr,Result.andThen_ok]
 exact hK _ _ h
theorem owns_blk {V V':World}{e sz:Nat}{v:Value}{n:Nat}{xs:List Value}(h:V.ownsRow 0 e sz v n xs) (k:∀ g,v.ownBlock=some g→V'.heap[g]? = V.heap[g]?):V'.ownsRow 0 e sz v n xs:=by
 obtain⟨h1,h2⟩:=h
 refine⟨h1,?_⟩
 rcases h2 with h2 | ⟨g,cap,cur,hv,q1,q2,q3⟩
 ·exact .inl h2
 ·exact .inr ⟨g,cap,cur,hv,q1,(k g (by rw [hv]; rfl)).trans q2,q3⟩
def slen:Value→Nat
 | .slice _ n _=>n
 | _=>0
end Go.Proofs.YtoogodlnnijikaaGreatDoor
