import Derived.Test.YtfbjofnaghjmeaaGreatDoorA8
import Derived.Test.YtfbjofnaghjmeaaGreatDoorA7
import Derived.Laws.Tables
namespace Go.Proofs.YtfbjofnaghjmeaaGreatDoor
open Go.Proofs.Tryz
set_option maxRecDepth 100000
set_option maxHeartbeats 2000000
open Go.RowKit
set_option linter.unusedVariables false
theorem PP (s:yB) (f d:Nat) (hs:s.size≤140737488355328) (hf:f≤s.size) (hp:oneP s f=d) (hd:d < s.size) (c:UInt8) (hc:s[d]=c) (hl:letB c=true) (w:yW) :
  Calls zG 172 #[.string s,zI f] w fun e w'=>e=.returned (oneV s f)∧yD w w':=by
 have hr:rest s d=c :: rest s (d+1):=by rw [QY s d hd,hc]
 have hne:¬ d=s.size:=by omega
 have KT:Hid (oneT s f=nmT s d):=by show _=_;unfold oneT;rw [hp,if_neg hne,hr];simp [hdB,hl]
 have KE:Hid (oneE s f=nmE s d):=by show _=_;unfold oneE;rw [hp,if_neg hne,hr];simp [hdB,hl]
 have cO:=Km s f hs hf d hp.symm
 have cN:=Hl s d hs (Nat.le_of_lt hd)
 obtain⟨T,eT⟩:∃ T,nmT s d=T:=jV
 obtain⟨E,eE⟩:∃ E,nmE s d=E:=jV
 rw [eT,eE] at cN
 rw [eT] at KT
 rw [eE] at KE
 have KB:Hid (oneB s f=if E=0 then 0 else (d:Int)):=by show _=_;unfold oneB;rw [KE.out,hp]
 have hR:TkH ((zA w (tkA tk0) 233).alloc (.cells (tkA tk0) 233)) w§ tk0:=QC _ _ _
 have hT:TkH ((zA w (tkA tk0) 233).alloc (.cells (tkA tk0) 233)) (w§+1) tk0:=by
  have:=Qc (zA w (tkA tk0) 233) (.cells (tkA tk0) 233)
  rwa [Qe] at this
 have hB:=Qk w (.cells (tkA tk0) 233) (.cells (tkA tk0) 233)
 have HR:=hR.hid
 have HT:=hT.hid
 have HB:=zH hB
 have hd':(d:Int) < (s.size:Int):=by omega
 have hne':((d:Int) == (s.size:Int))=false:=beq_false_of_ne zY
 unfold tkA at cN
 clear hR hT hB hr hp eT eE
 go_enter func172,ntmps172
 go_wp2_with (first | (go_at_call 199;refine (cO _).mono ?_;rintro _ v ⟨rfl,e⟩;obtain rfl:=e.symm) | (go_at_call 123;refine (Jh hl _).mono ?_;rintro _ v ⟨rfl,e⟩;obtain rfl:=e.symm))
 refine (cN _).mono ?_
 rintro _ v ⟨rfl,bb⟩
 have HR2:=(HR.out.onto bb).hid
 have HT2:=(HT.out.onto bb).hid
 have hB2:=HB.out.trans (bb.mono HB.out.size)
 obtain⟨V,eV⟩:∃ V,((((v.setCell ⟨w§+1,0,none⟩ (zU T.k)).setCell ⟨w§+1,1,none⟩ (.string T.x)).setCell ⟨w§+1,2,none⟩ (zU T.ty)).setCell ⟨w§+1,3,none⟩ (zI T.n)).setCell ⟨w§+1,4,none⟩ (zI T.p)=V:=jV
 have HT3:Hid (TkH V (w§+1) T):=by show TkH V _ _;rw [← eV];exact HT2.out.put T
 have HR3:Hid (TkH V w§ tk0):=by
  show TkH V _ _
  rw [← eV]
  refine Eq.trans ?_ HR2.out
  rw [Below.heap_setCell _ _ _ _ (by simp),Below.heap_setCell _ _ _ _ (by simp),Below.heap_setCell _ _ _ _ (by simp),Below.heap_setCell _ _ _ _ (by simp),Below.heap_setCell _ _ _ _ (by simp)]
 have hB4:yD w V:=by rw [← eV];exact Qu hB2 zY _ _ _ _ _
 obtain⟨t0,t1,t2,t3,t4⟩:=HT2.out.cells
 obtain⟨g0,g1,g2,g3,g4⟩:=HT2.out.froz
 clear bb hB2 HR HT HB
 by_cases hE:E=0
 ·have kB:=KB.out
  rw [if_pos hE] at kB
  have hE':(E != 0)=false:=by simp [hE]
  have KE0:Hid (oneE s f=0):=by show _=_;rw [KE.out,hE]
  have KB0:Hid (oneB s f=0):=kB
  subst hE
  clear kB KB KE
  obtain⟨y0,y1,y2,y3,y4⟩:=HT3.out.cells
  obtain⟨r0,r1,r2,r3,r4⟩:=HR3.out.cells
  obtain⟨f0,f1,f2,f3,f4⟩:=HR3.out.froz
  go_wp2
  exact bodyPost_ret (Jc (p:=4) (u:=5) (v:=6) (ty:=233) rfl _ _ w§ 233 (tkA T) (0,0) _ rfl (HR3.out.put T) underlying233 rfl zK) rfl ⟨by unfold oneV;rw [KT.out,KE0.out,KB0.out];rfl,Qu hB4 (Nat.le_refl _) _ _ _ _ _⟩
 ·have kB:=KB.out
  rw [if_neg hE] at kB
  have hE':(E != 0)=true:=by simp [hE]
  have KB0:Hid (oneB s f=(d:Int)):=kB
  clear kB KB hE
  obtain⟨y0,y1,y2,y3,y4⟩:=HT3.out.cells
  obtain⟨r0,r1,r2,r3,r4⟩:=HR3.out.cells
  obtain⟨f0,f1,f2,f3,f4⟩:=HR3.out.froz
  go_wp2
  exact bodyPost_ret (Jc (p:=4) (u:=5) (v:=6) (ty:=233) rfl _ _ w§ 233 (tkA T) (0,0) _ rfl (HR3.out.put T) underlying233 rfl zK) rfl ⟨by unfold oneV;rw [KT.out,KE.out,KB0.out];rfl,Qu hB4 (Nat.le_refl _) _ _ _ _ _⟩
theorem Qac (s:yB) (f d:Nat) (hs:s.size≤140737488355328) (hf:f≤s.size) (hp:oneP s f=d) (hd:d < s.size) (c:UInt8) (hc:s[d]=c) (hl:letB c=false) (hg:digB c=true) (w:yW) :
  Calls zG 172 #[.string s,zI f] w fun e w'=>e=.returned (oneV s f)∧yD w w':=by
 have hr:rest s d=c :: rest s (d+1):=by rw [QY s d hd,hc]
 have hne:¬ d=s.size:=by omega
 have KT:Hid (oneT s f=nbT s d):=by show _=_;unfold oneT;rw [hp,if_neg hne,hr];simp [hdB,hl,hg]
 have KE:Hid (oneE s f=nbE s d):=by show _=_;unfold oneE;rw [hp,if_neg hne,hr];simp [hdB,hl,hg]
 have cO:=Km s f hs hf d hp.symm
 have cN:=VB s d hs hd
 obtain⟨T,eT⟩:∃ T,nbT s d=T:=jV
 obtain⟨E,eE⟩:∃ E,nbE s d=E:=jV
 rw [eT,eE] at cN
 rw [eT] at KT
 rw [eE] at KE
 have KB:Hid (oneB s f=if E=0 then 0 else (d:Int)):=by show _=_;unfold oneB;rw [KE.out,hp]
 have hR:TkH ((zA w (tkA tk0) 233).alloc (.cells (tkA tk0) 233)) w§ tk0:=QC _ _ _
 have hT:TkH ((zA w (tkA tk0) 233).alloc (.cells (tkA tk0) 233)) (w§+1) tk0:=by
  have:=Qc (zA w (tkA tk0) 233) (.cells (tkA tk0) 233)
  rwa [Qe] at this
 have hB:=Qk w (.cells (tkA tk0) 233) (.cells (tkA tk0) 233)
 have HR:=hR.hid
 have HT:=hT.hid
 have HB:=zH hB
 have hd':(d:Int) < (s.size:Int):=by omega
 have hne':((d:Int) == (s.size:Int))=false:=beq_false_of_ne zY
 unfold tkA at cN
 clear hR hT hB hr hp eT eE
 go_enter func172,ntmps172
 go_wp2_with (first | (go_at_call 199;refine (cO _).mono ?_;rintro _ v ⟨rfl,e⟩;obtain rfl:=e.symm) | (go_at_call 123;refine (Jh hl _).mono ?_;rintro _ v ⟨rfl,e⟩;obtain rfl:=e.symm) | (go_at_call 169;refine (Qv hg _).mono ?_;rintro _ v ⟨rfl,e⟩;obtain rfl:=e.symm))
 refine (cN _).mono ?_
 rintro _ v ⟨rfl,bb⟩
 have HR2:=(HR.out.onto bb).hid
 have HT2:=(HT.out.onto bb).hid
 have hB2:=HB.out.trans (bb.mono HB.out.size)
 obtain⟨V,eV⟩:∃ V,((((v.setCell ⟨w§+1,0,none⟩ (zU T.k)).setCell ⟨w§+1,1,none⟩ (.string T.x)).setCell ⟨w§+1,2,none⟩ (zU T.ty)).setCell ⟨w§+1,3,none⟩ (zI T.n)).setCell ⟨w§+1,4,none⟩ (zI T.p)=V:=jV
 have HT3:Hid (TkH V (w§+1) T):=by show TkH V _ _;rw [← eV];exact HT2.out.put T
 have HR3:Hid (TkH V w§ tk0):=by
  show TkH V _ _
  rw [← eV]
  refine Eq.trans ?_ HR2.out
  rw [Below.heap_setCell _ _ _ _ (by simp),Below.heap_setCell _ _ _ _ (by simp),Below.heap_setCell _ _ _ _ (by simp),Below.heap_setCell _ _ _ _ (by simp),Below.heap_setCell _ _ _ _ (by simp)]
 have hB4:yD w V:=by rw [← eV];exact Qu hB2 zY _ _ _ _ _
 obtain⟨t0,t1,t2,t3,t4⟩:=HT2.out.cells
 obtain⟨g0,g1,g2,g3,g4⟩:=HT2.out.froz
 clear bb hB2 HR HT HB
 by_cases hE:E=0
 ·have kB:=KB.out
  rw [if_pos hE] at kB
  have hE':(E != 0)=false:=by simp [hE]
  have KE0:Hid (oneE s f=0):=by show _=_;rw [KE.out,hE]
  have KB0:Hid (oneB s f=0):=kB
  subst hE
  clear kB KB KE
  obtain⟨y0,y1,y2,y3,y4⟩:=HT3.out.cells
  obtain⟨r0,r1,r2,r3,r4⟩:=HR3.out.cells
  obtain⟨f0,f1,f2,f3,f4⟩:=HR3.out.froz
  go_wp2
  exact bodyPost_ret (Jc (p:=4) (u:=5) (v:=6) (ty:=233) rfl _ _ w§ 233 (tkA T) (0,0) _ rfl (HR3.out.put T) underlying233 rfl zK) rfl ⟨by unfold oneV;rw [KT.out,KE0.out,KB0.out];rfl,Qu hB4 (Nat.le_refl _) _ _ _ _ _⟩
 ·have kB:=KB.out
  rw [if_neg hE] at kB
  have hE':(E != 0)=true:=by simp [hE]
  have KB0:Hid (oneB s f=(d:Int)):=kB
  clear kB KB hE
  obtain⟨y0,y1,y2,y3,y4⟩:=HT3.out.cells
  obtain⟨r0,r1,r2,r3,r4⟩:=HR3.out.cells
  obtain⟨f0,f1,f2,f3,f4⟩:=HR3.out.froz
  go_wp2
  exact bodyPost_ret (Jc (p:=4) (u:=5) (v:=6) (ty:=233) rfl _ _ w§ 233 (tkA T) (0,0) _ rfl (HR3.out.put T) underlying233 rfl zK) rfl ⟨by unfold oneV;rw [KT.out,KE.out,KB0.out];rfl,Qu hB4 (Nat.le_refl _) _ _ _ _ _⟩
theorem PQ (s:yB) (f d:Nat) (hs:s.size≤140737488355328) (hf:f≤s.size) (hp:oneP s f=d) (hd:d < s.size) (c:UInt8) (hc:s[d]=c) (hl:letB c=false) (hg:digB c=false) (w:yW) :
  Calls zG 172 #[.string s,zI f] w fun e w'=>e=.returned (oneV s f)∧yD w w':=by
 have hr:rest s d=c :: rest s (d+1):=by rw [QY s d hd,hc]
 have hne:¬ d=s.size:=by omega
 have KT:Hid (oneT s f=mkT s d):=by show _=_;unfold oneT;rw [hp,if_neg hne,hr];simp [hdB,hl,hg]
 have KE:Hid (oneE s f=mkE s d):=by show _=_;unfold oneE;rw [hp,if_neg hne,hr];simp [hdB,hl,hg]
 have cO:=Km s f hs hf d hp.symm
 have cN:=PS s d hs (Nat.le_of_lt hd)
 obtain⟨T,eT⟩:∃ T,mkT s d=T:=jV
 obtain⟨E,eE⟩:∃ E,mkE s d=E:=jV
 rw [eT,eE] at cN
 rw [eT] at KT
 rw [eE] at KE
 have KB:Hid (oneB s f=if E=0 then 0 else (d:Int)):=by show _=_;unfold oneB;rw [KE.out,hp]
 have hR:TkH ((zA w (tkA tk0) 233).alloc (.cells (tkA tk0) 233)) w§ tk0:=QC _ _ _
 have hT:TkH ((zA w (tkA tk0) 233).alloc (.cells (tkA tk0) 233)) (w§+1) tk0:=by
  have:=Qc (zA w (tkA tk0) 233) (.cells (tkA tk0) 233)
  rwa [Qe] at this
 have hB:=Qk w (.cells (tkA tk0) 233) (.cells (tkA tk0) 233)
 have HR:=hR.hid
 have HT:=hT.hid
 have HB:=zH hB
 have hd':(d:Int) < (s.size:Int):=by omega
 have hne':((d:Int) == (s.size:Int))=false:=beq_false_of_ne zY
 unfold tkA at cN
 clear hR hT hB hr hp eT eE
 go_enter func172,ntmps172
 go_wp2_with (first | (go_at_call 199;refine (cO _).mono ?_;rintro _ v ⟨rfl,e⟩;obtain rfl:=e.symm) | (go_at_call 123;refine (Jh hl _).mono ?_;rintro _ v ⟨rfl,e⟩;obtain rfl:=e.symm) | (go_at_call 169;refine (Qv hg _).mono ?_;rintro _ v ⟨rfl,e⟩;obtain rfl:=e.symm))
 refine (cN _).mono ?_
 rintro _ v ⟨rfl,bb⟩
 have HR2:=(HR.out.onto bb).hid
 have HT2:=(HT.out.onto bb).hid
 have hB2:=HB.out.trans (bb.mono HB.out.size)
 obtain⟨V,eV⟩:∃ V,((((v.setCell ⟨w§+1,0,none⟩ (zU T.k)).setCell ⟨w§+1,1,none⟩ (.string T.x)).setCell ⟨w§+1,2,none⟩ (zU T.ty)).setCell ⟨w§+1,3,none⟩ (zI T.n)).setCell ⟨w§+1,4,none⟩ (zI T.p)=V:=jV
 have HT3:Hid (TkH V (w§+1) T):=by show TkH V _ _;rw [← eV];exact HT2.out.put T
 have HR3:Hid (TkH V w§ tk0):=by
  show TkH V _ _
  rw [← eV]
  refine Eq.trans ?_ HR2.out
  rw [Below.heap_setCell _ _ _ _ (by simp),Below.heap_setCell _ _ _ _ (by simp),Below.heap_setCell _ _ _ _ (by simp),Below.heap_setCell _ _ _ _ (by simp),Below.heap_setCell _ _ _ _ (by simp)]
 have hB4:yD w V:=by rw [← eV];exact Qu hB2 zY _ _ _ _ _
 obtain⟨t0,t1,t2,t3,t4⟩:=HT2.out.cells
 obtain⟨g0,g1,g2,g3,g4⟩:=HT2.out.froz
 clear bb hB2 HR HT HB
 by_cases hE:E=0
 ·have kB:=KB.out
  rw [if_pos hE] at kB
  have hE':(E != 0)=false:=by simp [hE]
  have KE0:Hid (oneE s f=0):=by show _=_;rw [KE.out,hE]
  have KB0:Hid (oneB s f=0):=kB
  subst hE
  clear kB KB KE
  obtain⟨y0,y1,y2,y3,y4⟩:=HT3.out.cells
  obtain⟨r0,r1,r2,r3,r4⟩:=HR3.out.cells
  obtain⟨f0,f1,f2,f3,f4⟩:=HR3.out.froz
  go_wp2
  exact bodyPost_ret (Jc (p:=4) (u:=5) (v:=6) (ty:=233) rfl _ _ w§ 233 (tkA T) (0,0) _ rfl (HR3.out.put T) underlying233 rfl zK) rfl ⟨by unfold oneV;rw [KT.out,KE0.out,KB0.out];rfl,Qu hB4 (Nat.le_refl _) _ _ _ _ _⟩
 ·have kB:=KB.out
  rw [if_neg hE] at kB
  have hE':(E != 0)=true:=by simp [hE]
  have KB0:Hid (oneB s f=(d:Int)):=kB
  clear kB KB hE
  obtain⟨y0,y1,y2,y3,y4⟩:=HT3.out.cells
  obtain⟨r0,r1,r2,r3,r4⟩:=HR3.out.cells
  obtain⟨f0,f1,f2,f3,f4⟩:=HR3.out.froz
  go_wp2
  exact bodyPost_ret (Jc (p:=4) (u:=5) (v:=6) (ty:=233) rfl _ _ w§ 233 (tkA T) (0,0) _ rfl (HR3.out.put T) underlying233 rfl zK) rfl ⟨by unfold oneV;rw [KT.out,KE.out,KB0.out];rfl,Qu hB4 (Nat.le_refl _) _ _ _ _ _⟩
theorem Qad (s:yB) (f:Nat) (hs:s.size≤140737488355328) (hf:f≤s.size) (hp:oneP s f=s.size) (w:yW) :
  Calls zG 172 #[.string s,zI f] w fun e w'=>e=.returned (oneV s f)∧yD w w':=by
 have KT:Hid (oneT s f=⟨0,⟨#[]⟩,0,0,s.size⟩):=by show _=_;unfold oneT;rw [hp,if_pos rfl]
 have KE:Hid (oneE s f=0):=by show _=_;unfold oneE;rw [if_pos hp]
 have KB:Hid (oneB s f=0):=by show _=_;unfold oneB;rw [if_pos KE.out]
 have cO:=Km s f hs hf s.size hp.symm
 go_enter func172,ntmps172
 go_wp2_with (go_at_call 199;refine (cO _).mono ?_;rintro _ v ⟨rfl,e⟩;obtain rfl:=e.symm)
 exact bodyPost_ret (Jc (p:=4) (u:=5) (v:=6) (ty:=233) rfl _ _ w§ 233 (tkA ⟨0,⟨#[]⟩,0,0,s.size⟩) (0,0) _ rfl (Qc w _) underlying233 rfl zK) rfl ⟨by unfold oneV;rw [KT.out,KE.out,KB.out];rfl,Qb w _⟩
theorem Qae (s:yB) (f:Nat) (hs:s.size≤140737488355328) (hf:f≤s.size) (w:yW) :
  Calls zG 172 #[.string s,zI f] w fun e w'=>e=.returned (oneV s f)∧yD w w':=by
 by_cases h:oneP s f=s.size
 ·exact Qad s f hs hf h w
 ·have hd:oneP s f < s.size:=by have:=XC s f hf;omega
  cases hl:letB s[oneP s f]
  ·cases hg:digB s[oneP s f]
   ·exact PQ s f _ hs hf rfl hd _ rfl hl hg w
   ·exact Qac s f _ hs hf rfl hd _ rfl hl hg w
  ·exact PP s f _ hs hf rfl hd _ rfl hl w
theorem Ho (s:yB) (hs:s.size≤1000000) (w:yW) :
  Calls zG 134 #[.string s] w fun e w'=>∃ v,e=.returned (.tuple #[v,zI (begO s 0).2.1,zI (begO s 0).2.2])∧RL w w' v (begO s 0).1:=by
 go_enter func134,ntmps134
 go_wp2_with fail
 go_loopw [5,6] (fun l i wr=>∃ (L:List Tk) (k:Nat),k≤s.size∧i=zI k∧L.length≤k∧RL w wr l L∧Hid (begO s 0=(L ++ (begO s k).1,(begO s k).2))) (fun _ i _=>s.size - (intOf i).toNat)
 case atStart=>exact⟨[],0,by omega,rfl,Nat.le_refl _,RL.nil w,by show _=_;rfl⟩
 case round =>
  obtain⟨L,k,hk,rfl,hL,hR,HG⟩:=hrel
  have cO:=Qae s k zY hk
  unfold oneV at cO
  obtain⟨T,eT⟩:∃ T,oneT s k=T:=jV
  obtain⟨E,eE⟩:∃ E,oneE s k=E:=jV
  obtain⟨B,eB⟩:∃ B,oneB s k=B:=jV
  rw [eT,eE,eB] at cO
  unfold tkA at cO
  have HX:=hR.hid
  have KT:Hid (oneT s k=T):=eT
  have KE:Hid (oneE s k=E):=eE
  have KB:Hid (oneB s k=B):=eB
  clear hR eT eE eB
  go_wp2_with fail
  refine (cO _).mono ?_
  rintro _ v ⟨rfl,bb⟩
  have HX2:=(HX.out.call bb).hid
  clear bb HX cO
  by_cases hE:E=0
  ·have hE':(E != 0)=false:=by simp [hE]
   subst hE
   have HX3:=(HX2.out.alloc (.cells (tkA T) 233)).hid
   have HT:Hid (TkH (zA v (tkA T) 233) v§ T):=Qc _ _
   have HN:=zH HX2.out.row.lt
   by_cases hk0:T.k=0
   ·have e0:(T.k == 0)=true:=by simp [hk0]
    have K:Hid (begO s 0=(L ++ [T],0,0)):=by
     show _=_
     rw [HG.out,Um KE.out (by rw [KT.out];exact hk0),KT.out]
    clear HG KT KE KB hk0
    go_wp2_with (at_builtin;refine Up rfl (.tmp 22) (.tmp 24) rfl T HX3.out rfl (by show Value.slice (some ⟨v§+1,0,none⟩) 1 1=_;rw [Qe]) zY ?_;intro v1 w1 hr1 hs1 hk1;have HX1:=hr1.hid;have HT1:Hid (TkH w1 v§ T):=(hk1 _ (by simp) (fun e=>by have:=HN.out _ e;omega)).trans HT.out;obtain⟨y0,y1,y2,y3,y4⟩:=HT1.out.cells;clear hk1 hs1 hr1)
    exact bodyPost_ret (U4 (p:=2) (u:=3) (v:=4) rfl _ _) rfl ⟨_,by rw [K.out];rfl,by rw [K.out];exact HX1.out⟩
   ·have e0:(T.k == 0)=false:=by simp [hk0]
    obtain⟨q1,q2,q3,q4⟩:=Xq hk KE.out (by rw [KT.out];exact hk0)
    obtain⟨Q,eQ⟩:∃ Q,oneQ s k=Q:=jV
    rw [KT.out,eQ] at q3
    rw [KT.out,eQ] at q4
    rw [eQ] at q1 q2
    have K:Hid (begO s 0=((L ++ [T]) ++ (begO s Q).1,(begO s Q).2)):=by
     show _=_
     rw [HG.out,q4]
     simp
    clear HG KT KE KB hk0 q4
    go_wp2_with (at_builtin;refine Up rfl (.tmp 22) (.tmp 24) rfl T HX3.out rfl (by show Value.slice (some ⟨v§+1,0,none⟩) 1 1=_;rw [Qe]) zY ?_;intro v1 w1 hr1 hs1 hk1;have HX1:=hr1.hid;have HT1:Hid (TkH w1 v§ T):=(hk1 _ (by simp) (fun e=>by have:=HN.out _ e;omega)).trans HT.out;obtain⟨y0,y1,y2,y3,y4⟩:=HT1.out.cells;clear hk1 hs1 hr1)
    exact⟨⟨L ++ [T],Q,q2,by go_num,by simp;omega,HX1.out,K⟩,by simp only [intOf];omega⟩
  ·have hE':(E != 0)=true:=by simp [hE]
   have K:Hid (begO s 0=(L,E,B)):=by
    show _=_
    rw [HG.out,Un (by rw [KE.out];exact hE),KE.out,KB.out]
    simp
   have HX3:=(HX2.out.alloc (.cells (tkA T) 233)).hid
   clear HG KT KE KB hE
   go_wp2
   exact bodyPost_ret (U4 (p:=2) (u:=3) (v:=4) rfl _ _) rfl ⟨_,by rw [K.out];rfl,by rw [K.out];exact HX3.out⟩
set_option maxHeartbeats 4000000
theorem RowL.tk {w:yW}{v:Value}{L:List Tk}(h:RowL w v L):∃ a c,v=.slice a L.length c∧∀ j (hj:j < L.length),∃ G,a=some G¢0∧v.ownBlock=some G∧TkC w G (0+j * 5) L[j]:=by
 obtain⟨a,c,e,h1,h2⟩:=Row.form h
 refine⟨a,c,e,fun j hj=>?_⟩
 obtain⟨G,eG⟩:=h1 zY
 subst eG e
 refine⟨G,rfl,rfl,?_⟩
 have key:∀ i,i < 5→zQ w ⟨G,0+j * 5+i,none⟩ (tkF (lsF L) (j * 5+i)):=fun i hi=>by
  have:=Row.cell h (j:=j * 5+i) zY
  rw [show 0+j * 5+i=j * 5+i by omega]
  exact this
 have e1:lsF L j=L[j]:=by
  unfold lsF
  rw [List.getD_eq_getElem?_getD,List.getElem?_eq_getElem hj]
  rfl
 have f:∀ i,i < 5→tkF (lsF L) (j * 5+i)=if i=0 then zU L[j].k else if i=1 then .string L[j].x else if i=2 then zU L[j].ty else if i=3 then zI L[j].n else zI L[j].p:=fun i hi=>by
  unfold tkF
  rw [show (j * 5+i) % 5=i by omega,show (j * 5+i) / 5=j by omega,e1]
 refine⟨?_,?_,?_,?_,?_⟩
 ·have:=key 0 zY;rw [f 0 zY] at this;exact this
 ·have:=key 1 zY;rw [f 1 zY] at this;exact this
 ·have:=key 2 zY;rw [f 2 zY] at this;exact this
 ·have:=key 3 zY;rw [f 3 zY] at this;exact this
 ·have:=key 4 zY;rw [f 4 zY] at this;exact this
theorem QgT (s:yB) (hs:s.size≤4096) (w:yW):Calls zG 85 #[.string s] w fun e w'=>∃ b K,e=.returned (zP b)∧w§≤b∧Lv w' b K (rdT s)∧KG K∧yD w w':=by
 have h1:¬ (s.size:Int) > 4096:=by omega
 have h2:decide (4096 < (s.size:Int))=false:=decide_eq_false zY
 have cB:=Ho s zY w
 have HR:Hid (rdT s=(begO s 0).1):=Hp hs
 clear hs
 go_enter func85,ntmps85
 go_wp2_with fail
 refine cB.mono ?_
 rintro e w1 ⟨v,rfl,hr⟩
 obtain⟨a,c,rfl,ht⟩:=hr.row.tk
 have HT:=zH ht
 have HB:=zH hr.B
 clear cB hr ht
 go_wp2
 go_ret
 have hL:=Qf1 s
 rw [HR.out] at hL
 have hn:=Qb w1 (.cells #[.slice a (begO s 0).1.length c,zI (begO s 0).2.1,zI (begO s 0).2.2,zI 0,zI 0,zI 0,.bool false] 168)
 refine⟨w1§,⟨a,c,(begO s 0).1,(begO s 0).2.1,(begO s 0).2.2,false⟩,rfl,HB.out.size,?_,⟨⟨fun t ht=>?_,hL⟩,fun t ht=>?_⟩,Qd HB.out hn⟩
 ·rw [HR.out]
  refine⟨0,0,false,⟨Qc _ _,Nat.zero_le _,by show (begO s 0).1.length≤_;omega,(fun h=>by cases h),fun j hj=>?_⟩,rfl⟩
  obtain⟨G,e1,e2,e3⟩:=HT.out j hj
  have:=e3.lt
  exact⟨G,0,e1,by omega,e3.blk (hn.block _ this)⟩
 ·exact⟨QhQ s t (by rw [HR.out];exact ht)⟩
 ·exact QhR s t (by rw [HR.out];exact ht)
theorem end_y {w:yW}{b:Nat}{K:PK}{t:Tk}{ts:List Tk}(h:Lv w b K (t :: ts)) (hk:t.k=0) :
  Calls zG 143 #[zP b] w fun e w'=>e=.returned (.tuple #[])∧Lv w' b K (t :: ts)∧Mv w w' (fun k=>k=b):=by
 have HH:=h.hid
 obtain⟨i,p,u,h1,h2⟩:=h
 have cO:=XB h1
 have hg:K.T[i]? = some t:=by
  have:=congrArg (fun l=>l[0]?) h2
  simp at this
  exact this.symm
 obtain⟨hi,etk⟩:=List.getElem?_eq_some_iff.1 hg
 obtain⟨G,o,ea,hn,ht⟩:=h1.r i hi
 rw [etk] at ht
 have c0:zQ w b¢0 (.slice (some G¢o) K.T.length K.c):=by rw [← ea];exact Qa h1.h 0
 have c3:zQ w b¢3 (zI i):=Qa h1.h 3
 have y0:=ht.c0
 have hd:¬ (K.T.length:Int)≤(i:Int):=by omega
 have hd':decide ((K.T.length:Int)≤(i:Int))=false:=decide_eq_false hd
 have hi':(i:Int) < (K.T.length:Int):=by omega
 clear h1 h2 hg etk ea ht
 rw [hk] at y0
 go_enter func143,ntmps143
 go_wp2_with fail
 refine cO.mono ?_
 rintro e w1 ⟨rfl,rfl⟩
 clear cO
 go_upto_region 1 with fail
 go_quiet (fail)
 obtain⟨V,eV⟩:∃ V,w1.drewN nq=V:=jV
 have HHV:=(HH.out.blk (w':=V) (fun _ _=>by rw [← eV];rfl)).hid
 have HMV:Hid (Mv w1 V (fun k=>k=b)):=by rw [← eV];exact⟨rfl,rfl,rfl,Nat.le_refl _,fun _ _ _=>rfl⟩
 rw [eV]
 clear eV c0 c3 y0
 go_wp2_with fail
 go_end0
 exact⟨rfl,HHV.out,HMV.out⟩
theorem X9 {w:yW}{b:Nat}{K:PK}{t:Tk}{ts:List Tk}(h:Lv w b K (t :: ts)) (n m:Nat) (hn:n < m) (hm:m≤1000) :
  Calls zG 138 #[zP b,zI n,zI m] w fun e w'=>e=.returned (.bool true)∧w'=w:=by
 obtain⟨i,p,u,h1,h2⟩:=h
 have cO:=XB h1
 have h3:¬ (m:Int)≤(n:Int):=by omega
 have h4:decide ((m:Int)≤(n:Int))=false:=decide_eq_false h3
 clear h1 h2
 go_enter func138,ntmps138
 go_wp2_with fail
 refine cO.mono ?_
 rintro e w1 ⟨rfl,rfl⟩
 go_wp2
 go_ret
 exact⟨rfl,rfl⟩
theorem QV (V:yW) (N:Nat) (cs:Array Value) {k:Nat}(h:k≠N):(V.setRow N cs).heap[k]? = V.heap[k]?:=by
 unfold World.setRow
 simp [Array.getElem?_modify,Ne.symm h]
theorem V6 (n:Nat):∀ (l:List Value) (k:Nat) (a:Array Value),((l.zipIdx k).foldl (fun cs (q:Value × Nat)=>cs.setIfInBounds (0 * n+q.2) q.1) a).size=a.size
 | [],k,a=>rfl
 | c :: l,k,a=>by
  simp only [List.zipIdx_cons,List.foldl_cons]
  rw [V6 n l (k+1)]
  simp
theorem Fr (n:Nat):∀ (l:List Value) (k:Nat) (a:Array Value) (i:Nat),i < a.size→((l.zipIdx k).foldl (fun cs (q:Value × Nat)=>cs.setIfInBounds (0 * n+q.2) q.1) a)[i]? = if k≤i∧i < k+l.length then l[i - k]? else a[i]?
 | [],k,a,i,hi=>by
  rw [if_neg (by simp)]
  rfl
 | c :: l,k,a,i,hi=>by
  simp only [List.zipIdx_cons,List.foldl_cons]
  rw [Fr n l (k+1) _ i (by simpa using hi)]
  simp only [List.length_cons,Nat.zero_mul,Nat.zero_add]
  by_cases h1:k+1≤i∧i < k+1+l.length
  ·rw [if_pos h1,if_pos zY,show i - k=(i - (k+1))+1 by omega]
   rfl
  ·rw [if_neg h1,Array.getElem?_setIfInBounds]
   by_cases h2:k=i
   ·subst h2
    rw [if_pos rfl,if_pos hi,if_pos zY,Nat.sub_self]
    rfl
   ·rw [if_neg h2,if_neg zY]
theorem QeR (n:Nat) (cs a:Array Value) (h:a.size=cs.size):cs.zipIdx.foldl (fun (x:Array Value) (q:Value × Nat)=>x.setIfInBounds (0 * n+q.2) q.1) a=cs:=by
 obtain⟨l⟩:=cs
 simp only [List.size_toArray] at h
 have e:(Array.mk l).zipIdx.foldl (fun (x:Array Value) (q:Value × Nat)=>x.setIfInBounds (0 * n+q.2) q.1) a=(l.zipIdx 0).foldl (fun (x:Array Value) (q:Value × Nat)=>x.setIfInBounds (0 * n+q.2) q.1) a:=by
  rw [← Array.foldl_toList]
  simp
 rw [e]
 apply Array.ext_getElem?
 intro i
 by_cases hi:i < a.size
 ·rw [Fr n l 0 a i hi,if_pos zY]
  simp
 ·rw [Array.getElem?_eq_none (by rw [V6];omega),Array.getElem?_eq_none (by simp;omega)]
theorem Jb {w:yW}{ops:Array Oper}{rest:List Oper}{o:Oper}{a:Act}{Q:Exit→Act→yW→Prop}(hgd:o.guard=none) (t e:TypeId) (x:Operand) (ho:o.op=.buildSlice t 1 #[(0,x)])
  (cs:Array Value) (hx:a.eval x=.agg cs) (n:Nat) (z:Value) (ht:Tryz.prog.underlying t=some (.slice e)) (by_:Nat) (hi:(Tryz.prog.info? e).map (fun i=>(i.zero,i.size,i.bytes))=some (some z,n,by_)) (hz:z.cells.size=n) (hn:cs.size=n) (h0:0 < n) (h1:n≤1000)
  (h:wpList zG ops Q rest (a.put o.dst (.slice (some w§¢0) 1 1)) (zA w cs e)):wpList zG ops Q (o :: rest) a w:=by
 refine wpList_plain hgd fun Kk hK=>?_
 obtain⟨i0,hi0,hz0,hz1,hz2⟩:=info_parts hi
 have hu:=run_underlying ht w
 have hf:Instr.fill (fun i=>some (i * n,n)) ((Array.range (1 * n)).map (z.cells[· % z.cells.size]!)) [(0,.agg cs)]=some cs:=by
  obtain⟨A,hA⟩:∃ A,(Array.range (1 * n)).map (z.cells[· % z.cells.size]!)=A:=jV
  have hAs:A.size=n:=by rw [← hA];simp
  rw [hA]
  have e3:Instr.fill (fun i=>some (i * n,n)) A [(0,.agg cs)]=if (decide (cs.size≠n) || decide (0 * n+cs.size > A.size))=true then none else some (cs.zipIdx.foldl (fun (x:Array Value) (q:Value × Nat)=>x.setIfInBounds (0 * n+q.2) q.1) A):=rfl
  rw [e3,if_neg (by simp;omega)]
  exact congrArg some (QeR n cs _ zY)
 have hr:(Instr.buildSlice t 1 #[(0,.agg cs)]).run zG w=.ok (.slice (some w§¢0) 1 1) (zA w cs e):=by
  have e1:¬ n > 16777216:=by omega
  have e2:¬ n=0:=by omega
  rw [show (1 * n)=n from Nat.one_mul n] at hf
  simp [Instr.buildSlice,Sem.run_bind,hu,sizeOf,zeroValue,typeInfo,hi0,hz0,hz1,e1,e2,hf,newRow,newObj]
  rfl
 unfold Oper.wp execOp
 simp only [ho,List.map_toArray,List.map_cons,List.map_nil,hx,Sem.run_bind,hr,Result.andThen_ok]
 exact hK _ _ h
theorem P5 {V V':yW}{e sz:Nat}{v:Value}{n:Nat}{xs:List Value}(h:V.ownsRow 0 e sz v n xs) (k:∀ g,v.ownBlock=some g→V'.heap[g]? = V.heap[g]?):V'.ownsRow 0 e sz v n xs:=by
 obtain⟨h1,h2⟩:=h
 refine⟨h1,?_⟩
 rcases h2 with h2 | ⟨g,cap,cur,hv,q1,q2,q3⟩
 ·exact .inl h2
 ·exact .inr ⟨g,cap,cur,hv,q1,(k g (by rw [hv];rfl)).trans q2,q3⟩
def slen:Value→Nat
 | .slice _ n _=>n
 | _=>0
end Go.Proofs.YtfbjofnaghjmeaaGreatDoor
