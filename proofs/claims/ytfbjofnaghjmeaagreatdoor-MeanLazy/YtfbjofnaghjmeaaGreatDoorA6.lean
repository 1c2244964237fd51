import Derived.Test.YtfbjofnaghjmeaaGreatDoorA5
import Derived.Test.YtfbjofnaghjmeaaGreatDoorA4
namespace Go.Proofs.YtfbjofnaghjmeaaGreatDoor
open Go.Proofs.Tryz
set_option maxRecDepth 100000
set_option maxHeartbeats 2000000
open Go.RowKit
def fsT (s:yB) (f:Nat):Tk:=if oneE s f=0 then oneT s f else tkP (oneP s f)
def fsV (s:yB) (f:Nat):Value:=.tuple #[.agg (tkA (fsT s f)),zI (oneE s f)]
theorem Qcw (s:yB) (f:Nat) (hs:s.size≤140737488355328) (hf:f≤s.size) (w:yW) (ht:Tab w) :
  Calls zG 221 #[.string s,zI f] w fun e w'=>e=.returned (fsV s f)∧yD w w':=by
 obtain⟨d,hd⟩:∃ d,oneP s f=d:=jV
 have hdl:d≤s.size:=by rw [← hd];exact XC s f hf
 have cS:=QbZ s f hs hf d hd.symm
 obtain⟨W,eW,HR,HB,hz⟩:=QbL w
 obtain⟨r0,r1,r2,r3,r4⟩:=HR.out.cells
 obtain⟨f0,f1,f2,f3,f4⟩:=HR.out.froz
 by_cases h0:d=s.size
 ·have K:Hid (fsV s f=.tuple #[.agg (tkA (tkP d)),zI 0]):=by
   show _=_
   have e0:oneE s f=0:=by unfold oneE;rw [hd,if_pos h0]
   unfold fsV fsT
   rw [e0,if_pos rfl]
   unfold oneT
   rw [hd,if_pos h0];rfl
  have h0':((d:Int) == (s.size:Int))=true:=by rw [h0];simp
  clear hd h0
  go_enter func221,ntmps221
  go_wp2_with (go_at_call 226;refine (cS _).mono ?_;rintro _ v ⟨rfl,q⟩;obtain rfl:=q.symm)
  exact bodyPost_ret (Qi (p:=4) (u:=5) (ty:=233) rfl _ _ w§ 233 (tkA (tkP d)) (0,0) _ rfl (HR.out.put (tkP d)) underlying233 rfl zK) rfl ⟨by rw [K.out];rfl,Qu HB.out (Nat.le_refl _) _ _ _ _ _⟩
 ·have h0':((d:Int) == (s.size:Int))=false:=beq_false_of_ne zY
  have hlt:d < s.size:=by omega
  have hlt':(d:Int) < (s.size:Int):=by omega
  obtain⟨c,hc⟩:∃ c,s[d]=c:=jV
  have hl:=Qbw hlt hc letB
  have hg:=Qbw hlt hc digB
  have hTW:=ht.on HB.out
  cases b1:letB c
  ·cases b2:digB c
   ·have K:Hid (fsV s f=.tuple #[.agg (tkA (pmT s d)),zI (mkE s d)]):=by
     show _=_
     have e0:oneE s f=mkE s d:=by unfold oneE;rw [hd,if_neg h0,hl,b1,if_neg (by decide),hg,b2,if_neg (by decide)]
     have e1:oneT s f=mkT s d:=by unfold oneT;rw [hd,if_neg h0,hl,b1,if_neg (by decide),hg,b2,if_neg (by decide)]
     unfold fsV fsT pmT
     rw [e0,e1,hd]
    have cM:=Qcm s d hs hlt W
    obtain⟨T,eT⟩:∃ T,pmT s d=T:=jV
    obtain⟨E,eE⟩:∃ E,mkE s d=E:=jV
    rw [eT,eE] at cM K
    unfold tkA at cM
    clear hd h0 hl hg eT eE r0 r1 r2 r3 r4 f0 f1 f2 f3 f4
    go_enter func221,ntmps221
    go_wp2_with (first | (go_at_call 226;refine (cS _).mono ?_;rintro _ v ⟨rfl,q⟩;obtain rfl:=q.symm) | (go_at_call 227;refine (Q5 b1 _).mono ?_;rintro _ v ⟨rfl,q⟩;obtain rfl:=q.symm) | (go_at_call 229;refine (JU b2 _).mono ?_;rintro _ v ⟨rfl,q⟩;obtain rfl:=q.symm))
    refine cM.mono ?_
    rintro _ v ⟨rfl,bb⟩
    have HR2:=(HR.out.onto bb).hid
    have HB2:=zH (HB.out.trans (bb.mono HB.out.size))
    obtain⟨r0,r1,r2,r3,r4⟩:=HR2.out.cells
    obtain⟨f0,f1,f2,f3,f4⟩:=HR2.out.froz
    clear bb
    go_wp2_with fail
    exact bodyPost_ret (Qi (p:=4) (u:=5) (ty:=233) rfl _ _ w§ 233 (tkA T) (0,0) _ rfl (HR2.out.put T) underlying233 rfl zK) rfl ⟨by rw [K.out];rfl,Qu HB2.out (Nat.le_refl _) _ _ _ _ _⟩
   ·have K:Hid (fsV s f=.tuple #[.agg (tkA (pbT s d)),zI (nbE s d)]):=by
     show _=_
     have e0:oneE s f=nbE s d:=by unfold oneE;rw [hd,if_neg h0,hl,b1,if_neg (by decide),hg,b2,if_pos rfl]
     have e1:oneT s f=nbT s d:=by unfold oneT;rw [hd,if_neg h0,hl,b1,if_neg (by decide),hg,b2,if_pos rfl]
     unfold fsV fsT pbT
     rw [e0,e1,hd]
    have cM:=P8 s d hs hlt (by rw [hg,b2]) W
    obtain⟨T,eT⟩:∃ T,pbT s d=T:=jV
    obtain⟨E,eE⟩:∃ E,nbE s d=E:=jV
    rw [eT,eE] at cM K
    unfold tkA at cM
    clear hd h0 hl hg eT eE r0 r1 r2 r3 r4 f0 f1 f2 f3 f4
    go_enter func221,ntmps221
    go_wp2_with (first | (go_at_call 226;refine (cS _).mono ?_;rintro _ v ⟨rfl,q⟩;obtain rfl:=q.symm) | (go_at_call 227;refine (Q5 b1 _).mono ?_;rintro _ v ⟨rfl,q⟩;obtain rfl:=q.symm) | (go_at_call 229;refine (JU b2 _).mono ?_;rintro _ v ⟨rfl,q⟩;obtain rfl:=q.symm))
    refine cM.mono ?_
    rintro _ v ⟨rfl,bb⟩
    have HR2:=(HR.out.onto bb).hid
    have HB2:=zH (HB.out.trans (bb.mono HB.out.size))
    obtain⟨r0,r1,r2,r3,r4⟩:=HR2.out.cells
    obtain⟨f0,f1,f2,f3,f4⟩:=HR2.out.froz
    clear bb
    go_wp2_with fail
    exact bodyPost_ret (Qi (p:=4) (u:=5) (ty:=233) rfl _ _ w§ 233 (tkA T) (0,0) _ rfl (HR2.out.put T) underlying233 rfl zK) rfl ⟨by rw [K.out];rfl,Qu HB2.out (Nat.le_refl _) _ _ _ _ _⟩
  ·have K:Hid (fsV s f=.tuple #[.agg (tkA (pnT s d)),zI (nmE s d)]):=by
    show _=_
    have e0:oneE s f=nmE s d:=by unfold oneE;rw [hd,if_neg h0,hl,b1,if_pos rfl]
    have e1:oneT s f=nmT s d:=by unfold oneT;rw [hd,if_neg h0,hl,b1,if_pos rfl]
    unfold fsV fsT pnT
    rw [e0,e1,hd]
   have cM:=QbR s d hs hdl W hTW
   obtain⟨T,eT⟩:∃ T,pnT s d=T:=jV
   obtain⟨E,eE⟩:∃ E,nmE s d=E:=jV
   rw [eT,eE] at cM K
   unfold tkA at cM
   clear hd h0 hl hg eT eE r0 r1 r2 r3 r4 f0 f1 f2 f3 f4
   go_enter func221,ntmps221
   go_wp2_with (first | (go_at_call 226;refine (cS _).mono ?_;rintro _ v ⟨rfl,q⟩;obtain rfl:=q.symm) | (go_at_call 227;refine (Q5 b1 _).mono ?_;rintro _ v ⟨rfl,q⟩;obtain rfl:=q.symm))
   refine cM.mono ?_
   rintro _ v ⟨rfl,bb⟩
   have HR2:=(HR.out.onto bb).hid
   have HB2:=zH (HB.out.trans (bb.mono HB.out.size))
   obtain⟨r0,r1,r2,r3,r4⟩:=HR2.out.cells
   obtain⟨f0,f1,f2,f3,f4⟩:=HR2.out.froz
   clear bb
   go_wp2_with fail
   exact bodyPost_ret (Qi (p:=4) (u:=5) (ty:=233) rfl _ _ w§ 233 (tkA T) (0,0) _ rfl (HR2.out.put T) underlying233 rfl zK) rfl ⟨by rw [K.out];rfl,Qu HB2.out (Nat.le_refl _) _ _ _ _ _⟩
theorem Qcp {c:UInt8}{l:List UInt8}(h:letB c=true):ov (c :: l) false=0:=by
 unfold letB at h
 have h:=of_decide_eq_true h
 refine X6 ?_ ?_
 ·unfold remB;rw [if_neg zY,if_neg zY]
 ·unfold Jj;simp;omega
theorem mkk (s:yB) (a:Nat):(mkT s a).k≠2:=by
 unfold mkT
 cases mkO s a with
 | none=>exact (show (0:Int)≠2 by decide)
 | some i=>simp
theorem nbk (s:yB) (a:Nat):(nbT s a).k≠2:=by
 unfold nbT
 cases nbO s a with
 | none=>exact (show (0:Int)≠2 by decide)
 | some q=>obtain⟨n,e,ty⟩:=q;simp
theorem Qf9 (s:yB):Jm s=true ↔ oneE s 0=0∧(oneT s 0).k=2∧(oneT s 0).x=s:=by
 constructor
 ·intro h
  unfold Jm at h
  simp only [Bool.and_eq_true,Bool.not_eq_true',decide_eq_true_eq] at h
  obtain⟨h1,h2,h3,h4,h5⟩:=h
  have hp:oneP s 0=0:=by
   unfold oneP
   cases hr:rest s 0 with
   | nil=>rfl
   | cons c l=>rw [hr] at h4;rw [Qcp h4]
  have hne:¬ (0:Nat)=s.size:=by omega
  have e1:nmT s 0=⟨2,s,0,0,0⟩:=by
   unfold nmT
   rw [h5,if_neg zY]
   have:s.extract 0 (0+s.size)=s:=Xc (by rw [Uf];unfold rest;rw [List.drop_zero,List.take_of_length_le (by rw [H9];omega)])
   rw [this,h1];rfl
  refine⟨?_,?_,?_⟩
  ·unfold oneE;rw [hp,if_neg hne,if_pos h4];unfold nmE;rw [h5,if_neg zY]
  ·unfold oneT;rw [hp,if_neg hne,if_pos h4,e1]
  ·unfold oneT;rw [hp,if_neg hne,if_pos h4,e1]
 ·rintro ⟨h1,h2,h3⟩
  have hP:=XC s 0 zY
  unfold oneT at h2 h3
  unfold oneE at h1
  generalize oneP s 0=d at *
  by_cases h0:d=s.size
  ·rw [if_pos h0] at h2;exact absurd h2 (show ¬ (0:Int)=2 by decide)
  rw [if_neg h0] at h1 h2 h3
  by_cases hl:hdB letB (rest s d)=true
  ·rw [if_pos hl] at h1 h2 h3
   unfold nmE at h1
   unfold nmT at h2 h3
   by_cases hk:lead goB (rest s d) > 16
   ·rw [if_pos hk] at h1;exact absurd h1 (by decide)
   ·rw [if_neg hk] at h2 h3
    have hL:=KV goB (rest s d)
    rw [Jl] at hL
    have hsz:=congrArg ByteArray.size h3
    simp only at hsz
    rw [Ue s d _ zY] at hsz
    have hd:d=0:=by omega
    subst hd
    have h3':s.extract 0 (0+lead goB (rest s 0))=s:=h3
    have hpos:=Ub (QeJ hl)
    have hw:isW s=false:=by
     rw [h3'] at h2
     cases hh:isW s with
     | false=>rfl
     | true=>rw [hh] at h2;exact absurd h2 (show ¬ (1:Int)=2 by decide)
    unfold Jm
    rw [hw,hl,decide_eq_true zY,decide_eq_true zY,decide_eq_true zY];rfl
  ·rw [if_neg hl] at h2
   by_cases hg:hdB digB (rest s d)=true
   ·rw [if_pos hg] at h2;exact absurd h2 (nbk s d)
   ·rw [if_neg hg] at h2;exact absurd h2 (mkk s d)
theorem VS (s:yB) (hs:s.size≤140737488355328) (w:yW) (ht:Tab w) :
  Calls zG 205 #[.string s] w fun e w'=>e=.returned (.bool (Jm s))∧yD w w':=by
 have cF:=Qcw s 0 hs zY w ht
 unfold fsV fsT at cF
 have hN:=Qf9 s
 obtain⟨E,eE⟩:∃ E,oneE s 0=E:=jV
 obtain⟨B,eB⟩:∃ B,Jm s=B:=jV
 rw [eE] at cF hN
 rw [eB] at hN ⊢
 clear eE eB
 by_cases hE:E=0
 ·have hE':(E == 0)=true:=by simp [hE]
  rw [if_pos hE] at cF
  obtain⟨T,eT⟩:∃ T,oneT s 0=T:=jV
  rw [eT] at cF hN
  unfold tkA at cF
  by_cases hk:T.k=2
  ·have hk':(T.k == 2)=true:=by simp [hk]
   have KB:Hid (B=(T.x.toList == s.toList)):=by
    show _=_
    by_cases hx:T.x=s
    ·have:B=true:=hN.2 ⟨hE,hk,hx⟩
     rw [this,hx];simp
    ·rw [U0 hx]
     cases B with
     | false=>rfl
     | true=>exact absurd (hN.1 rfl).2.2 hx
   clear hN hE hk eT
   go_enter func205,ntmps205
   go_wp2_with fail
   refine cF.mono ?_
   rintro _ v ⟨rfl,bb⟩
   have HB2:=zH bb
   clear bb
   go_wp2
   go_ret
   exact⟨retB (by rw [KB.out]),HB2.out.alloc HB2.out.size _⟩
  ·have hk':(T.k == 2)=false:=by simp [hk]
   have KB:Hid (B=false):=by
    show _=_
    cases B with
    | false=>rfl
    | true=>exact absurd (hN.1 rfl).2.1 hk
   clear hN hE hk eT
   go_enter func205,ntmps205
   go_wp2_with fail
   refine cF.mono ?_
   rintro _ v ⟨rfl,bb⟩
   have HB2:=zH bb
   clear bb
   go_wp2
   go_ret
   exact⟨retB (by rw [KB.out]),HB2.out.alloc HB2.out.size _⟩
 ·have hE':(E == 0)=false:=by simp [hE]
  rw [if_neg hE] at cF
  unfold tkA at cF
  have KB:Hid (B=false):=by
   show _=_
   cases B with
   | false=>rfl
   | true=>exact absurd (hN.1 rfl).1 hE
  clear hN hE
  go_enter func205,ntmps205
  go_wp2_with fail
  refine cF.mono ?_
  rintro _ v ⟨rfl,bb⟩
  have HB2:=zH bb
  clear bb
  go_wp2
  go_ret
  exact⟨retB (by rw [KB.out]),HB2.out.alloc HB2.out.size _⟩
theorem JQ (F:Nat) (x a b:Int) (w:yW) (hF:F=206∨F=210∨F=211∨F=232∨F=234):Calls zG F #[zU x,zU a,zU b] w fun e w'=>e=.returned (.bool (decide (a≤x∧x≤b)))∧w'=w:=by
 rcases hF with rfl | rfl | rfl | rfl | rfl
 ·go_enter func206,ntmps206
  go_wp2
  all_goals go_ret
  all_goals exact⟨retB (by simp_all;try omega),rfl⟩
 ·go_enter func210,ntmps210
  go_wp2
  all_goals go_ret
  all_goals exact⟨retB (by simp_all;try omega),rfl⟩
 ·go_enter func211,ntmps211
  go_wp2
  all_goals go_ret
  all_goals exact⟨retB (by simp_all;try omega),rfl⟩
 ·go_enter func232,ntmps232
  go_wp2
  all_goals go_ret
  all_goals exact⟨retB (by simp_all;try omega),rfl⟩
 ·go_enter func234,ntmps234
  go_wp2
  all_goals go_ret
  all_goals exact⟨retB (by simp_all;try omega),rfl⟩
theorem QcX (x a b:Int) (w:yW):Calls zG 223 #[zI x,zI a,zI b] w fun e w'=>e=.returned (.bool (decide (a≤x∧x≤b)))∧w'=w:=by
 go_enter func223,ntmps223
 go_wp2
 all_goals go_ret
 all_goals exact⟨retB (by simp_all;try omega),rfl⟩
theorem KW (t:Int) (w:yW):Calls zG 212 #[zU t] w fun e w'=>e=.returned (.bool (numB t))∧w'=w:=by
 go_enter func212,ntmps212
 go_wp2_with (go_at_call 206;refine (JQ 206 _ _ _ _ (by simp)).mono ?_;rintro e w' ⟨rfl,rfl⟩)
 go_ret
 exact⟨retB (by simp [numB]),rfl⟩
theorem VE (t n:Int) (w:yW):Calls zG 209 #[zU t,zI n] w fun e w'=>e=.returned (.bool (litB t n))∧w'=w:=by
 unfold litB
 by_cases h5:t=5
 ·subst h5
  rw [if_pos rfl]
  go_enter func209,ntmps209
  go_wp2_with (go_at_call 223;refine (QcX _ _ _ _).mono ?_;rintro e w' ⟨rfl,rfl⟩)
  go_ret
  exact⟨retB (by simp),rfl⟩
 by_cases h6:t=6
 ·subst h6
  rw [if_neg (by decide),if_pos rfl]
  go_enter func209,ntmps209
  go_wp2_with (go_at_call 223;refine (QcX _ _ _ _).mono ?_;rintro e w' ⟨rfl,rfl⟩)
  go_ret
  exact⟨retB (by simp),rfl⟩
 rw [if_neg h5,if_neg h6]
 have e5:(t == 5)=false:=by simp [h5]
 have e6:(t == 6)=false:=by simp [h6]
 have cN:=KW t
 obtain⟨B,eB⟩:∃ B,numB t=B:=jV
 rw [eB]
 simp only [eB] at cN
 clear eB h5 h6
 cases B with
 | true =>
  go_enter func209,ntmps209
  go_wp2_with (go_at_call 212;refine (cN _).mono ?_;rintro e w' ⟨rfl,rfl⟩)
  go_ret
  exact⟨retB (by simp),rfl⟩
 | false =>
  go_enter func209,ntmps209
  go_wp2_with (go_at_call 212;refine (cN _).mono ?_;rintro e w' ⟨rfl,rfl⟩)
  go_ret
  exact⟨retB (by simp),rfl⟩
theorem Qm {w w1 w2:yW}(h1:yD w w1) (h2:yD w1 w2):yD w w2:=h1.trans (h2.mono h1.size)
theorem ft_1 (o t n f:Int) (x:yB) (w:yW):Calls zG 187 #[.agg #[zU 1,zU o,zU t,zI n,zU f,.string x],zI 0] w fun e w'=>e=.returned (.bool (litB t n))∧yD w w':=by
 go_enter func187,ntmps187
 go_wp2_with (go_at_call 209;refine (VE _ _ _).mono ?_;rintro e w' ⟨rfl,rfl⟩)
 go_ret
 exact⟨retB (by simp),Qb _ _⟩
theorem ft_1n (l:Nat) (hl:((l:Int) == 0)=false) (o t n f:Int) (x:yB) (w:yW):Calls zG 187 #[.agg #[zU 1,zU o,zU t,zI n,zU f,.string x],zI l] w fun e w'=>e=.returned (.bool (false))∧yD w w':=by
 go_enter func187,ntmps187
 go_wp2_with (fail)
 go_ret
 exact⟨retB (by simp),Qb _ _⟩
theorem ft_3 (o t n f:Int) (x:yB) (w:yW):Calls zG 187 #[.agg #[zU 3,zU o,zU t,zI n,zU f,.string x],zI 0] w fun e w'=>e=.returned (.bool (decide (1≤f∧f≤6)))∧yD w w':=by
 go_enter func187,ntmps187
 go_wp2_with (go_at_call 210;refine (JQ 210 _ _ _ _ (by simp)).mono ?_;rintro e w' ⟨rfl,rfl⟩)
 go_ret
 exact⟨retB (by simp),Qb _ _⟩
theorem ft_3n (l:Nat) (hl:((l:Int) == 0)=false) (o t n f:Int) (x:yB) (w:yW):Calls zG 187 #[.agg #[zU 3,zU o,zU t,zI n,zU f,.string x],zI l] w fun e w'=>e=.returned (.bool (false))∧yD w w':=by
 go_enter func187,ntmps187
 go_wp2_with (fail)
 go_ret
 exact⟨retB (by simp),Qb _ _⟩
theorem ft_4 (o t n f:Int) (x:yB) (w:yW):Calls zG 187 #[.agg #[zU 4,zU o,zU t,zI n,zU f,.string x],zI 0] w fun e w'=>e=.returned (.bool (decide (1≤f∧f≤3)))∧yD w w':=by
 go_enter func187,ntmps187
 go_wp2_with (go_at_call 210;refine (JQ 210 _ _ _ _ (by simp)).mono ?_;rintro e w' ⟨rfl,rfl⟩)
 go_ret
 exact⟨retB (by simp),Qb _ _⟩
theorem ft_4n (l:Nat) (hl:((l:Int) == 0)=false) (o t n f:Int) (x:yB) (w:yW):Calls zG 187 #[.agg #[zU 4,zU o,zU t,zI n,zU f,.string x],zI l] w fun e w'=>e=.returned (.bool (false))∧yD w w':=by
 go_enter func187,ntmps187
 go_wp2_with (fail)
 go_ret
 exact⟨retB (by simp),Qb _ _⟩
theorem ft_5 (o t n f:Int) (x:yB) (w:yW):Calls zG 187 #[.agg #[zU 5,zU o,zU t,zI n,zU f,.string x],zI 1] w fun e w'=>e=.returned (.bool (decide (1≤o∧o≤2)))∧yD w w':=by
 go_enter func187,ntmps187
 go_wp2_with (go_at_call 211;refine (JQ 211 _ _ _ _ (by simp)).mono ?_;rintro e w' ⟨rfl,rfl⟩)
 go_ret
 exact⟨retB (by simp),Qb _ _⟩
theorem ft_5n (l:Nat) (hl:((l:Int) == 1)=false) (o t n f:Int) (x:yB) (w:yW):Calls zG 187 #[.agg #[zU 5,zU o,zU t,zI n,zU f,.string x],zI l] w fun e w'=>e=.returned (.bool (false))∧yD w w':=by
 go_enter func187,ntmps187
 go_wp2_with (fail)
 go_ret
 exact⟨retB (by simp),Qb _ _⟩
theorem ft_6 (o t n f:Int) (x:yB) (w:yW):Calls zG 187 #[.agg #[zU 6,zU o,zU t,zI n,zU f,.string x],zI 2] w fun e w'=>e=.returned (.bool (decide (6≤o∧o≤18)))∧yD w w':=by
 go_enter func187,ntmps187
 go_wp2_with (go_at_call 211;refine (JQ 211 _ _ _ _ (by simp)).mono ?_;rintro e w' ⟨rfl,rfl⟩)
 go_ret
 exact⟨retB (by simp),Qb _ _⟩
theorem ft_6n (l:Nat) (hl:((l:Int) == 2)=false) (o t n f:Int) (x:yB) (w:yW):Calls zG 187 #[.agg #[zU 6,zU o,zU t,zI n,zU f,.string x],zI l] w fun e w'=>e=.returned (.bool (false))∧yD w w':=by
 go_enter func187,ntmps187
 go_wp2_with (fail)
 go_ret
 exact⟨retB (by simp),Qb _ _⟩
theorem ft_9 (o t n f:Int) (x:yB) (w:yW):Calls zG 187 #[.agg #[zU 9,zU o,zU t,zI n,zU f,.string x],zI 1] w fun e w'=>e=.returned (.bool (numB t))∧yD w w':=by
 go_enter func187,ntmps187
 go_wp2_with (go_at_call 212;refine (KW _ _).mono ?_;rintro e w' ⟨rfl,rfl⟩)
 go_ret
 exact⟨retB (by simp),Qb _ _⟩
theorem ft_9n (l:Nat) (hl:((l:Int) == 1)=false) (o t n f:Int) (x:yB) (w:yW):Calls zG 187 #[.agg #[zU 9,zU o,zU t,zI n,zU f,.string x],zI l] w fun e w'=>e=.returned (.bool (false))∧yD w w':=by
 go_enter func187,ntmps187
 go_wp2_with (fail)
 go_ret
 exact⟨retB (by simp),Qb _ _⟩
theorem ft_2 (o t n f:Int) (x:yB) (hx:x.size≤140737488355328) (w:yW) (ht:Tab w):Calls zG 187 #[.agg #[zU 2,zU o,zU t,zI n,zU f,.string x],zI 0] w fun e w'=>e=.returned (.bool (Jm x))∧yD w w':=by
 go_enter func187,ntmps187
 go_wp2_with (go_at_call 205;refine (VS x hx _ (ht.on (Qb _ _))).mono ?_;rintro e w' ⟨rfl,hb⟩)
 go_ret
 exact⟨retB (by simp),Qm (Qb _ _) hb⟩
theorem ft_2n (l:Nat) (hl:((l:Int) == 0)=false) (o t n f:Int) (x:yB) (w:yW):Calls zG 187 #[.agg #[zU 2,zU o,zU t,zI n,zU f,.string x],zI l] w fun e w'=>e=.returned (.bool (false))∧yD w w':=by
 go_enter func187,ntmps187
 go_wp2_with (fail)
 go_ret
 exact⟨retB (by simp),Qb _ _⟩
theorem ft_7 (l:Nat) (o t n f:Int) (x:yB) (w:yW):Calls zG 187 #[.agg #[zU 7,zU o,zU t,zI n,zU f,.string x],zI l] w fun e w'=>e=.returned (.bool (decide (l=3)))∧yD w w':=by
 go_enter func187,ntmps187
 go_wp2_with (fail)
 go_ret
 exact⟨retB (by first | rfl | (by_cases h:l=3 <;> simp [h] <;> omega) | (apply decide_eq_decide.2;omega)),Qb _ _⟩
theorem ft_81 (o t n f:Int) (x:yB) (w:yW):Calls zG 187 #[.agg #[zU 8,zU o,zU t,zI n,zU f,.string x],zI 1] w fun e w'=>e=.returned (.bool (decide (o=3)))∧yD w w':=by
 by_cases ho:o=3
 ·subst ho
  go_enter func187,ntmps187
  go_wp2
  go_ret
  exact⟨retB (by simp),Qb _ _⟩
 have ho':(o == 3)=false:=by simp [ho]
 go_enter func187,ntmps187
 go_wp2_with (fail)
 go_ret
 exact⟨retB (by simp [ho]),Qb _ _⟩
theorem ft_82 (o t n f:Int) (x:yB) (w:yW):Calls zG 187 #[.agg #[zU 8,zU o,zU t,zI n,zU f,.string x],zI 2] w fun e w'=>e=.returned (.bool (decide (4≤o∧o≤5)))∧yD w w':=by
 go_enter func187,ntmps187
 go_wp2_with (go_at_call 211;refine (JQ 211 _ _ _ _ (by simp)).mono ?_;rintro e w' ⟨rfl,rfl⟩)
 go_ret
 exact⟨retB (by simp),Qb _ _⟩
theorem ft_8n (l:Nat) (hl:((l:Int) == 1)=false) (hl2:((l:Int) == 2)=false) (o t n f:Int) (x:yB) (w:yW):Calls zG 187 #[.agg #[zU 8,zU o,zU t,zI n,zU f,.string x],zI l] w fun e w'=>e=.returned (.bool (false))∧yD w w':=by
 go_enter func187,ntmps187
 go_wp2_with (fail)
 go_ret
 exact⟨retB (by simp),Qb _ _⟩
theorem ft_z (l:Nat) (k:Int) (e1:(k == 1)=false) (e2:(k == 2)=false) (e3:(k == 3)=false) (e4:(k == 4)=false) (e5:(k == 5)=false) (e6:(k == 6)=false) (e7:(k == 7)=false) (e8:(k == 8)=false) (e9:(k == 9)=false) (o t n f:Int) (x:yB) (w:yW):Calls zG 187 #[.agg #[zU k,zU o,zU t,zI n,zU f,.string x],zI l] w fun e w'=>e=.returned (.bool (false))∧yD w w':=by
 go_enter func187,ntmps187
 go_wp2_with (fail)
 go_ret
 exact⟨retB (by simp),Qb _ _⟩
theorem QeU (h:Hd) (l:Nat) (hx:h.x.size≤140737488355328) (w:yW) (ht:Tab w):Calls zG 187 #[.agg (Kd h),zI l] w fun e w'=>e=.returned (.bool (fitB h l))∧yD w w':=by
 obtain⟨k,o,t,n,f,x,p⟩:=h
 unfold Kd fitB
 simp only at hx ⊢
 by_cases e1:k=1
 ·subst e1
  rw [if_pos rfl]
  by_cases a:l=0
  ·subst a
   have:=ft_1 o t n f x w
   simpa using this
  have:=ft_1n l (by simp;omega) o t n f x w
  simpa [a] using this
 by_cases e2:k=2
 ·subst e2
  rw [if_neg (by decide),if_pos rfl]
  by_cases a:l=0
  ·subst a
   have:=ft_2 o t n f x hx w ht
   simpa using this
  have:=ft_2n l (by simp;omega) o t n f x w
  simpa [a] using this
 by_cases e3:k=3
 ·subst e3
  rw [if_neg (by decide),if_neg (by decide),if_pos rfl]
  by_cases a:l=0
  ·subst a
   have:=ft_3 o t n f x w
   simpa using this
  have:=ft_3n l (by simp;omega) o t n f x w
  simpa [a] using this
 by_cases e4:k=4
 ·subst e4
  rw [if_neg (by decide),if_neg (by decide),if_neg (by decide),if_pos rfl]
  by_cases a:l=0
  ·subst a
   have:=ft_4 o t n f x w
   simpa using this
  have:=ft_4n l (by simp;omega) o t n f x w
  simpa [a] using this
 by_cases e5:k=5
 ·subst e5
  rw [if_neg (by decide),if_neg (by decide),if_neg (by decide),if_neg (by decide),if_pos rfl]
  by_cases a:l=1
  ·subst a
   have:=ft_5 o t n f x w
   simpa using this
  have:=ft_5n l (by simp;omega) o t n f x w
  simpa [a] using this
 by_cases e6:k=6
 ·subst e6
  rw [if_neg (by decide),if_neg (by decide),if_neg (by decide),if_neg (by decide),if_neg (by decide),if_pos rfl]
  by_cases a:l=2
  ·subst a
   have:=ft_6 o t n f x w
   simpa using this
  have:=ft_6n l (by simp;omega) o t n f x w
  simpa [a] using this
 by_cases e7:k=7
 ·subst e7
  rw [if_neg (by decide),if_neg (by decide),if_neg (by decide),if_neg (by decide),if_neg (by decide),if_neg (by decide),if_pos rfl]
  exact ft_7 l o t n f x w
 by_cases e8:k=8
 ·subst e8
  rw [if_neg (by decide),if_neg (by decide),if_neg (by decide),if_neg (by decide),if_neg (by decide),if_neg (by decide),if_neg (by decide),if_pos rfl]
  by_cases a1:l=1
  ·subst a1
   have:=ft_81 o t n f x w
   simpa using this
  by_cases a2:l=2
  ·subst a2
   have:=ft_82 o t n f x w
   simpa using this
  have:=ft_8n l (by simp;omega) (by simp;omega) o t n f x w
  simpa [a1,a2] using this
 by_cases e9:k=9
 ·subst e9
  rw [if_neg (by decide),if_neg (by decide),if_neg (by decide),if_neg (by decide),if_neg (by decide),if_neg (by decide),if_neg (by decide),if_neg (by decide),if_pos rfl]
  by_cases a:l=1
  ·subst a
   have:=ft_9 o t n f x w
   simpa using this
  have:=ft_9n l (by simp;omega) o t n f x w
  simpa [a] using this
 rw [if_neg e1,if_neg e2,if_neg e3,if_neg e4,if_neg e5,if_neg e6,if_neg e7,if_neg e8,if_neg e9]
 exact ft_z l k (by simp [e1]) (by simp [e2]) (by simp [e3]) (by simp [e4]) (by simp [e5]) (by simp [e6]) (by simp [e7]) (by simp [e8]) (by simp [e9]) o t n f x w
end Go.Proofs.YtfbjofnaghjmeaaGreatDoor
