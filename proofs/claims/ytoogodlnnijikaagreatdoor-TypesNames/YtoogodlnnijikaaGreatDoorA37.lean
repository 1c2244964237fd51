import Derived.Test.YtoogodlnnijikaaGreatDoorA0
import Derived.Test.YtoogodlnnijikaaGreatDoorA36
import Derived.Test.YtoogodlnnijikaaGreatDoorA7
import Derived.Test.YtoogodlnnijikaaGreatDoorA2
import Derived.Test.YtoogodlnnijikaaGreatDoorA29
namespace Go.Proofs.YtoogodlnnijikaaGreatDoor
set_option maxHeartbeats 8000000
set_option maxRecDepth 100000
open Go.RowKit
set_option linter.unusedVariables false
set_option linter.unusedSimpArgs false
def tnH (h:Hd):Hd:=if h.k=2∧h.x.size < 15 then ⟨h.k,h.o,h.t,h.n,h.f,Zn ++ h.x,h.p⟩ else h
theorem tnH_k (h:Hd):(tnH h).k=h.k:=by unfold tnH; split <;> rfl
theorem tnH_o (h:Hd):(tnH h).o=h.o:=by unfold tnH; split <;> rfl
theorem tnH_ne {h:Hd}(hk:¬ h.k=2):tnH h=h:=if_neg (fun e=>hk e.1)
mutual
def trB:Nd→Nd
 | .mk h _ _ ks=>.mk (tnH h) none 0 (trBs ks)
def trBs:List Nd→List Nd
 | []=>[]
 | k :: ks=>trB k :: trBs ks
end
theorem trBs_map:∀ ks,trBs ks=ks.map trB
 | []=>rfl
 | k :: ks=>by simp only [trBs,List.map_cons,trBs_map ks]
theorem KP (h:Hd) (a:Option Addr) (c:Nat) (ks:List Nd):trB (.mk h a c ks)=.mk (tnH h) none 0 (ks.map trB):=by rw [trB,trBs_map]
theorem bare_trB:∀ m,bare (trB m)=trB m:=by
 refine Nd.ind fun h a c ks ih=>?_
 rw [KP,JG,List.map_map]
 congr 1
 exact List.map_congr_left fun k hk=>ih k hk
def wordB (x:yB):Bool:=!QV x || !QV (Zn ++ x)
mutual
def lon:Nd→Bool
 | .mk h _ _ ks=>if h.k=2 then wordB h.x || decide (15≤h.x.size) else lons ks
def lons:List Nd→Bool
 | []=>false
 | k :: ks=>lon k || lons ks
end
theorem lons_mem:∀ {ks:List Nd},lons ks=false→∀ k ∈ ks,lon k=false
 | [],_,k,hk=>by cases hk
 | j :: ks,h,k,hk=>by
  simp only [lons,Bool.or_eq_false_iff] at h
  rcases List.mem_cons.1 hk with rfl | hk
  ·exact h.1
  ·exact lons_mem h.2 k hk
theorem lon_reg {h:Hd}{a:Option Addr}{c:Nat}{ks:List Nd}(hk:h.k=2) (hl:lon (.mk h a c ks)=false):QV h.x=true∧QV (Zn ++ h.x)=true∧h.x.size < 15:=by
 simp only [lon,if_pos hk,wordB,Bool.or_eq_false_iff,Bool.not_eq_false',decide_eq_false_iff_not] at hl
 exact⟨hl.1.1,hl.1.2,by omega⟩
theorem lon_kids {h:Hd}{a:Option Addr}{c:Nat}{ks:List Nd}(hk:¬ h.k=2) (hl:lon (.mk h a c ks)=false):∀ k ∈ ks,lon k=false:=by
 simp only [lon,if_neg hk] at hl
 exact lons_mem hl
theorem tn_of {h:Hd}(hk:h.k=2) (hx:h.x.size < 15):tnH h=⟨h.k,h.o,h.t,h.n,h.f,Zn ++ h.x,h.p⟩:=if_pos ⟨hk,hx⟩
theorem fit2 {h:Hd}{l:Nat}(hk:h.k=2):fitB h l=(decide (l=0) && QV h.x):=by
 unfold fitB
 rw [if_neg (by omega),if_pos hk]
theorem one_tn {h:Hd}{l:Nat}(hk:h.k=2) (h1:QV h.x=true) (h2:QV (Zn ++ h.x)=true) (hx:h.x.size < 15):oneH (tnH h) l=oneH h l:=by
 unfold oneH
 rw [fit2 (tnH_k h ▸ hk),fit2 hk,tn_of hk hx]
 have e1:JZ ⟨h.k,h.o,h.t,h.n,h.f,Zn ++ h.x,h.p⟩ (nm ⟨h.k,h.o,h.t,h.n,h.f,Zn ++ h.x,h.p⟩)=JZ h (nm h):=by
  unfold nm
  simp only [hk]
  simp [JZ,hk]
 rw [e1]
 simp only [h1,h2]
theorem formsB_tr:∀ ks:List Nd,(∀ k ∈ ks,QW (trB k)=QW k)→Q6 (ks.map trB)=Q6 ks
 | [],_=>rfl
 | k :: ks,h=>by simp only [List.map_cons,Q6]; rw [h k (by simp),formsB_tr ks fun x hx=>h x (by simp [hx])]
theorem formB_tr:∀ m,lon m=false→QW (trB m)=QW m:=by
 refine Nd.ind fun h a c ks ih hl=>?_
 rw [KP]
 simp only [QW,List.length_map]
 by_cases hk:h.k=2
 ·obtain⟨h1,h2,h3⟩:=lon_reg hk hl
  rw [one_tn hk h1 h2 h3]
  cases ks with
  | nil=>rfl
  | cons k ks =>
   have e:oneH h (k :: ks).length=false:=by unfold oneH; rw [fit2 hk]; simp
   rw [e]; rfl
 ·rw [tnH_ne hk,formsB_tr ks fun k hk'=>ih k hk' (lon_kids hk hl k hk')]
theorem lvl_tn (h:Hd):lvl (tnH h)=lvl h:=by unfold lvl; rw [tnH_k,tnH_o]
theorem ask_tn (h:Hd) (i:Nat):ask (tnH h) i=ask h i:=by unfold ask; rw [tnH_k,lvl_tn]
theorem dwn_tn (h:Hd) (i:Nat):dwn (tnH h) i=dwn h i:=by unfold dwn; rw [tnH_k]
theorem trB_h (m:Nd):(trB m).h=tnH m.h:=by cases m; rw [KP]; rfl
theorem deps_tr (h:Hd):∀ (ks:List Nd) (i:Nat),(∀ k ∈ ks,dep (trB k)=dep k)→deps (tnH h) i (ks.map trB)=deps h i ks
 | [],i,_=>rfl
 | k :: ks,i,hk=>by
  simp only [List.map_cons,deps]
  rw [hk k (by simp),deps_tr h ks (i+1) fun x hx=>hk x (by simp [hx]),trB_h,lvl_tn,ask_tn,dwn_tn]
theorem dep_tr:∀ m,dep (trB m)=dep m:=by
 refine Nd.ind fun h a c ks ih=>?_
 rw [KP]
 simp only [dep]
 rw [deps_tr h ks 0 ih]
theorem cE_tr {m:Nd}(hl:lon m=false):cE (trB m)=cE m:=by unfold cE; rw [formB_tr m hl,dep_tr]
theorem tysR_tr {L L':yB→Option Int}:∀ ks:List Nd,(∀ k ∈ ks,tyR L' (trB k)=tyR L k)→tysR L' (ks.map trB)=tysR L ks
 | [],_=>rfl
 | k :: ks,h=>by simp only [List.map_cons,tysR]; rw [h k (by simp),tysR_tr ks fun x hx=>h x (by simp [hx])]
theorem formsB_in:∀ {ks:List Nd},Q6 ks=true→∀ k ∈ ks,QW k=true
 | [],_,k,hk=>by cases hk
 | j :: ks,h,k,hk=>by
  simp only [Q6,Bool.and_eq_true] at h
  rcases List.mem_cons.1 hk with rfl | hk
  ·exact h.1
  ·exact formsB_in h.2 k hk
theorem tyR_tr {L L':yB→Option Int}(hL:∀ x:yB,L' (Zn ++ x)=L x):∀ m,lon m=false→QW m=true→tyR L' (trB m)=tyR L m:=by
 refine Nd.ind fun h a c ks ih hl hf=>?_
 rw [KP]
 simp only [QW,Bool.and_eq_true] at hf
 by_cases hk:h.k=2
 ·obtain⟨h1,h2,h3⟩:=lon_reg hk hl
  have hz:ks = []:=by
   have:=hf.1
   unfold oneH at this
   rw [fit2 hk] at this
   simp only [Bool.and_eq_true,decide_eq_true_eq] at this
   exact List.length_eq_zero_iff.1 this.2.1
  subst hz
  rw [tn_of hk h3]
  simp only [tyR,tysR,List.map_nil]
  have hb:(h.k == 2)=true:=by simpa using hk
  simp only [hb,if_true,hL]
 ·rw [tnH_ne hk]
  simp only [tyR,List.length_map]
  rw [tysR_tr ks fun k hk'=>ih k hk' (lon_kids hk hl k hk') (formsB_in hf.2 k hk')]
  have hb:(h.k == 2)=false:=by simpa using hk
  simp only [hb,if_false,Bool.false_eq_true]
def zR (r:RegM):RegM:=if r.x.size < 15 then ⟨Zn ++ r.x,r.t,r.m,r.p⟩ else r
theorem zz_inj {x y:yB}:((Zn:yB) ++ x=Zn ++ y) ↔ x=y:=by
 constructor
 ·intro h
  have:=congrArg ByteArray.data h
  simp only [ByteArray.data_append] at this
  have h2:=Array.append_right_inj _ |>.1 this
  cases x; cases y; simpa using h2
 ·rintro rfl; rfl
theorem regL_zR:∀ (l:List RegM),(∀ r ∈ l,r.x.size < 15)→∀ x:yB,regL (l.map zR) (Zn ++ x)=regL l x:=by
 intro l hl x
 unfold regL
 induction l with
 | nil=>rfl
 | cons r l ih =>
  have hr:zR r=⟨Zn ++ r.x,r.t,r.m,r.p⟩:=if_pos (hl r (by simp))
  have ih':=ih (fun y hy=>hl y (by simp [hy]))
  by_cases h:r.x=x
  ·simp [List.find?_cons,hr,h]
  ·have h':¬ ((Zn:yB) ++ r.x=Zn ++ x):=fun e=>h (zz_inj.1 e)
   simp only [List.map_cons,List.find?_cons,hr,h,h',decide_false]
   exact ih'
theorem zR_b (r:RegM):bReg (zR r)=zR (bReg r):=by
 unfold zR bReg
 split <;> rfl
theorem of_names {S S2:Qm}{R:List RegM}{m m2:Nd}(hR:S2.rs=R.map zR) (hb:R.map bReg=S.rs.map bReg) (hs:∀ r ∈ S.rs,r.x.size < 15) (hm:bare m2=trB m) (hl:lon m=false):ofE S2 m2=ofE S m:=by
 have hL:∀ x:yB,regL S2.rs (Zn ++ x)=regL S.rs x:=fun x=>by
  rw [hR,← regL_b (R.map zR),List.map_map,show (bReg ∘ zR)=(zR ∘ bReg) from funext zR_b,← List.map_map,hb]
  rw [regL_zR,regL_b]
  intro r hr
  obtain⟨y,hy,rfl⟩:=List.mem_map.1 hr
  exact hs y hy
 unfold ofE
 have e1:cE m2=cE m:=by rw [← cE_b,hm,cE_tr hl]
 rw [e1]
 by_cases h0:cE m=0
 ·rw [if_pos h0,if_pos h0,← tyR_b,hm]
  refine tyR_tr hL m hl ?_
  unfold cE at h0
  by_cases hf:QW m=true
  ·exact hf
  ·rw [if_neg hf] at h0; cases h0
 ·rw [if_neg h0,if_neg h0]
mutual
def wt:Nd→Nat
 | .mk h _ _ ks=>1+h.x.size+wts ks
def wts:List Nd→Nat
 | []=>0
 | k :: ks=>wt k+wts ks
end
theorem KU:∀ m,size m≤wt m:=by
 refine Nd.ind fun h a c ks ih=>?_
 have:∀ l:List Nd,(∀ k ∈ l,size k≤wt k)→Jx l≤wts l:=by
  intro l
  induction l with
  | nil=>intro _; exact Nat.le_refl _
  | cons k l ihl=>intro hl; simp only [Jx,wts]; have h1:=hl k (by simp); have h2:=ihl fun x hx=>hl x (by simp [hx]); omega
 simp only [size,wt]
 have:=this ks ih
 omega
mutual
def wgE:Nd→Int→Int→Int
 | .mk h _ _ ks,n,d=>if d > 60000 then 1048577 else wgL ks (n+1+(h.x.size:Int)) (d+1)
def wgL:List Nd→Int→Int→Int
 | [],n,_=>n
 | k :: ks,n,d=>if n≤1048576 then wgL ks (wgE k n d) d else n
end
theorem wgE_mk (h:Hd) (a:Option Addr) (c:Nat) (ks:List Nd) (n d:Int):wgE (.mk h a c ks) n d=if d > 60000 then 1048577 else wgL ks (n+1+(h.x.size:Int)) (d+1):=by rw [wgE]
def WB (m:Nd):Prop:=∀ n d:Int,0≤n→0≤wgE m n d∧(wgE m n d≤n+140737488355329∨wgE m n d≤140737489403906)∧(wgE m n d≤1048576→wgE m n d=n+wt m)
theorem wgL_bd:∀ (ks:List Nd),(∀ k ∈ ks,WB k)→∀ n d:Int,0≤n→0≤wgL ks n d∧(wgL ks n d≤n∨wgL ks n d≤140737489403906)∧(wgL ks n d≤1048576→wgL ks n d=n+wts ks):=by
 intro ks
 induction ks with
 | nil=>intro _ n d hn; simp only [wgL,wts]; exact⟨hn,.inl (Int.le_refl _),fun _=>by omega⟩
 | cons k ks ih =>
  intro hk n d hn
  simp only [wgL,wts]
  split
  ·rename_i h
   obtain⟨a1,a2,a3⟩:=hk k (List.mem_cons_self ..) n d hn
   obtain⟨b1,b2,b3⟩:=ih (fun x hx=>hk x (List.mem_cons_of_mem _ hx)) (wgE k n d) d a1
   refine⟨b1,.inr ?_,fun hh=>?_⟩
   ·rcases b2 with b2 | b2
    ·rcases a2 with a2 | a2 <;> omega
    ·exact b2
   ·have e1:=b3 hh
    have e2:=a3 (by omega)
    omega
  ·rename_i h
   exact⟨hn,.inl (Int.le_refl _),fun hh=>absurd hh h⟩
theorem wgE_bd {w:yW}:∀ m:Nd,Lies w m→WB m:=by
 refine Nd.ind fun h a c ks ih hl n d hn=>?_
 have hx:=hl.rg.x1
 simp only [Nd.h] at hx
 rw [wgE_mk]
 split
 ·exact⟨by omega,.inr (by omega),fun hh=>absurd hh (by omega)⟩
 ·obtain⟨b1,b2,b3⟩:=wgL_bd ks (fun k hk=>ih k hk (hl.sub k hk)) (n+1+(h.x.size:Int)) (d+1) (by omega)
  refine⟨b1,?_,fun hh=>?_⟩
  ·rcases b2 with b2 | b2
   ·exact .inl (by omega)
   ·exact .inr b2
  ·have:=b3 hh
   simp only [wt]; omega
theorem wgL_stop {ks:List Nd}{z d:Int}(h:¬ z≤1048576):wgL ks z d=z:=by
 cases ks with
 | nil=>simp [wgL]
 | cons k ks=>simp only [wgL,if_neg h]
theorem weigh_any:∀ (m:Nd) (w:yW) (n d:Int),Lies w m→0≤n→n≤4503599627370496→0≤d→d≤60001→Calls zG 38 #[.agg m.vals,zI n,zI d] w fun e w'=>e=.returned (zI (wgE m n d))∧yD w w':=by
 refine Nd.ind fun h a c ks ih w n d hl h1 h2 h3 h4=>?_
 have HI:Hid (∀ k ∈ ks,∀ (w:yW) (n d:Int),Lies w k→0≤n→n≤4503599627370496→0≤d→d≤60001→Calls zG 38 #[.agg k.vals,zI n,zI d] w fun e w'=>e=.returned (zI (wgE k n d))∧yD w w'):=ih
 have HL:=hl.hid
 have hx:=hl.rg.x1
 simp only [Nd.h] at hx
 show Calls zG 38 #[.agg (zX h a ks c),zI n,zI d] w _
 have HD:Hid (0≤d∧d≤60001∧0≤n∧n≤4503599627370496∧(h.x.size:Int)≤140737488355328):=⟨h3,h4,h1,h2,by omega⟩
 have g1:-9223372036854775808≤n+1:=by omega
 have g2:n+1≤9223372036854775807:=by omega
 have g3:-9223372036854775808≤n+1+(h.x.size:Int):=by omega
 have g4:n+1+(h.x.size:Int)≤9223372036854775807:=by omega
 have HN0:Hid (NdH (w.alloc (.cells (zX h a ks c) 48)) w§ (.mk h a c ks)):=Qd w _
 have HW:Hid (¬ d > 60000→wgE (.mk h a c ks) n d=wgL ks (n+1+(h.x.size:Int)) (d+1)):=fun hd=>by rw [wgE_mk,if_neg hd]
 have HW0:Hid (d > 60000→wgE (.mk h a c ks) n d=1048577):=fun hd=>by rw [wgE_mk,if_pos hd]
 clear ih hl hx h1 h2 h3 h4
 by_cases hd:d > 60000
 ·go_enter Tryz.func38,Tryz.ntmps38
  go_wp2_with fail
  go_ret
  exact⟨(congrArg (fun x:Int=>Ending.returned (Value.int .i64 x)) (HW0.out hd)).symm,Qc _ _⟩
 ·have g5:d+1≤9223372036854775807:=by have:=HD.out; omega
  have g6:-9223372036854775808≤d+1:=by have:=HD.out; omega
  go_enter Tryz.func38,Tryz.ntmps38
  go_wp2_with fail
  go_loopw [1,7] (fun v t wr=>∃ (i:Nat) (z:Int),i≤ks.length∧t=zI i∧v=zI z∧Below (w.alloc (.cells (zX h a ks c) 48))§ (w.alloc (.cells (zX h a ks c) 48)) wr∧Hid (0≤z∧z≤4703599627370496∧wgL (ks.drop i) z (d+1)=wgE (.mk h a c ks) n d)) (fun _ t _=>ks.length - (intOf t).toNat)
  case atStart=>exact⟨0,n+1+(h.x.size:Int),by omega,rfl,rfl,Below.refl _ _,by have:=HD.out; omega,by have:=HD.out; omega,by rw [HW.out hd,List.drop_zero]⟩
  case round =>
   obtain⟨i,z,hi,rfl,rfl,hbr,HR⟩:=hrel
   have HBR:Hid (yD w wr):=Qe (Qc _ _) hbr
   have HBr:Hid (Below (w.alloc (.cells (zX h a ks c) 48))§ (w.alloc (.cells (zX h a ks c) 48)) wr):=hbr
   have hN:NdH wr w§ (.mk h a c ks):=HN0.out.on hbr
   have q6:wr.cell? w§¢6=some (.slice a ks.length c):=Qa hN 6
   clear hbr hN
   by_cases hlt:i < ks.length
   ·have hlt':(i:Int) < (ks.length:Int):=by omega
    by_cases hz:z≤1048576
    ·obtain⟨b,o,e1,hat⟩:=(HL.out.on HBR.out).kid i hlt
     have e2:a=some b¢o:=e1
     clear e1
     have hk1:NdAt wr b (o+i * 8) ks[i]:=hat
     clear hat
     have cI:=HI.out ks[i] (QS hlt) wr z (d+1) ((HL.out.sub _ (QS hlt)).on HBR.out) (by have h1:=HR.out; have h2:=HD.out; omega) (by omega) (by have:=HD.out; omega) (by omega)
     have HW2:Hid (wgL (ks.drop i) z (d+1)=wgL (ks.drop (i+1)) (wgE ks[i] z (d+1)) (d+1)):=by show _=_; rw [KC hlt]; simp only [wgL,if_pos hz]
     have HBd:Hid (WB ks[i]):=wgE_bd _ (HL.out.sub _ (QS hlt))
     have hmx:(i:Int)+1≤9223372036854775807:=by
      have h1:=HL.out.max
      have h2:=HL.out.cap
      simp only [Nd.ks,Nd.c] at h1 h2
      omega
     obtain⟨k,ek⟩:∃ k,ks[i]=k:=⟨_,rfl⟩
     rw [ek] at hk1 cI HW2 HBd
     subst e2
     obtain⟨y0,y1,y2,y3,y4,y5,y6,y7⟩:=hk1
     have cI:Calls zG 38 #[.agg (zV k),zI z,zI (d+1)] wr fun e w'=>e=.returned (zI (wgE k z (d+1)))∧yD wr w':=cI
     obtain⟨r,er⟩:∃ r,wgE k z (d+1)=r:=⟨_,rfl⟩
     rw [er] at cI HW2
     have HER:Hid (wgE k z (d+1)=r):=er
     clear ek er
     go_wp2_with fail
     refine cI.mono ?_
     rintro e w5 ⟨rfl,hb5⟩
     have HB5:Hid (Below (w.alloc (.cells (zX h (some b¢o) ks c) 48))§ (w.alloc (.cells (zX h (some b¢o) ks c) 48)) w5):=Qe HBr.out hb5
     have HX:Hid (0≤r∧r≤4703599627370496∧wgL (ks.drop (i+1)) r (d+1)=wgE (.mk h (some b¢o) c ks) n d):=by
      have h1:=HBd.out z (d+1) HR.out.1
      rw [HER.out] at h1
      exact⟨h1.1,by rcases h1.2.1 with h2 | h2 <;> omega,by rw [← HW2.out]; exact HR.out.2.2⟩
     clear hb5 cI y0 y1 y2 y3 y4 y5 y6 y7 q6
     go_wp2_with fail
     exact⟨⟨i+1,r,hlt,rfl,rfl,HB5.out,HX.out⟩,by simp only [intOf]; omega⟩
    ·go_wp2_with fail
     go_ret
     exact⟨congrArg (fun x:Int=>Ending.returned (Value.int .i64 x)) ((wgL_stop (by omega)).symm.trans HR.out.2.2),HBR.out⟩
   ·obtain rfl:i=ks.length:=by omega
    have hnot:¬ (ks.length:Int) < (ks.length:Int):=by omega
    go_wp2_with fail
    go_ret
    exact⟨congrArg (fun x:Int=>Ending.returned (Value.int .i64 x)) (by have h9:=HR.out.2.2; rw [List.drop_length] at h9; simpa [wgL] using h9),HBR.out⟩
def Wgt (m:Nd) (n:Int) (r:Int):Prop:=0≤r∧r≤n+140737489403906∧(r≤1048576→r=n+wt m)
theorem wgt_of {w:yW}{m:Nd}(hl:Lies w m) {n:Int}(h1:0≤n):Wgt m n (wgE m n 0):=by
 obtain⟨a1,a2,a3⟩:=wgE_bd m hl n 0 h1
 exact⟨a1,by rcases a2 with a2 | a2 <;> omega,a3⟩
theorem JK (m:Nd) (w:yW) (n:Int) (hl:Lies w m) (h1:0≤n) (h2:n≤4503599627370496):Calls zG 38 #[.agg m.vals,zI n,zI 0] w fun e w'=>(∃ r,e=.returned (zI r)∧Wgt m n r)∧yD w w':=by
 refine (weigh_any m w n 0 hl h1 h2 (by omega) (by omega)).mono ?_
 rintro e w' ⟨rfl,hb⟩
 exact⟨⟨_,rfl,wgt_of hl h1⟩,hb⟩
def DoY (d:DoM):Prop:=size d.sd≤1048576∧size d.qt≤1048576∧size d.pr≤1048576∧size d.vl≤1048576
def RuleY (r:Qr):Prop:=size r.m≤1048576∧r.ds.length≤1048576∧∀ d ∈ r.ds,DoY d
def StateY (r:Qj):Prop:=r.rs.length≤1048576∧∀ d ∈ r.rs,RuleY d
def StratY (S:Qm):Prop:=S.rs.length≤1048576∧(∀ r ∈ S.rs,size r.m≤1048576)∧S.ss.length≤1048576∧S.ts.length≤1048576∧∀ d ∈ S.ts,StateY d
def WghD (d:DoM) (n r:Int):Prop:=0≤r∧r≤n+900000000000000∧(r≤1048576→DoY d∧n≤r)
theorem weighDo_any (d:DoM) (w:yW) (n:Int) (hl:DoL w d) (h1:0≤n) (h2:n≤2251799813685248):Calls zG 79 #[.agg d.vals,zI n] w fun e w'=>(∃ r,e=.returned (zI r)∧WghD d n r)∧yD w w':=by
 have hb0:=Qc w (.cells d.vals 105)
 have hn0:=Qd w (.cells d.vals 105)
 have hx:d.x.size≤140737488355328:=hl.2.2.2.2.2.2.2
 have HH:Hid (DoL w d∧0≤n∧n≤2251799813685248∧(d.x.size:Int)≤140737488355328):=⟨hl,h1,h2,by omega⟩
 have HN0:Hid ((w.alloc (.cells d.vals 105)).heap[w§]? = (zC d.vals 105)):=hn0
 have HB0:Hid (yD w (w.alloc (.cells d.vals 105))):=hb0
 have q2:(w.alloc (.cells d.vals 105)).cell? w§¢2=some (.string d.x):=Qa hn0 2
 have g1:n+(d.x.size:Int)≤9223372036854775807:=by omega
 have g2:-9223372036854775808≤n+(d.x.size:Int):=by omega
 have c1:=JK d.sd (w.alloc (.cells d.vals 105)) (n+(d.x.size:Int)) (hl.1.on hb0) (by omega) (by omega)
 clear hl h1 h2 hx hb0 hn0
 go_enter Tryz.func79,Tryz.ntmps79
 go_wp2_with (refine wpList_load_mid rfl 48 _ rfl w§ 3 rfl d.sd.vals.toList _ (Qy HN0.out 3 d.sd (do_sd d)) Tryz.underlying48 rfl (Qx d.sd) ?_; rw [QJ])
 refine c1.mono ?_
 rintro e w1 ⟨⟨r1,rfl,hr1⟩,hb⟩
 have HR1:Hid (Wgt d.sd (n+(d.x.size:Int)) r1):=hr1
 have HB1:Hid (yD w w1):=Qe HB0.out hb
 have HD1:Hid (w1.heap[w§]? = (zC d.vals 105)):=(hb.block _ (zJ HN0.out).1).trans HN0.out
 have c2:=JK d.qt w1 r1 (HH.out.1.2.1.on HB1.out) hr1.1 (by have h1:=hr1.2.1; have h2:=HH.out.2; omega)
 clear c1 hr1 hb q2 HN0 HB0
 go_wp2_with (refine wpList_load_mid rfl 48 _ rfl w§ 11 rfl d.qt.vals.toList _ (Qy HD1.out 11 d.qt (do_qt d)) Tryz.underlying48 rfl (Qx d.qt) ?_; rw [QJ])
 refine c2.mono ?_
 rintro e w2 ⟨⟨r2,rfl,hr2⟩,hb⟩
 have HR2:Hid (Wgt d.qt r1 r2):=hr2
 have HB2:Hid (yD w w2):=Qe HB1.out hb
 have HD2:Hid (w2.heap[w§]? = (zC d.vals 105)):=(hb.block _ (zJ HD1.out).1).trans HD1.out
 have c3:=JK d.pr w2 r2 (HH.out.1.2.2.1.on HB2.out) hr2.1 (by have h1:=hr2.2.1; have h3:=HR1.out.2.1; have h2:=HH.out.2; omega)
 clear c2 hr2 hb HD1 HB1
 go_wp2_with (refine wpList_load_mid rfl 48 _ rfl w§ 19 rfl d.pr.vals.toList _ (Qy HD2.out 19 d.pr (do_pr d)) Tryz.underlying48 rfl (Qx d.pr) ?_; rw [QJ])
 refine c3.mono ?_
 rintro e w3 ⟨⟨r3,rfl,hr3⟩,hb⟩
 have HR3:Hid (Wgt d.pr r2 r3):=hr3
 have HB3:Hid (yD w w3):=Qe HB2.out hb
 have HD3:Hid (w3.heap[w§]? = (zC d.vals 105)):=(hb.block _ (zJ HD2.out).1).trans HD2.out
 have c4:=JK d.vl w3 r3 (HH.out.1.2.2.2.1.on HB3.out) hr3.1 (by have h1:=hr3.2.1; have h4:=HR2.out.2.1; have h3:=HR1.out.2.1; have h2:=HH.out.2; omega)
 clear c3 hr3 hb HD2 HB2
 go_wp2_with (refine wpList_load_mid rfl 48 _ rfl w§ 27 rfl d.vl.vals.toList _ (Qy HD3.out 27 d.vl (do_vl d)) Tryz.underlying48 rfl (Qx d.vl) ?_; rw [QJ])
 refine c4.mono ?_
 rintro e w4 ⟨⟨r4,rfl,hr4⟩,hb⟩
 have HR4:Hid (Wgt d.vl r3 r4):=hr4
 have HB4:Hid (yD w w4):=Qe HB3.out hb
 clear c4 hr4 hb
 go_wp2_with fail
 go_ret
 have a1:=HR1.out; have a2:=HR2.out; have a3:=HR3.out; have a4:=HR4.out; have a0:=HH.out.2
 have s1:=KU d.sd; have s2:=KU d.qt; have s3:=KU d.pr; have s4:=KU d.vl
 refine⟨⟨r4,rfl,a4.1,by have b1:=a1.2.1; have b2:=a2.2.1; have b3:=a3.2.1; have b4:=a4.2.1; omega,fun hh=>?_⟩,HB4.out⟩
 have e4:=a4.2.2 hh
 have e3:=a3.2.2 (by omega)
 have e2:=a2.2.2 (by omega)
 have e1:=a1.2.2 (by omega)
 exact⟨⟨by omega,by omega,by omega,by omega⟩,by omega⟩
end Go.Proofs.YtoogodlnnijikaaGreatDoor
