import Derived.Test.YtfbjofnaghjmeaaGreatDoorA15
import Derived.Test.YtfbjofnaghjmeaaGreatDoorA21
import Derived.LaidMore
import Derived.LaidHandle
import Derived.MakeChecks
import Derived.Stop.LaidErr
import Derived.Lib.LaidTab
import Derived.Lib.QuietBelow
namespace Go.Proofs.YtfbjofnaghjmeaaGreatDoor
open Go.Proofs.Tryz
set_option maxRecDepth 100000
open Go.RowKit
def UO {H:Type}(zs:List yB):DataW H:=.agg (zs.map fun z=>.lit (.string z.data.toList))
theorem Qc9:(Rows.laid_tripwire_lex_words:DataW Unit)=UO Kt:=by rfl
theorem Ps {H:Type}{enc:TypeId × Value→H}{P:Program}{w:yW}{base:Nat}{sp:Nat→Bool}{held:Bool}{fuel:Nat}{t e:TypeId}{n:Nat}{cs:List Value}{zs:List yB}{p:List MemPlace}
  (ht:P.underlying t=some (.array n e)) (he:P.underlying e=some .string) (hce:P.cellsOf e=1) (hct:P.cellsOf t=n)
  (h:DataW.trod enc P w base sp held fuel t cs=some (UO zs,p)):cs=zs.map Value.string:=by
 cases fuel with
 | zero=>simp [DataW.trod] at h
 | succ fuel =>
  simp only [DataW.trod,ht,hce,hct,Nat.mul_one] at h
  split at h
  ·rename_i hl
   obtain⟨xs,hm,hx⟩:=Option.map_eq_some_iff.1 h
   have hxs:xs.map (·.1)=zs.map fun z=>(DataW.lit (.string z.data.toList):DataW H):=by
    have:=congrArg Prod.fst hx
    simpa [UO] using this
   have hxl:xs.length=n:=by simpa using Lib.mapM_length hm
   have hzl:zs.length=n:=by
    have:=congrArg List.length hxs
    simp at this
    omega
   apply List.ext_getElem?
   intro i
   by_cases hi:i < n
   ·obtain⟨b,hb,hf⟩:=Lib.mapM_at hm i i (by simp [hi])
    obtain⟨z,hc,rfl,_⟩:=DataW.trod_string he hf
    have h1:cs[i]? = some (.string z):=by
     have:=congrArg (·[0]?) hc
     simpa [List.getElem?_take,List.getElem?_drop] using this
    have h2:(xs.map (·.1))[i]? = some (DataW.lit (.string z.data.toList):DataW H):=by simp [hb]
    rw [hxs] at h2
    simp only [List.getElem?_map,Option.map_eq_some_iff,DataW.lit.injEq,Lit.string.injEq] at h2
    obtain⟨z',hz',e2⟩:=h2
    simp [h1,hz',Xc e2]
   ·rw [List.getElem?_eq_none zY,List.getElem?_eq_none (by simp;omega)]
  ·cases h
theorem PA {P:Program}{W:yW}{name:String}{zs:List yB}{rest:List (String × DataW Unit)}{g:Nat}{t e:TypeId}{n:Nat}
  (hg:P.globalNamed name=some g) (hty:(P.globals[g]?).map (·.type)=some t) (ht:P.underlying t=some (.array n e)) (he:P.underlying e=some .string) (hce:P.cellsOf e=1) (hct:P.cellsOf t=n)
  (h:laidMet P ((name,UO zs) :: rest) W):W.var? P name=some (zs.map Value.string).toArray:=by
 obtain⟨ps,⟨g',t',cs,fuel,p,q,hg',ht',hvar,hd,_,_⟩,_⟩:=h
 obtain rfl:=Option.some.inj (hg.symm.trans hg')
 obtain rfl:=Option.some.inj (hty.symm.trans ht')
 rw [hvar,← Ps ht he hce hct hd]
theorem QaO {W : yW} (h : W.var? zG "errors.errorType" = some #[.iface 283 (.agg #[.pointer (some ⟨4, 85, none⟩)])]) : Ety W := by
 have hg : Tryz.prog.globalNamed "errors.errorType" = some 1 := by kernel_rfl
 have:=World.var?_cell hg h 0
 exact this
theorem Qgw (ty:TypeId) (h1:ty < Tryz.prog.types.size) (h2:Tryz.prog.rowNamed ty [101,114,114,111,114]=true):ty=85:=by
 have h:((List.range Tryz.prog.types.size).all fun t=>!(Tryz.prog.rowNamed t [101,114,114,111,114]) || t == 85)=true:=by kernel_rfl
 have:=List.all_eq_true.1 h ty (List.mem_range.2 h1)
 simp [h2] at this
 exact this
theorem Qcv:(Rows.laid_tripwire_types_fieldTypes:DataW Unit)=Lib.tabData .u8 fldL:=by rfl
theorem PE {W:yW}(h:laidMetH zG Rows.meanLazyRow.laid W):Tab W∧FTab W∧Ety W:=by
 have h2 : laidMet zG [("tripwire/lex.words", (Rows.laid_tripwire_lex_words : DataW Unit)), ("tripwire/types.fieldTypes", (Rows.laid_tripwire_types_fieldTypes : DataW Unit))] W ∧ handlesMet zG [("errors.errorType", (Rows.laid_errors_errorType : DataW Unit))] W := h
 refine⟨?_,?_,?_⟩
 ·have h3:=h2.1
  rw [Qc9] at h3
  exact PA (g:=2) (t:=312) (n:=41) (e:=9) zK zK zK zK zK zK h3
 ·have h3:=laidMet.tail h2.1
  rw [Qcv] at h3
  exact Lib.tabIs_of_head (g:=0) (t:=219) (n:=7) (e:=34) zK zK zK zK zK zK h3
 ·obtain ⟨name, u, ty, e1, e2, e3, e4, e5⟩ : ∃ name u ty, (Rows.laid_errors_errorType : DataW Unit).handleName? = some name ∧ Option.map (fun x => x.snd) (Array.find? (fun x => x.fst == "internal/reflectlite.rtype") Tryz.prog.cutTypes) = some u ∧ ty < Tryz.prog.types.size ∧ Tryz.prog.rowNamed ty name = true ∧ World.var? zG W "errors.errorType" = some #[Value.iface u (Value.agg #[typeHandle zG ty])] := h2.2 _ (List.mem_singleton.2 rfl)
  have f1:(Rows.laid_errors_errorType:DataW Unit).handleName? = some [101,114,114,111,114]:=by kernel_rfl
  have f2 : Option.map (fun x => x.snd) (Array.find? (fun x => x.fst == "internal/reflectlite.rtype") Tryz.prog.cutTypes) = some 283 := by kernel_rfl
  obtain rfl:=Option.some.inj (f1.symm.trans e1)
  obtain rfl:=Option.some.inj (f2.symm.trans e2)
  obtain rfl:=Qgw ty e3 e4
  exact QaO e5
theorem Qe6 (os:Os) (args:Array Value):laidMetH zG Rows.meanLazyRow.laid ((World.doorLaid zG 400 os).forCall (fun _ _=>0) ⟨#[],args,[]⟩).memory :=
 laidMetH_of_parts3 (fuel:=8) (laidMet_of_run' 8 zK zK) zK zK
open Go.Extern.Stop Go.Stop Go.Extern
theorem Mv.toBelow {w w':yW}(h:Mv w w' (fun _=>False)):yD w w':=h.below (Nat.le_refl _) (fun _ e=>e.elim)
theorem Fu {w:yW}{v:Value}{n p:Int}(h:Er w v n p) (hg:Ety w) :
  Calls zG 102 #[v] w fun e w'=>e=.returned (zI n)∧yD w w':=by
 have b1:=Qb w (.cells #[zI 0] 41)
 have n1:=Qc w (.cells #[zI 0] 41)
 have HB1:=zH b1
 have s1:=Qe w (.cells #[zI 0] 41)
 have cA:=QcQ (h.on b1) (hg.on b1) w§¢0 _ (Qa n1 0) (Qf n1 0)
 have HN:Hid ((zA w #[zI 0] 41).heap[w§]? = some (.cells #[zI 0] 41)∧(zA w #[zI 0] 41)§=w§+1):=⟨n1,s1⟩
 obtain⟨T,x,rfl⟩:=h.face
 clear b1 n1 s1 h hg
 go_enter func102,ntmps102
 go_wp2_with fail
 refine cA.mono ?_
 rintro e w1 ⟨b,rfl,hh⟩
 clear cA
 rcases hh with ⟨rfl,V,hV,eV⟩ | ⟨rfl,hn,hV⟩
 ·have hv:V.heap[w§]? = (zC #[zI 0] 41):=(hV.block _ (by rw [HN.out.2];omega)).trans HN.out.1
  have c1:zQ w1 w§¢0 (zI n):=by
   rw [eV];exact Qa (Qp (j:=0) (zI n) hv) 0
  have HB:Hid (yD w w1):=by
   show Below _ _ _
   rw [eV]
   exact ((Mv.ofBelow (Qd HB1.out hV)).setCell (F:=fun _=>False) (a:=w§¢0) (.inr (Nat.le_refl _)) _).toBelow
  clear hv hV eV HN HB1
  go_wp2
  go_ret
  exact⟨rfl,HB.out⟩
 ·have HB:Hid (yD w w1):=Qd HB1.out hV
  subst hn
  clear hV HN HB1
  go_wp2
  go_ret
  exact⟨rfl,HB.out⟩
theorem PY {w:yW}{v:Value}{n p:Int}(h:Er w v n p) (hg:Ety w) :
  Calls zG 103 #[v] w fun e w'=>e=.returned (zI p)∧yD w w':=by
 have b1:=Qb w (.cells #[.pointer none] 184)
 have n1:=Qc w (.cells #[.pointer none] 184)
 have HB1:=zH b1
 have s1:=Qe w (.cells #[.pointer none] 184)
 have cA:=Qfj (h.on b1) (hg.on b1) w§¢0 _ (Qa n1 0) (Qf n1 0)
 have HN:Hid ((zA w #[.pointer none] 184).heap[w§]? = some (.cells #[.pointer none] 184)∧(zA w #[.pointer none] 184)§=w§+1):=⟨n1,s1⟩
 obtain⟨T,x,rfl⟩:=h.face
 clear b1 n1 s1 h hg
 go_enter func103,ntmps103
 go_wp2_with fail
 refine cA.mono ?_
 rintro e w1 ⟨b,rfl,hh⟩
 clear cA
 rcases hh with ⟨rfl,F,c,er,hF,V,hV,eV⟩ | ⟨rfl,hn,hV⟩
 ·have hv:V.heap[w§]? = (zC #[.pointer none] 184):=(hV.block _ (by rw [HN.out.2];omega)).trans HN.out.1
  have c1:zQ w1 w§¢0 (zP F):=by
   rw [eV];exact Qa (Qp (j:=0) (zP F) hv) 0
  have hF':V.heap[F]? = (zC #[.string c,zI p,er] 186):=(hV.block _ (zJ hF).1).trans hF
  have c2:zQ w1 F¢1 (zI p):=by
   rw [eV]
   refine Qa ((Below.heap_setCell V w§¢0 (zP F) F ?_).trans hF') 1
   intro e
   have e':F=w§:=e
   rw [e',hv] at hF'
   cases hF'
  have HB:Hid (yD w w1):=by
   show Below _ _ _
   rw [eV]
   exact ((Mv.ofBelow (Qd HB1.out hV)).setCell (F:=fun _=>False) (a:=w§¢0) (.inr (Nat.le_refl _)) _).toBelow
  clear hv hV eV HN HB1 hF hF'
  go_wp2
  go_ret
  exact⟨rfl,HB.out⟩
 ·have HB:Hid (yD w w1):=Qd HB1.out hV
  subst hn
  clear hV HN HB1
  go_wp2
  go_ret
  exact⟨rfl,HB.out⟩
theorem Qal {w:yW}{v:Value}{n p:Int}(h:Er w v n p) (hg:Ety w) :
  Calls zG 64 #[v] w fun e w'=>e=.returned (.tuple #[zI n,zI p])∧yD w w':=by
 have cE:=Fu h hg
 have HE:Hid (Er w v n p∧Ety w):=⟨h,hg⟩
 obtain⟨T,x,rfl⟩:=h.face
 clear h hg
 go_enter func64,ntmps64
 go_wp2_with fail
 refine cE.mono ?_
 rintro e w1 ⟨rfl,hb⟩
 have HB:=zH hb
 have cP:=PY (HE.out.1.on hb) (HE.out.2.on hb)
 clear cE hb
 go_wp2_with fail
 refine cP.mono ?_
 rintro e w2 ⟨rfl,hb⟩
 have HB2:=zH (Qd HB.out hb)
 clear cP hb
 go_wp2_with fail
 exact bodyPost_ret (KQ (p:=2) (u:=3) rfl _ _) rfl ⟨rfl,HB2.out⟩
theorem Qak (w:yW) :
  Calls zG 64 #[.nilIface] w fun e w'=>e=.returned (.tuple #[zI 0,zI 0])∧w'=w:=by
 go_enter func64,ntmps64
 go_wp2_with fail
 exact bodyPost_ret (KQ (p:=2) (u:=3) rfl _ _) rfl ⟨rfl,rfl⟩
set_option maxHeartbeats 4000000
set_option linter.unusedVariables false
theorem FlAt.er {w:yW}{b:Nat}{c:yB}{p no:Int}(h:FlAt w b c p no):Er w (.iface 184 (zP b)) no p:=.inr (.inl ⟨b,c,rfl,h⟩)
theorem QaW (F:Nat) (c:yB) (p no:Int) (w:yW) (hF:FlAt w F c p no) (hg:Ety w) :
  Calls zG 182 #[.iface 184 (zP F)] w fun e w'=>∃ v,e=.returned v∧Er w' v no p∧yD w w':=by
 have b1:=Qb w (.cells #[.string Z6,zI 0,.iface 184 (zP F)] 186)
 have n1:=Qc w (.cells #[.string Z6,zI 0,.iface 184 (zP F)] 186)
 have s1:=Qe w (.cells #[.string Z6,zI 0,.iface 184 (zP F)] 186)
 obtain⟨W1,e1⟩:∃ W,w.alloc (.cells #[.string Z6,zI 0,.iface 184 (zP F)] 186)=W:=jV
 have E1:=zH e1
 rw [e1] at b1 n1 s1
 have b2:=Qb W1 (.cells #[.pointer none] 184)
 have n2:=Qc W1 (.cells #[.pointer none] 184)
 have k2:=(b2.block _ (zJ n1).1).trans n1
 have bw:=Qd b1 b2
 rw [s1] at n2
 have HS1:=zH s1
 obtain⟨W2,e2⟩:∃ W,W1.alloc (.cells #[.pointer none] 184)=W:=jV
 have E2:=zH e2
 rw [e2] at n2 k2 bw
 have hFlt:=(zJ hF).1
 have cA:=QbN F¢0 ⟨w§+1,0,none⟩ (.pointer none) W2 (hg.on bw) (Qa n2 0) (Qf n2 0)
 have HB:=zH bw
 have HK:Hid (W2.heap[w§]? = (zC #[.string Z6,zI 0,.iface 184 (zP F)] 186)∧W2.heap[w§+1]? = (zC #[.pointer none] 184)∧FlAt W2 F c p no):=⟨k2,n2,hF.on bw⟩
 clear b1 n1 s1 b2 n2 k2 bw e1 e2 hg hF
 go_enter func182,ntmps182
 go_upto_region 3 with fail
 rw [E1.out]
 try rw [HS1.out]
 rw [E2.out]
 clear E1 E2 HS1
 go_wp2_with fail
 refine cA.mono ?_
 rintro e w3 ⟨rfl,V,hV,rfl⟩
 have h1:=(hV.block _ (zJ HK.out.1).1).trans HK.out.1
 have h2:=(hV.block _ (zJ HK.out.2.1).1).trans HK.out.2.1
 have h3:=HK.out.2.2.on hV
 have hb:=Qd HB.out hV
 obtain⟨U,eU⟩:∃ U,V.setCell ⟨w§+1,0,none⟩ (zP F)=U:=jV
 have q2:=heap_setCell_same V (w§+1) 0 _ _ (zP F) h2
 have q1:=(Below.heap_setCell V ⟨w§+1,0,none⟩ (zP F) w§ (by simp)).trans h1
 have q3:=(Below.heap_setCell V ⟨w§+1,0,none⟩ (zP F) F (by simp;omega)).trans h3
 have qb:=hb.setCell (p:=⟨w§+1,0,none⟩) (by simp) (zP F)
 rw [eU] at q1 q2 q3 qb ⊢
 have t0:zQ U ⟨w§+1,0,none⟩ (zP F):=Qa q2 0
 have t1:zQ U F¢1 (zI p):=Qa q3 1
 have t2:zQ U w§¢1 (zI 0):=Qa q1 1
 have t3:=Qf q1 1
 have HQ:Hid (U.heap[w§]? = (zC #[.string Z6,zI 0,.iface 184 (zP F)] 186)∧FlAt U F c p no∧yD w U):=⟨q1,q3,qb⟩
 clear h1 h2 h3 hb eU q1 q2 q3 qb cA hV HK HB
 go_wp2
 go_ret
 refine⟨_,rfl,.inr (.inr (.inl ⟨w§,_,F,c,p,rfl,heap_setCell_same U w§ 1 _ _ _ HQ.out.1,?_⟩)),HQ.out.2.2.setCell (by simp) _⟩
 exact (Below.heap_setCell U w§¢1 _ F (by simp;omega)).trans HQ.out.2.1
set_option maxHeartbeats 8000000
def WghD (d:DoM) (n r:Int):Prop:=0≤r∧r≤n+900000000000000∧(r≤1048576→DoZ d)
theorem Px (d:DoM) (w:yW) (n:Int) (hl:DoL w d) (h1:0≤n) (h2:n≤2251799813685248):Calls zG 53 #[.agg d.vals,zI n] w fun e w'=>(∃ r,e=.returned (zI r)∧WghD d n r)∧yD w w':=by
 have hb0:=Qb w (.cells d.vals 121)
 have hn0:=Qc w (.cells d.vals 121)
 have hx:d.x.size≤140737488355328:=hl.2.2.2.2.2.2.2
 have HH:Hid (DoL w d∧0≤n∧n≤2251799813685248∧(d.x.size:Int)≤140737488355328):=⟨hl,h1,h2,by omega⟩
 have HN0:=zH hn0
 have HB0:=zH hb0
 have q2:(zA w d.vals 121).cell? w§¢2=some (.string d.x):=Qa hn0 2
 have g1:n+(d.x.size:Int)≤jX:=by omega
 have g2:-9223372036854775808≤n+(d.x.size:Int):=by omega
 have c1:=JP d.sd (zA w d.vals 121) (n+(d.x.size:Int)) (hl.1.on hb0) zY zY
 clear hl h1 h2 hx hb0 hn0
 go_enter func53,ntmps53
 go_wp2_with (refine wpList_load_mid rfl 38 _ rfl w§ 3 rfl d.sd.vals.toList _ (QE HN0.out 3 d.sd (Ui d)) underlying38 rfl (QD d.sd) ?_;rw [QQ])
 refine c1.mono ?_
 rintro e w1 ⟨⟨r1,rfl,hr1⟩,hb⟩
 have HR1:=zH hr1
 have HB1:=zH (Qd HB0.out hb)
 have HD1:Hid (w1.heap[w§]? = (zC d.vals 121)):=(hb.block _ (zJ HN0.out).1).trans HN0.out
 have c2:=JP d.qt w1 r1 (HH.out.1.2.1.on HB1.out) hr1.1 (by have h1:=hr1.2.1;have h2:=HH.out.2;omega)
 clear c1 hr1 hb q2 HN0 HB0
 go_wp2_with (refine wpList_load_mid rfl 38 _ rfl w§ 11 rfl d.qt.vals.toList _ (QE HD1.out 11 d.qt (Uj d)) underlying38 rfl (QD d.qt) ?_;rw [QQ])
 refine c2.mono ?_
 rintro e w2 ⟨⟨r2,rfl,hr2⟩,hb⟩
 have HR2:Hid (Wgt d.qt r1 r2):=hr2
 have HB2:=zH (Qd HB1.out hb)
 have HD2:Hid (w2.heap[w§]? = (zC d.vals 121)):=(hb.block _ (zJ HD1.out).1).trans HD1.out
 have c3:=JP d.pr w2 r2 (HH.out.1.2.2.1.on HB2.out) hr2.1 (by have h1:=hr2.2.1;have h3:=HR1.out.2.1;have h2:=HH.out.2;omega)
 clear c2 hr2 hb HD1 HB1
 go_wp2_with (refine wpList_load_mid rfl 38 _ rfl w§ 19 rfl d.pr.vals.toList _ (QE HD2.out 19 d.pr (Uk d)) underlying38 rfl (QD d.pr) ?_;rw [QQ])
 refine c3.mono ?_
 rintro e w3 ⟨⟨r3,rfl,hr3⟩,hb⟩
 have HR3:Hid (Wgt d.pr r2 r3):=hr3
 have HB3:=zH (Qd HB2.out hb)
 have HD3:Hid (w3.heap[w§]? = (zC d.vals 121)):=(hb.block _ (zJ HD2.out).1).trans HD2.out
 have c4:=JP d.vl w3 r3 (HH.out.1.2.2.2.1.on HB3.out) hr3.1 (by have h1:=hr3.2.1;have h4:=HR2.out.2.1;have h3:=HR1.out.2.1;have h2:=HH.out.2;omega)
 clear c3 hr3 hb HD2 HB2
 go_wp2_with (refine wpList_load_mid rfl 38 _ rfl w§ 27 rfl d.vl.vals.toList _ (QE HD3.out 27 d.vl (Uh d)) underlying38 rfl (QD d.vl) ?_;rw [QQ])
 refine c4.mono ?_
 rintro e w4 ⟨⟨r4,rfl,hr4⟩,hb⟩
 have HR4:Hid (Wgt d.vl r3 r4):=hr4
 have HB4:=zH (Qd HB3.out hb)
 clear c4 hr4 hb
 go_wp2
 go_ret
 have a1:=HR1.out;have a2:=HR2.out;have a3:=HR3.out;have a4:=HR4.out;have a0:=HH.out.2
 have s1:=Xx d.sd;have s2:=Xx d.qt;have s3:=Xx d.pr;have s4:=Xx d.vl
 refine⟨⟨r4,rfl,a4.1,by have b1:=a1.2.1;have b2:=a2.2.1;have b3:=a3.2.1;have b4:=a4.2.1;omega,fun hh=>?_⟩,HB4.out⟩
 have e4:=a4.2.2 hh
 have e3:=a3.2.2 zY
 have e2:=a2.2.2 zY
 have e1:=a1.2.2 zY
 exact⟨by omega,by omega,by omega,by omega⟩
set_option maxHeartbeats 16000000
open Go.Sort
theorem wr64 {n:Int}(h1:-9223372036854775808≤n) (h2:n≤jX):IntKind.i64.wrap n=n:=by rw [IntKind.wrap_i64];omega
theorem Uw {α:Type}{l:List α}{i:Nat}(h:i < l.length) {P:α→Prop}(h1:∀ x ∈ l.take i,P x) (h2:P l[i]):∀ x ∈ l.take (i+1),P x:=by
 intro x hx
 rw [List.take_succ_eq_append_getElem h] at hx
 rcases List.mem_append.1 hx with h3 | h3
 ·exact h1 x h3
 ·obtain rfl:=List.mem_singleton.1 h3;exact h2
def WghS (S:Qg) (r:Int):Prop:=0≤r∧r≤2000000000000000∧(r≤1048576→Q2 S)
theorem FL (S:Qg) (w:yW) (hl:Qr w S):Calls zG 27 #[.agg S.vals] w fun e w'=>(∃ r,e=.returned (zI r)∧WghS S r)∧yD w w':=by
 have hb0:=Qb w (.cells S.vals 26)
 have hn0:=Qc w (.cells S.vals 26)
 have hx:S.x.size≤140737488355328:=hl.2.2.2.2.2.2
 have HXS:Hid ((S.x.size:Int)≤140737488355328):=by show (S.x.size:Int)≤_;omega
 have q0:(zA w S.vals 26).cell? w§¢0=some (.string S.x):=Qa hn0 0
 obtain⟨V,eV⟩:∃ V,w.alloc (.cells S.vals 26)=V:=jV
 have HV:=zH eV
 have BOX:Hid (∀ u,yD V u→u.heap[w§]? = (zC S.vals 26)):=fun u hu=>by rw [← eV] at hu;exact (hu.block _ (zJ hn0).1).trans hn0
 have HBV:Hid (yD w V):=by show yD w V;rw [← eV];exact hb0
 have HL:Hid (Qr V S):=hl.on HBV.out
 clear hl hb0 hn0 eV hx
 go_enter func27,ntmps27
 go_wp2_with fail
 rw [HV.out]
 clear q0 HV
 go_loopw [3,4] (fun v t wr=>∃ (i:Nat) (z:Int),i≤S.rs.length∧t=zI i∧v=zI z∧yD V wr∧Hid (0≤z∧z≤1000000000000000)) (fun _ t _=>S.rs.length - (intOf t).toNat)
 case atStart=>exact⟨0,(S.x.size:Int),by omega,rfl,rfl,Below.refl _ _,by omega,by have:=HXS.out;omega⟩
 case round =>
  obtain⟨i,z,hi,rfl,rfl,hbr,HR⟩:=hrel
  have HBR:=zH hbr
  clear hbr
  have q1:zQ wr w§¢1 (.slice S.ra S.rs.length S.rc):=Qa (BOX.out _ HBR.out) 1
  by_cases hlt:i < S.rs.length
  ·have hlt':(i:Int) < (S.rs.length:Int):=by omega
   by_cases hz:z≤1048576
   ·have hmx:(i:Int)+1≤jX:=by have h1:=HL.out.1.1;have h2:=HL.out.1.2.1;rw [List.length_map] at h1;omega
    obtain⟨b,o,ea,hat⟩:=(HL.out.1.on (mapz RegM.sz _) HBR.out).2.2 i (by rw [List.length_map];exact hlt)
    simp only [List.getElem_map] at hat
    have HMEM:Hid (RegL V S.rs[i]):=HL.out.2.1 _ (List.getElem_mem hlt)
    obtain⟨d,ed⟩:∃ d,S.rs[i]=d:=jV
    rw [ed] at hat HMEM
    have y0:zQ wr ⟨b,o+i * 11,none⟩ (.string d.x):=hat 0 zY
    have HRG:Hid (wr.rangeAt b (o+i * 11+2) d.m.vals.toList):=fun j v hv=>by
     have hj:j < 8:=(List.getElem?_eq_some_iff.1 hv).1
     have:=hat (2+j) zY
     rw [show o+i * 11+2+j=o+i * 11+(2+j) by omega,this,Qbf d j hj,← hv]
    have HDX:Hid ((d.x.size:Int)≤140737488355328):=by have:d.x.size≤140737488355328:=HMEM.out.2.2.2;show (d.x.size:Int)≤_;omega
    have g1:z+1≤jX:=by omega
    have g2:-9223372036854775808≤z+1:=by have:=HR.out;omega
    have g3:z+1+(d.x.size:Int)≤jX:=by have:=HDX.out;omega
    have g4:-9223372036854775808≤z+1+(d.x.size:Int):=by have:=HR.out;omega
    rw [ea] at q1
    have hd2:∀ j,j < 8→wr.cell? ⟨b,o+i * 11+2+j,none⟩=d.m.vals.toList[j]?:=fun j hj=>by
     have:=hat (2+j) zY
     rw [show o+i * 11+2+j=o+i * 11+(2+j) by omega,this,Qbf d j hj]
    have HKP:Hid (∀ v,GB wr v→zQ v w§¢1 (.slice (some b¢o) S.rs.length S.rc)∧zQ v ⟨b,o+i * 11,none⟩ (.string d.x)∧zQ v ⟨b,o+i * 11+2,none⟩ (zU d.m.h.k)∧zQ v ⟨b,o+i * 11+2+1,none⟩ (zU d.m.h.o)∧zQ v ⟨b,o+i * 11+2+2,none⟩ (zU d.m.h.t)∧zQ v ⟨b,o+i * 11+2+3,none⟩ (zI d.m.h.n)∧zQ v ⟨b,o+i * 11+2+4,none⟩ (zU d.m.h.f)∧zQ v ⟨b,o+i * 11+2+5,none⟩ (.string d.m.h.x)∧zQ v ⟨b,o+i * 11+2+6,none⟩ (.slice d.m.a d.m.ks.length d.m.c)∧zQ v ⟨b,o+i * 11+2+7,none⟩ (zI d.m.h.p)∧GB wr v):=fun v hv=>by
     have kp:∀ (a:Addr) (x:Value),wr.cell? a=some x→v.cell? a=some x:=fun a x h=>(World.cell?_of_block (hv.block _ (World.block_lt_of_cell? wr _ h))).trans h
     exact⟨kp _ _ q1,kp _ _ y0,kp _ _ (hd2 0 zY),kp _ _ (hd2 1 zY),kp _ _ (hd2 2 zY),kp _ _ (hd2 3 zY),kp _ _ (hd2 4 zY),kp _ _ (hd2 5 zY),kp _ _ (hd2 6 zY),kp _ _ (hd2 7 zY),hv⟩
    have c1:∀ v,GB wr v→Calls zG 28 #[.agg #[zU d.m.h.k,zU d.m.h.o,zU d.m.h.t,zI d.m.h.n,zU d.m.h.f,.string d.m.h.x,.slice d.m.a d.m.ks.length d.m.c,zI d.m.h.p],zI (z+1+(d.x.size:Int)),zI 0] v fun e w'=>(∃ r,e=.returned (zI r)∧Wgt d.m (z+1+(d.x.size:Int)) r)∧yD v w':=fun v hv=>JP d.m v (z+1+(d.x.size:Int)) ((HMEM.out.1.on HBR.out).on hv) (by have:=HR.out;omega) (by have:=HDX.out;omega)
    have y1:zQ wr ⟨b,o+i * 11+2,none⟩ (zU d.m.h.k):=hd2 0 zY
    clear hat ed ea hd2
    go_upto_region 5 with fail
    obtain⟨r,er⟩:∃ r,wgE d.m (z+1+(d.x.size:Int)) 0=r:=jV
    have hr:Wgt d.m (z+1+(d.x.size:Int)) r:=by rw [← er];exact QcT HMEM.out.1 (by have:=HR.out;omega)
    have cq:∀ dq os,Calls zG 28 #[.agg #[zU d.m.h.k,zU d.m.h.o,zU d.m.h.t,zI d.m.h.n,zU d.m.h.f,.string d.m.h.x,.slice d.m.a d.m.ks.length d.m.c,zI d.m.h.p],zI (z+1+(d.x.size:Int)),zI 0] (grow (redrawn wr dq) os) fun e w''=>e=.returned (zI r)∧∃ p:Regrown,w''=grow (redrawn wr p.d) p.os:=fun dq os=>Calls.regrown_of (by rw [← er];exact VJ d.m _ (z+1+(d.x.size:Int)) 0 ((HMEM.out.1.on HBR.out).on (below_regrown wr dq os)) (by have:=HR.out;omega) (by have:=HDX.out;omega) zY zY)
    obtain⟨l1,l0,m0,m1,m2,m3,m4,m5,m6,m7,_⟩:=HKP.out wr (GB.refl _)
    have k1:=cell_regrown l1
    have k0:=cell_regrown l0
    have j0:=cell_regrown m0
    have j1:=cell_regrown m1
    have j2:=cell_regrown m2
    have j3:=cell_regrown m3
    have j4:=cell_regrown m4
    have j5:=cell_regrown m5
    have j6:=cell_regrown m6
    have j7:=cell_regrown m7
    have hw1:IntKind.i64.wrap (z+1)=z+1:=wr64 g2 g1
    have hw2:IntKind.i64.wrap (z+1+(d.x.size:Int))=z+1+(d.x.size:Int):=wr64 g4 g3
    refine wp_region_quiet_below zK zK ?_
    repeat (quiet_step (first | (simp only [hw1,hw2];exact cq _ _) | exact cq _ _))
    refine wpQuiet_nil ?_
    intro _ hw'
    obtain⟨⟨dq,osq⟩,hw''⟩:=hw'
    subst hw''
    have HB5:=zH (Qd HBR.out (below_regrown wr dq osq))
    generalize grow (redrawn wr dq) osq=w5 at HB5 ⊢
    have HR5:Hid (0≤r∧r≤1000000000000000):=⟨hr.1,by have h1:=hr.2.1;have h2:=HDX.out;omega⟩
    clear hr er cq c1 q1 y0 y1 l1 l0 m0 m1 m2 m3 m4 m5 m6 m7 k1 k0 j0 j1 j2 j3 j4 j5 j6 j7 hw1 hw2 HKP
    go_wp2_with fail
    exact⟨⟨i+1,r,hlt,rfl,rfl,HB5.out,HR5.out⟩,by simp only [intOf];omega⟩
   ·go_wp2_with fail
    go_loopw [3,5] (fun v t wr=>t=zI 0∧v=zI z∧yD V wr) (fun _ _ _=>0)
    case atStart=>exact⟨rfl,rfl,HBR.out⟩
    case round =>
     obtain⟨rfl,rfl,hx2⟩:=hrel
     have HX2:=zH hx2
     clear hx2
     have p2:zQ wr w§¢2 (.slice S.sa S.ss.length S.sc):=Qa (BOX.out _ HX2.out) 2
     by_cases hl2:(0:Int) < (S.ss.length:Int)
     ·go_wp2_with fail
      go_loopw [3,6] (fun v t wr=>t=zI 0∧v=zI z∧yD V wr) (fun _ _ _=>0)
      case atStart=>exact⟨rfl,rfl,HX2.out⟩
      case round =>
       obtain⟨rfl,rfl,hx3⟩:=hrel
       have HX3:=zH hx3
       clear hx3
       have p3:zQ wr w§¢3 (.slice S.ta S.ts.length S.tc):=Qa (BOX.out _ HX3.out) 3
       by_cases hl3:(0:Int) < (S.ts.length:Int)
       ·go_wp2
        go_ret
        exact⟨⟨_,rfl,HR.out.1,by have:=HR.out.2;omega,fun hh=>absurd hh zY⟩,Qd HBV.out HX3.out⟩
       ·go_wp2
        go_ret
        exact⟨⟨_,rfl,HR.out.1,by have:=HR.out.2;omega,fun hh=>absurd hh zY⟩,Qd HBV.out HX3.out⟩
     ·go_wp2_with fail
      go_loopw [3,6] (fun v t wr=>t=zI 0∧v=zI z∧yD V wr) (fun _ _ _=>0)
      case atStart=>exact⟨rfl,rfl,HX2.out⟩
      case round =>
       obtain⟨rfl,rfl,hx3⟩:=hrel
       have HX3:=zH hx3
       clear hx3
       have p3:zQ wr w§¢3 (.slice S.ta S.ts.length S.tc):=Qa (BOX.out _ HX3.out) 3
       by_cases hl3:(0:Int) < (S.ts.length:Int)
       ·go_wp2
        go_ret
        exact⟨⟨_,rfl,HR.out.1,by have:=HR.out.2;omega,fun hh=>absurd hh zY⟩,Qd HBV.out HX3.out⟩
       ·go_wp2
        go_ret
        exact⟨⟨_,rfl,HR.out.1,by have:=HR.out.2;omega,fun hh=>absurd hh zY⟩,Qd HBV.out HX3.out⟩
  ·obtain rfl:i=S.rs.length:=by omega
   have hnot:¬ (S.rs.length:Int) < (S.rs.length:Int):=by omega
   go_wp2_with fail
   go_loopw [3,5] (fun v t wr=>∃ (i2:Nat) (z2:Int),i2≤S.ss.length∧t=zI i2∧v=zI z2∧yD V wr∧Hid (0≤z2∧z2≤1000000000000000)) (fun _ t _=>S.ss.length - (intOf t).toNat)
   case atStart=>exact⟨0,z,by omega,rfl,rfl,HBR.out,HR.out⟩
   case round =>
    obtain⟨i2,z2,hi2,rfl,rfl,hbr2,HR2⟩:=hrel
    have HBR2:=zH hbr2
    clear hbr2 q1 HBR HR
    have q2:zQ wr w§¢2 (.slice S.sa S.ss.length S.sc):=Qa (BOX.out _ HBR2.out) 2
    by_cases hlt:i2 < S.ss.length
    ·have hlt':(i2:Int) < (S.ss.length:Int):=by omega
     by_cases hz:z2≤1048576
     ·have hmx:(i2:Int)+1≤jX:=by have h1:=HL.out.2.2.1.1;have h2:=HL.out.2.2.1.2.1;rw [List.length_map] at h1;omega
      obtain⟨b,o,ea,hat⟩:=(HL.out.2.2.1.on (mapz Qx.sz _) HBR2.out).2.2 i2 (by rw [List.length_map];exact hlt)
      simp only [List.getElem_map] at hat
      have HMEM:Hid (UN S.ss[i2]):=HL.out.2.2.2.1 _ (List.getElem_mem hlt)
      obtain⟨d,ed⟩:∃ d,S.ss[i2]=d:=jV
      rw [ed] at hat HMEM
      have y0:zQ wr ⟨b,o+i2 * 2,none⟩ (.string d.x):=hat 0 zY
      have HDX:Hid ((d.x.size:Int)≤140737488355328):=by have:d.x.size≤140737488355328:=HMEM.out.2;show (d.x.size:Int)≤_;omega
      have g1:z2+1≤jX:=by omega
      have g2:-9223372036854775808≤z2+1:=by have:=HR2.out;omega
      have g3:z2+1+(d.x.size:Int)≤jX:=by have:=HDX.out;omega
      have g4:-9223372036854775808≤z2+1+(d.x.size:Int):=by have:=HR2.out;omega
      rw [ea] at q2
      clear hat ed ea
      go_wp2_with fail
      exact⟨⟨i2+1,z2+1+(d.x.size:Int),hlt,rfl,rfl,HBR2.out,by have:=HR2.out;omega,by have:=HDX.out;omega⟩,by simp only [intOf];omega⟩
     ·go_wp2_with fail
      go_loopw [3,6] (fun v t wr=>t=zI 0∧v=zI z2∧yD V wr) (fun _ _ _=>0)
      case atStart=>exact⟨rfl,rfl,HBR2.out⟩
      case round =>
       obtain⟨rfl,rfl,hx3⟩:=hrel
       have HX3:=zH hx3
       clear hx3
       have p3:zQ wr w§¢3 (.slice S.ta S.ts.length S.tc):=Qa (BOX.out _ HX3.out) 3
       by_cases hl3:(0:Int) < (S.ts.length:Int)
       ·go_wp2
        go_ret
        exact⟨⟨_,rfl,HR2.out.1,by have:=HR2.out.2;omega,fun hh=>absurd hh zY⟩,Qd HBV.out HX3.out⟩
       ·go_wp2
        go_ret
        exact⟨⟨_,rfl,HR2.out.1,by have:=HR2.out.2;omega,fun hh=>absurd hh zY⟩,Qd HBV.out HX3.out⟩
    ·obtain rfl:i2=S.ss.length:=by omega
     have hnot2:¬ (S.ss.length:Int) < (S.ss.length:Int):=by omega
     go_wp2_with fail
     go_loopw [3,6] (fun v t wr=>∃ (i3:Nat) (z3:Int),i3≤S.ts.length∧t=zI i3∧v=zI z3∧yD V wr∧Hid (0≤z3∧z3≤1000000000000000∧(z3≤1048576→∀ x ∈ S.ts.take i3,XW x))) (fun _ t _=>S.ts.length - (intOf t).toNat)
     case atStart=>exact⟨0,z2,by omega,rfl,rfl,HBR2.out,HR2.out.1,HR2.out.2,fun _ x hx=>by simp at hx⟩
     case round =>
      obtain⟨i3,z3,hi3,rfl,rfl,hbr3,HR3⟩:=hrel
      have HBR3:=zH hbr3
      clear hbr3 q2 HBR2 HR2
      have q3:zQ wr w§¢3 (.slice S.ta S.ts.length S.tc):=Qa (BOX.out _ HBR3.out) 3
      by_cases hlt:i3 < S.ts.length
      ·have hlt':(i3:Int) < (S.ts.length:Int):=by omega
       by_cases hz:z3≤1048576
       ·have hmx:(i3:Int)+1≤jX:=by have h1:=HL.out.2.2.2.2.1.1;have h2:=HL.out.2.2.2.2.1.2.1;rw [List.length_map] at h1;omega
        obtain⟨b,o,ea,hat⟩:=(HL.out.2.2.2.2.1.on (mapz Qq.sz _) HBR3.out).2.2 i3 (by rw [List.length_map];exact hlt)
        simp only [List.getElem_map] at hat
        have HMEM:Hid (JX V S.ts[i3]):=HL.out.2.2.2.2.2.1 _ (List.getElem_mem hlt)
        have HPR:Hid (XW S.ts[i3]→∀ x ∈ S.ts.take (i3+1),XW x):=fun h=>Uw hlt (HR3.out.2.2 hz) h
        obtain⟨d,ed⟩:∃ d,S.ts[i3]=d:=jV
        rw [ed] at hat HMEM HPR
        have y0:zQ wr ⟨b,o+i3 * 3,none⟩ (.string d.x):=hat 0 zY
        have y1:zQ wr ⟨b,o+i3 * 3+1,none⟩ (.slice d.a d.rs.length d.c):=hat 1 zY
        have HDX:Hid ((d.x.size:Int)≤140737488355328):=by have:d.x.size≤140737488355328:=HMEM.out.2.2.2;show (d.x.size:Int)≤_;omega
        have g1:z3+1≤jX:=by omega
        have g2:-9223372036854775808≤z3+1:=by have:=HR3.out;omega
        have g3:z3+1+(d.x.size:Int)≤jX:=by have:=HDX.out;omega
        have g4:-9223372036854775808≤z3+1+(d.x.size:Int):=by have:=HR3.out;omega
        have HZ0:Hid (0≤z3+1+(d.x.size:Int)∧z3+1+(d.x.size:Int)≤1000000000000000):=⟨by have:=HR3.out;omega,by have:=HDX.out;omega⟩
        rw [ea] at q3
        clear hat ed ea HR3
        go_wp2_with fail
        clear g1 g2 g3 g4 y0 y1 q3
        go_loopw [3,8] (fun v t wr=>∃ (k:Nat) (z4:Int),k≤d.rs.length∧t=zI k∧v=zI z4∧yD V wr∧Hid (0≤z4∧z4≤1000000000000000∧(z4≤1048576→∀ x ∈ d.rs.take k,VA x))) (fun _ t _=>d.rs.length - (intOf t).toNat)
        case atStart=>exact⟨0,_,by omega,rfl,rfl,HBR3.out,HZ0.out.1,HZ0.out.2,fun _ x hx=>by simp at hx⟩
        case round =>
         obtain⟨k,z4,hk,rfl,rfl,hbr4,HR4⟩:=hrel
         have HBR4:=zH hbr4
         clear hbr4
         by_cases hlk:k < d.rs.length
         ·have hlk':(k:Int) < (d.rs.length:Int):=by omega
          by_cases hz4:z4≤1048576
          ·have hmk:(k:Int)+1≤jX:=by have h1:=HMEM.out.1.1;have h2:=HMEM.out.1.2.1;rw [List.length_map] at h1;omega
           obtain⟨b7,o7,ea7,hat0⟩:=HMEM.out.1.2.2 k (by rw [List.length_map];exact hlk)
           have HAT7:Hid (∀ u,yD V u→∀ j,j < 10→u.cell? ⟨b7,o7+k * 10+j,none⟩=(d.rs[k]).vals[j]?):=fun u hu j hj=>by
            obtain⟨b8,o8,e8,hat8⟩:=(HMEM.out.1.on (mapz Qy.sz _) hu).2.2 k (by rw [List.length_map];exact hlk)
            rw [ea7] at e8
            cases e8
            have:=hat8 j hj
            simp only [List.getElem_map] at this
            exact this
           have HM7:Hid (J5 V d.rs[k]):=HMEM.out.2.1 _ (List.getElem_mem hlk)
           have HP7:Hid (VA d.rs[k]→∀ x ∈ d.rs.take (k+1),VA x):=fun h=>Uw hlk (HR4.out.2.2 hz4) h
           obtain⟨q,eq⟩:∃ q,d.rs[k]=q:=jV
           rw [eq] at HAT7 HM7 HP7
           have HRG7:Hid (wr.rangeAt b7 (o7+k * 10) q.m.vals.toList):=fun j v hv=>by
            have hj:j < 8:=(List.getElem?_eq_some_iff.1 hv).1
            have h1:=F5 q j hj
            rw [Nat.zero_add] at h1
            rw [HAT7.out _ HBR4.out j zY,h1,← hv]
           have c4:=JP q.m wr (z4+1) (HM7.out.1.on HBR4.out) (by have:=HR4.out;omega) zY
           have k1:z4+1≤jX:=by omega
           have k2:-9223372036854775808≤z4+1:=by have:=HR4.out;omega
           rw [ea7]
           clear hat0 eq
           go_wp2_with (refine wpList_load_mid rfl 38 _ rfl b7 (o7+k * 10) rfl q.m.vals.toList _ HRG7.out underlying38 rfl (QD q.m) ?_;rw [QQ])
           refine c4.mono ?_
           rintro e w5 ⟨⟨r5,rfl,hr5⟩,hb5⟩
           have HB5:=zH (Qd HBR4.out hb5)
           have HR5:Hid (0≤r5∧r5≤1000000000000000∧(r5≤1048576→size q.m≤1000000000000)):=⟨hr5.1,by have:=hr5.2.1;omega,fun hh=>by have h1:=hr5.2.2 hh;have h2:=Xx q.m;have h3:=HR4.out.1;omega⟩
           clear c4 hr5 hb5 k1 k2 HRG7
           go_wp2_with fail
           go_loopw [3,9] (fun v t wr=>∃ (j:Nat) (z5:Int),j≤q.ds.length∧t=zI j∧v=zI z5∧yD V wr∧Hid (0≤z5∧z5≤1000000000000000∧(z5≤1048576→size q.m≤1000000000000∧∀ x ∈ q.ds.take j,DoZ x))) (fun _ t _=>q.ds.length - (intOf t).toNat)
           case atStart=>exact⟨0,r5,by omega,rfl,rfl,HB5.out,HR5.out.1,HR5.out.2.1,fun hh=>⟨HR5.out.2.2 hh,fun x hx=>by simp at hx⟩⟩
           case round =>
            obtain⟨j,z5,hj,rfl,rfl,hbr5,HR6⟩:=hrel
            have HBR5:=zH hbr5
            clear hbr5
            have p8:zQ wr ⟨b7,o7+k * 10+8,none⟩ (.slice q.a q.ds.length q.c):=HAT7.out _ HBR5.out 8 zY
            by_cases hlj:j < q.ds.length
            ·have hlj':(j:Int) < (q.ds.length:Int):=by omega
             by_cases hz5:z5≤1048576
             ·have hmj:(j:Int)+1≤jX:=by have h1:=HM7.out.2.1.1;have h2:=HM7.out.2.1.2.1;rw [List.length_map] at h1;omega
              obtain⟨b9,o9,ea9,hat9⟩:=(HM7.out.2.1.on (mapz DoM.sz _) HBR5.out).2.2 j (by rw [List.length_map];exact hlj)
              simp only [List.getElem_map] at hat9
              have HM9:Hid (DoL V q.ds[j]):=HM7.out.2.2.1 _ (List.getElem_mem hlj)
              have HP9:Hid (DoZ q.ds[j]→∀ x ∈ q.ds.take (j+1),DoZ x):=fun h=>Uw hlj (HR6.out.2.2 hz5).2 h
              obtain⟨x9,e9⟩:∃ x9,q.ds[j]=x9:=jV
              rw [e9] at hat9 HM9 HP9
              have HRG9:Hid (wr.rangeAt b9 (o9+j * 36) x9.vals.toList):=fun jj v hv=>by
               have hjj:jj < 36:=(List.getElem?_eq_some_iff.1 hv).1
               rw [hat9 jj hjj,← hv];simp
              have c9:=Px x9 wr (z5+1) (HM9.out.on HBR5.out) (by have:=HR6.out;omega) zY
              have k1:z5+1≤jX:=by omega
              have k2:-9223372036854775808≤z5+1:=by have:=HR6.out;omega
              rw [ea9] at p8
              clear hat9 e9 ea9
              go_wp2_with (refine wpList_load_mid rfl 121 _ rfl b9 (o9+j * 36) rfl x9.vals.toList _ HRG9.out underlying121 rfl (by show _=some 36;exact Qt) ?_;rw [Array.toArray_toList])
              refine c9.mono ?_
              rintro e w6 ⟨⟨r6,rfl,hr6⟩,hb6⟩
              have HB6:=zH (Qd HBR5.out hb6)
              have HR7:Hid (0≤r6∧r6≤1000000000000000∧(r6≤1048576→size q.m≤1000000000000∧∀ x ∈ q.ds.take (j+1),DoZ x)):=⟨hr6.1,by have:=hr6.2.1;omega,fun hh=>⟨(HR6.out.2.2 hz5).1,HP9.out (hr6.2.2 hh)⟩⟩
              clear c9 hr6 hb6 p8
              go_wp2_with fail
              exact⟨⟨j+1,r6,hlj,rfl,rfl,HB6.out,HR7.out⟩,by simp only [intOf];omega⟩
             ·go_wp2_with fail
              exact⟨⟨k+1,z5,hlk,rfl,rfl,HBR5.out,HR6.out.1,HR6.out.2.1,fun hh=>absurd hh zY⟩,by simp only [intOf];omega⟩
            ·obtain rfl:j=q.ds.length:=by omega
             have hnot5:¬ (q.ds.length:Int) < (q.ds.length:Int):=by omega
             go_wp2_with fail
             exact⟨⟨k+1,z5,hlk,rfl,rfl,HBR5.out,HR6.out.1,HR6.out.2.1,fun hh=>by have h1:=HR6.out.2.2 hh;rw [List.take_length] at h1;exact HP7.out h1⟩,by simp only [intOf];omega⟩
          ·go_wp2_with fail
           exact⟨⟨i3+1,z4,hlt,rfl,rfl,HBR4.out,HR4.out.1,HR4.out.2.1,fun hh=>absurd hh zY⟩,by simp only [intOf];omega⟩
         ·obtain rfl:k=d.rs.length:=by omega
          have hnot4:¬ (d.rs.length:Int) < (d.rs.length:Int):=by omega
          go_wp2_with fail
          exact⟨⟨i3+1,z4,hlt,rfl,rfl,HBR4.out,HR4.out.1,HR4.out.2.1,fun hh=>by have h1:=HR4.out.2.2 hh;rw [List.take_length] at h1;exact HPR.out h1⟩,by simp only [intOf];omega⟩
       ·go_wp2
        go_ret
        exact⟨⟨_,rfl,HR3.out.1,by have:=HR3.out.2.1;omega,fun hh=>absurd hh zY⟩,Qd HBV.out HBR3.out⟩
      ·obtain rfl:i3=S.ts.length:=by omega
       have hnot3:¬ (S.ts.length:Int) < (S.ts.length:Int):=by omega
       go_wp2
       go_ret
       exact⟨⟨_,rfl,HR3.out.1,by have:=HR3.out.2.1;omega,fun hh=>by have h1:=HR3.out.2.2 hh;rw [List.take_length] at h1;exact h1⟩,Qd HBV.out HBR3.out⟩
end Go.Proofs.YtfbjofnaghjmeaaGreatDoor
