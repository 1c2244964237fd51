import Derived.Test.YtfbjofnaghjmeaaGreatDoorA12
import Derived.Test.YtfbjofnaghjmeaaGreatDoorA11
namespace Go.Proofs.YtfbjofnaghjmeaaGreatDoor
open Go.Proofs.Tryz
set_option maxRecDepth 100000
set_option maxHeartbeats 4000000
open Go.RowKit
set_option linter.unusedVariables false
theorem all8 (m:Nd):m.vals.all (·.oneCell')=true:=by simp [Nd.vals,hdA,Value.oneCell']
def OutL {α β:Type}(vals:α→Array Value) (tr:α→β) (L:yW→α→Prop) (b:Nat) (K:PK) (w:yW) (r:β) (ts:List Tk) (e:Ending) (w':yW):Prop :=
 ∃ m:α,e=.returned (.agg (vals m))∧tr m=r∧Dp w w' (fun U=>L U m)∧Lv w' b K ts∧Mv w w' (fun k=>k=b)
def OutE (b:Nat) (K:PK) (w:yW) (r:Tr) (ts:List Tk):Ending→yW→Prop:=OutL Nd.vals Qs Lies b K w r ts
theorem Qas {w:yW}{b:Nat}{K:PK}{t:Tk}{ts:List Tk}(h:Lv w b K (t :: ts)) (hk:t.k=2) :
  Calls zG 175 #[zP b] w fun e w'=>e=.returned (.tuple #[.agg zd,.bool false])∧yD w w':=by
 have hb0:=Qb w (.cells zd 38)
 have HN0:Hid ((zA w zd 38).heap[w§]? = (zC zd 38)):=Qc _ _
 have HB0:=zH hb0
 have hz:=Qe w (.cells zd 38)
 obtain⟨W0,eW0⟩:∃ W,w.alloc (.cells zd 38)=W:=jV
 rw [eW0] at HB0 HN0 hb0 hz
 have cN:=QM (h.on hb0)
 unfold tkA at cN
 rw [hk] at cN
 clear h hk hb0
 go_enter func175,ntmps175
 go_wp2_with fail
 try rw [eW0]
 refine cN.mono ?_
 rintro e w1 ⟨rfl,hb⟩
 have h1:=Qb w1 (.cells #[zU 2,.string t.x,zU t.ty,zI t.n,zI t.p] 233)
 have h2:=Qb (zA w1 #[zU 2,.string t.x,zU t.ty,zI t.n,zI t.p] 233) (.cells #[zU 1,zU 0,zU 0,zI 0,zU 0,yQ,zO,zI t.p] 38)
 have hT:=(h2.block w1§ (by rw [Qe];omega)).trans (Qc w1 (.cells #[zU 2,.string t.x,zU t.ty,zI t.n,zI t.p] 233))
 have hb1:=Qd (Qd hb h1) h2
 have HB1:=Qd HB0.out hb1
 have HO:Hid (((zA w1 #[zU 2,.string t.x,zU t.ty,zI t.n,zI t.p] 233).alloc (.cells #[zU 1,zU 0,zU 0,zI 0,zU 0,yQ,zO,zI t.p] 38)).heap[w§]? = (zC zd 38)):=(hb1.block _ zY).trans HN0.out
 have HB1:=zH HB1
 clear cN hb HB0 HN0 eW0 h1 h2 hb1 hz
 go_upto_region 4 with fail
 obtain⟨V,eV⟩:∃ V,(zA w1 #[zU 2,.string t.x,zU t.ty,zI t.n,zI t.p] 233).alloc (.cells #[zU 1,zU 0,zU 0,zI 0,zU 0,yQ,zO,zI t.p] 38)=V:=jV
 rw [eV] at HO HB1 hT ⊢
 generalize w1§=Q at hT ⊢
 clear eV
 have k0:=Qa hT 0
 have k1:=Qa hT 1
 simp only [List.getElem?_toArray,List.getElem?_cons_zero,List.getElem?_cons_succ] at k0 k1
 clear hT
 go_upto_region 3 with fail
 go_wp2_with (refine wpList_store_row rfl 38 (.tmp 2) (.tmp 11) rfl w§ zd rfl rfl 38 _ HO.out Qj rfl (by simp [Value.oneCell']) ?_)
 exact bodyPost_ret (Qi (p:=2) (u:=3) (ty:=38) rfl _ _ w§ 38 zd (0,0) _ rfl (setRow_heap _ _ _ _ _ _ HO.out) underlying38 rfl Qj) rfl ⟨rfl,Qn HB1.out (Nat.le_refl _) _⟩
theorem XR {w:yW}{b:Nat}{K:PK}{t:Tk}{ts:List Tk}(h:Lv w b K (t :: ts)) (hk:t.k=1) (s1:(t.x.toList == [116,114,117,101])=false) (s2:(t.x.toList == [102,97,108,115,101])=false) (s3:(t.x.toList == [98,117,121])=false) (s4:(t.x.toList == [115,101,108,108])=false) :
  Calls zG 175 #[zP b] w fun e w'=>e=.returned (.tuple #[.agg zd,.bool false])∧yD w w':=by
 have hb0:=Qb w (.cells zd 38)
 have HN0:Hid ((zA w zd 38).heap[w§]? = (zC zd 38)):=Qc _ _
 have HB0:=zH hb0
 have hz:=Qe w (.cells zd 38)
 obtain⟨W0,eW0⟩:∃ W,w.alloc (.cells zd 38)=W:=jV
 rw [eW0] at HB0 HN0 hb0 hz
 have cN:=QM (h.on hb0)
 unfold tkA at cN
 rw [hk] at cN
 clear h hk hb0
 go_enter func175,ntmps175
 go_wp2_with fail
 try rw [eW0]
 refine cN.mono ?_
 rintro e w1 ⟨rfl,hb⟩
 have h1:=Qb w1 (.cells #[zU 1,.string t.x,zU t.ty,zI t.n,zI t.p] 233)
 have h2:=Qb (zA w1 #[zU 1,.string t.x,zU t.ty,zI t.n,zI t.p] 233) (.cells #[zU 1,zU 0,zU 0,zI 0,zU 0,yQ,zO,zI t.p] 38)
 have hT:=(h2.block w1§ (by rw [Qe];omega)).trans (Qc w1 (.cells #[zU 1,.string t.x,zU t.ty,zI t.n,zI t.p] 233))
 have hb1:=Qd (Qd hb h1) h2
 have HB1:=Qd HB0.out hb1
 have HO:Hid (((zA w1 #[zU 1,.string t.x,zU t.ty,zI t.n,zI t.p] 233).alloc (.cells #[zU 1,zU 0,zU 0,zI 0,zU 0,yQ,zO,zI t.p] 38)).heap[w§]? = (zC zd 38)):=(hb1.block _ zY).trans HN0.out
 have HB1:=zH HB1
 clear cN hb HB0 HN0 eW0 h1 h2 hb1 hz
 go_upto_region 4 with fail
 obtain⟨V,eV⟩:∃ V,(zA w1 #[zU 1,.string t.x,zU t.ty,zI t.n,zI t.p] 233).alloc (.cells #[zU 1,zU 0,zU 0,zI 0,zU 0,yQ,zO,zI t.p] 38)=V:=jV
 rw [eV] at HO HB1 hT ⊢
 generalize w1§=Q at hT ⊢
 clear eV
 have k0:=Qa hT 0
 have k1:=Qa hT 1
 simp only [List.getElem?_toArray,List.getElem?_cons_zero,List.getElem?_cons_succ] at k0 k1
 clear hT
 go_upto_region 3 with fail
 go_wp2_with (refine wpList_store_row rfl 38 (.tmp 2) (.tmp 11) rfl w§ zd rfl rfl 38 _ HO.out Qj rfl (by simp [Value.oneCell']) ?_)
 exact bodyPost_ret (Qi (p:=2) (u:=3) (ty:=38) rfl _ _ w§ 38 zd (0,0) _ rfl (setRow_heap _ _ _ _ _ _ HO.out) underlying38 rfl Qj) rfl ⟨rfl,Qn HB1.out (Nat.le_refl _) _⟩
theorem Xm {y x:yB}{L:List yB}(h:0≤fnd y L 0) (hx:fnd x L 0 = -1):¬ y=x:=fun e=>by rw [e,hx] at h;exact absurd h (by decide)
theorem J2 {a:yB}{l:Array UInt8}(h:¬ a=⟨l⟩):(a.toList == l.toList)=false:=by
 rw [ByteArray.toList_eq]
 exact beq_false_of_ne (fun h'=>h (QbM h'))
theorem Xn (y:yB):∀ (L:List yB) (k:Nat),fnd y L k < k+L.length:=by
 intro L
 induction L with
 | nil=>intro k;simp only [fnd];omega
 | cons x xs ih =>
  intro k
  rw [fnd]
  have:=ih (k+1)
  by_cases e:y=x
  ·rw [if_pos e];simp only [List.length_cons];omega
  ·rw [if_neg e];simp only [List.length_cons];push_cast at this;omega
theorem Qf5 {w:yW}{b:Nat}{K:PK}{t:Tk}{ts ts':List Tk}{r:Tr}(d:Int) (hK:KG K) (h:Lv w b K (t :: ts)) (hp:pLit (t :: ts)=some (r,ts')) :
  Calls zG 254 #[zP b,zI d] w (OutE b K w r ts'):=by
 have HG0:=((HX.new h 0 0).push zd 38).hid
 obtain⟨W0,eW0⟩:∃ W,w.alloc (.cells zd 38)=W:=jV
 rw [eW0] at HG0
 have cL:=Qhf hK HG0.out.S hp
 clear h hp hK
 go_enter func254,ntmps254
 go_wp2_with fail
 try rw [eW0]
 refine cL.mono ?_
 rintro e w1 ⟨m,rfl,htr,hl,hs,hm⟩
 have HG2:=(HX.rowA (pre:=[]) ((HG0.out.mv hm hs).push zd 38) m.vals).hid
 have HZ:Hid ((zA w1 zd 38).heap[w1§]? = (zC zd 38)):=Qc _ _
 have HR:Hid (Qs m=r∧∀ U,Lies U m):=⟨htr,hl⟩
 clear cL HG0 eW0 htr hl hs hm
 go_upto_region 2 with (refine wpList_store_row rfl 38 (.tmp 5) (.tmp 13) rfl w1§ m.vals rfl rfl 38 zd HZ.out Qj rfl (all8 m) ?_)
 generalize hW:World.setRow _ _ _=W1
 rw [hW] at HG2
 clear HZ hW
 have HF:=(HX.rowA (pre:=[_]) HG2.out m.vals).hid
 go_wp2_with (first | (refine wpList_load_row rfl 38 (.tmp 5) rfl w1§ rfl 38 m.vals (0,0) _ HG2.out.b0 underlying38 rfl Qj ?_) | (refine wpList_store_row rfl 38 (.tmp 4) (.tmp 16) rfl w§ m.vals rfl rfl 38 _ HG2.out.b1 Qj rfl (all8 m) ?_))
 exact bodyPost_ret (results_cell_row rfl _ _ w§ 38 m.vals (0,0) _ rfl HF.out.b1 underlying38 rfl Qj) rfl ⟨m,rfl,HR.out.1,fun U _=>HR.out.2 U,HF.out.S,HF.out.M⟩
theorem Qd3 {w:yW}{b:Nat}{K:PK}{t:Tk}{ts:List Tk}(d:Int) (hK:KG K) (h:Lv w b K (t :: ts)) (hk:t.k=2) :
  Calls zG 254 #[zP b,zI d] w (OutE b K w (.mk ⟨2,0,0,0,0,t.x,t.p⟩ []) ts):=by
 have HG0:=((HX.new h 0 0).push zd 38).hid
 obtain⟨W0,eW0⟩:∃ W,w.alloc (.cells zd 38)=W:=jV
 rw [eW0] at HG0
 have cL:=Qas HG0.out.S hk
 have HR:Hid (Rg ⟨2,0,0,0,0,t.x,t.p⟩):=by
  have hr:=(h.ok hK.k).r
  have:=hr.p0;have:=hr.p1;have:=hr.x1
  constructor <;> first | assumption | omega | (simp only;omega)
 clear h hK
 go_enter func254,ntmps254
 go_wp2_with fail
 try rw [eW0]
 refine cL.mono ?_
 rintro e w1 ⟨rfl,hb⟩
 have HG1:=((HG0.out.on hb).push zd 38).hid
 have cN:=QM HG1.out.S
 unfold tkA at cN
 rw [hk] at cN
 clear hk
 clear cL hb HG0 eW0
 go_wp2_with fail
 refine cN.mono ?_
 rintro e w2 ⟨rfl,hb⟩
 have HG2:=((HG1.out.on hb).push #[zU 2,.string t.x,zU t.ty,zI t.n,zI t.p] 233).hid
 clear cN hb HG1
 go_upto_region 5 with fail
 generalize w2.alloc _=W2 at HG2 ⊢
 generalize w2§=Q at HG2 ⊢
 have k0:=Qa HG2.out.b0 0
 have k1:=Qa HG2.out.b0 1
 have k4:=Qa HG2.out.b0 4
 simp only [List.getElem?_toArray,List.getElem?_cons_zero,List.getElem?_cons_succ] at k0 k1 k4
 obtain⟨i,c3,g3,hmx,hL,hM,ho,_⟩:=HG2.out.S.at'
 have HG3:=(HG2.out.mv hM hL).hid
 clear hL hM ho
 have nB:¬ b=Q:=by have:=HG2.out.W.1;have:=(HG2.out.B _ List.mem_cons_self).2;simp only at this;omega
 clear HG2
 go_upto_region 7 with fail
 generalize eV:W2.setCell b¢3 _=V at HG3 ⊢
 clear eV c3 g3 hmx k0 k1 k4 nB
 have k1:=Qa HG3.out.b0 1
 have k4:=Qa HG3.out.b0 4
 simp only [List.getElem?_toArray,List.getElem?_cons_zero,List.getElem?_cons_succ] at k1 k4
 have HF:=(HX.rowA (pre:=[_,_]) HG3.out #[zU 2,zU 0,zU 0,zI 0,zU 0,.string t.x,zO,zI t.p]).hid
 go_wp2_with (refine wpList_store_row rfl 38 (.tmp 4) (.tmp 33) rfl w§ #[zU 2,zU 0,zU 0,zI 0,zU 0,.string t.x,zO,zI t.p] rfl rfl 38 _ HG3.out.b2 Qj rfl (by simp [Value.oneCell']) ?_)
 exact bodyPost_ret (results_cell_row rfl _ _ w§ 38 #[zU 2,zU 0,zU 0,zI 0,zU 0,.string t.x,zO,zI t.p] (0,0) _ rfl HF.out.b2 underlying38 rfl Qj) rfl ⟨.mk ⟨2,0,0,0,0,t.x,t.p⟩ none 0 [],rfl,rfl,fun U _=>QH U HR.out,HF.out.S,HF.out.M⟩
theorem Qcg {w:yW}{b:Nat}{K:PK}{t:Tk}{ts:List Tk}(d:Int) (hK:KG K) (h:Lv w b K (t :: ts)) (hk:t.k=1) {v:Int}(hv:fnd t.x LF 0=v) (h0:0≤v) :
  Calls zG 254 #[zP b,zI d] w (OutE b K w (.mk ⟨3,0,0,0,v+1,gE,t.p⟩ []) ts):=by
 have HG0:=((HX.new h 0 0).push zd 38).hid
 obtain⟨W0,eW0⟩:∃ W,w.alloc (.cells zd 38)=W:=jV
 rw [eW0] at HG0
 have hf:0≤fnd t.x LF 0:=by rw [hv];exact h0
 have h6:v < 6:=by rw [← hv];exact Xn t.x LF 0
 have cL:=XR HG0.out.S hk (J2 (l:=#[116,114,117,101]) (Xm hf (by decide +kernel))) (J2 (l:=#[102,97,108,115,101]) (Xm hf (by decide +kernel))) (J2 (l:=#[98,117,121]) (Xm hf (by decide +kernel))) (J2 (l:=#[115,101,108,108]) (Xm hf (by decide +kernel)))
 have HR:Hid (Rg ⟨3,0,0,0,v+1,gE,t.p⟩):=by
  have hr:=(h.ok hK.k).r
  have:=hr.p0;have:=hr.p1
  constructor <;> first | assumption | omega | (simp only;omega) | (show gE.size≤140737488355328;decide)
 have HK:Hid (KG K):=hK
 clear h hK hf
 go_enter func254,ntmps254
 go_wp2_with fail
 try rw [eW0]
 refine cL.mono ?_
 rintro e w1 ⟨rfl,hb⟩
 have HG1:=((HG0.out.on hb).push zd 38).hid
 have cN:=QM HG1.out.S
 unfold tkA at cN
 rw [hk] at cN
 clear hk
 clear cL hb HG0 eW0
 go_wp2_with fail
 refine cN.mono ?_
 rintro e w2 ⟨rfl,hb⟩
 have HG2:=((HG1.out.on hb).push #[zU 1,.string t.x,zU t.ty,zI t.n,zI t.p] 233).hid
 clear cN hb HG1
 go_upto_region 5 with fail
 generalize w2.alloc _=W2 at HG2 ⊢
 generalize w2§=Q at HG2 ⊢
 have k0:=Qa HG2.out.b0 0
 have k1:=Qa HG2.out.b0 1
 have k4:=Qa HG2.out.b0 4
 simp only [List.getElem?_toArray,List.getElem?_cons_zero,List.getElem?_cons_succ] at k0 k1 k4
 have cA:=Jy HG2.out.S HK.out LF (n:=6) rfl (by decide) (by decide +kernel)
 rw [hv] at cA
 clear hv
 simp only [LF,List.map] at cA
 go_upto_region 8 with fail
 go_wp2_with fail
 refine cA.mono ?_
 rintro e w3 ⟨rfl,hb⟩
 have HG3:=(HG2.out.on hb).hid
 clear cA hb HG2 k0 k1 k4
 obtain⟨i,c3,g3,hmx,hL,hM,ho,_⟩:=HG3.out.S.at'
 have HG4:=(HG3.out.mv hM hL).hid
 clear hL hM ho HG3
 go_upto_region 11 with fail
 generalize eV:w3.setCell b¢3 _=V at HG4 ⊢
 clear eV c3 g3 hmx
 have k4:=Qa HG4.out.b0 4
 simp only [List.getElem?_toArray,List.getElem?_cons_zero,List.getElem?_cons_succ] at k4
 have HF:=(HX.rowA (pre:=[_,_]) HG4.out #[zU 3,zU 0,zU 0,zI 0,zU (v+1),yQ,zO,zI t.p]).hid
 go_wp2_with (refine wpList_store_row rfl 38 (.tmp 4) (.tmp 51) rfl w§ #[zU 3,zU 0,zU 0,zI 0,zU (v+1),yQ,zO,zI t.p] rfl rfl 38 _ HG4.out.b2 Qj rfl (by simp [Value.oneCell']) ?_)
 exact bodyPost_ret (results_cell_row rfl _ _ w§ 38 #[zU 3,zU 0,zU 0,zI 0,zU (v+1),yQ,zO,zI t.p] (0,0) _ rfl HF.out.b2 underlying38 rfl Qj) rfl ⟨.mk ⟨3,0,0,0,v+1,gE,t.p⟩ none 0 [],rfl,rfl,fun U _=>QH U HR.out,HF.out.S,HF.out.M⟩
theorem Kp {w:yW}{b:Nat}{K:PK}{V:yW}{bs:List (Nat × Nat × Array Value)}{e sz:Nat}{v:Value}{vs:List (Array Value)}{F:yW→Prop}{ts:List Tk}{m:Nd}{r:Tr}(h:HX w b K V bs e sz v vs F ts) (hr:Qs m=r) (hF:∀ U,F U→Lies U m):OutE b K w r ts (.returned (.agg m.vals)) V :=
 ⟨m,rfl,hr,h.fin.1.imp hF,h.S,h.M⟩
theorem Fk:(Tryz.prog.info? 38).map (fun i=>(i.zero,i.size,i.bytes))=some (some (.agg zd),8,72):=by kernel_rfl
theorem Qc8 {w:yW}{b:Nat}{K:PK}{t:Tk}{ts:List Tk}(hK:KG K) (h:Lv w b K (t :: ts)) (x:yB) (hx:(lx x.data.toList).map (·.1)=some 1∨(lx x.data.toList).map (·.1)=some 4) (ht:t.x=x) :
  Calls zG 135 #[zP b,.string x] w fun e w'=>e=.returned (zI t.p)∧Lv w' b K ts∧Mv w w' (fun k=>k=b):=by
 refine (VL h x (Uc (h.gd hK) hx)).mono ?_
 rintro e w' ⟨⟨p,rfl,h1⟩,h2,h3⟩
 rw [if_pos ht] at h2
 rw [h1 ht]
 exact⟨rfl,h2,h3⟩
theorem Qd2 {w:yW}{b:Nat}{K:PK}{t:Tk}{ts ts':List Tk}{r:Tr}(d:Int) (hK:KG K) (h:Lv w b K (t :: ts)) (hk:t.k=1) (n1:¬ t.x=⟨#[116,114,117,101]⟩) (n2:¬ t.x=⟨#[102,97,108,115,101]⟩) (n3:¬ t.x=Zj) (n4:¬ t.x=⟨#[115,101,108,108]⟩) (hv:fnd t.x LF 0 = -1∧fnd t.x LA 0 = -1∧fnd t.x LT 0 = -1)
  (cR:∀ v,Lv v b K (t :: ts)→Calls zG 256 #[zP b,zI d] v (OutE b K v r ts')) :
  Calls zG 254 #[zP b,zI d] w (OutE b K w r ts'):=by
 have HK:Hid (KG K):=hK
 have HG0:=((HX.new h 0 0).push zd 38).hid
 obtain⟨W0,eW0⟩:∃ W,w.alloc (.cells zd 38)=W:=jV
 rw [eW0] at HG0
 have HV:=zH hv
 have HR:=zH cR
 clear hv cR
 have cL:=XR HG0.out.S hk (J2 (l:=#[116,114,117,101]) n1) (J2 (l:=#[102,97,108,115,101]) n2) (J2 (l:=#[98,117,121]) n3) (J2 (l:=#[115,101,108,108]) n4)
 clear h hK n1 n2 n3 n4
 go_enter func254,ntmps254
 go_wp2_with fail
 try rw [eW0]
 refine cL.mono ?_
 rintro e w1 ⟨rfl,hb⟩
 have HG1:=((HG0.out.on hb).push zd 38).hid
 have cN:=QM HG1.out.S
 unfold tkA at cN
 rw [hk] at cN
 clear hk
 clear cL hb HG0 eW0
 go_wp2_with fail
 refine cN.mono ?_
 rintro e w2 ⟨rfl,hb⟩
 have HG2:=((HG1.out.on hb).push #[zU 1,.string t.x,zU t.ty,zI t.n,zI t.p] 233).hid
 clear cN hb HG1
 go_upto_region 5 with fail
 generalize w2.alloc _=W2 at HG2 ⊢
 generalize w2§=Q at HG2 ⊢
 have k0:=Qa HG2.out.b0 0
 have k1:=Qa HG2.out.b0 1
 have k4:=Qa HG2.out.b0 4
 simp only [List.getElem?_toArray,List.getElem?_cons_zero,List.getElem?_cons_succ] at k0 k1 k4
 have cA:=Jy HG2.out.S HK.out LF (n:=6) rfl (by decide) (by decide +kernel)
 rw [HV.out.1] at cA
 simp only [LF,List.map] at cA
 go_upto_region 8 with fail
 clear k0 k1 k4
 go_wp2_with fail
 refine cA.mono ?_
 rintro e w3 ⟨rfl,hb⟩
 have HG3:=(HG2.out.on hb).hid
 clear cA hb HG2
 have cA:=Jy HG3.out.S HK.out LA (n:=3) rfl (by decide) (by decide +kernel)
 rw [HV.out.2.1] at cA
 simp only [LA,List.map] at cA
 go_wp2_with fail
 refine cA.mono ?_
 rintro e w4 ⟨rfl,hb⟩
 have HG4:=(HG3.out.on hb).hid
 clear cA hb HG3
 have cA:=Jy HG4.out.S HK.out LT (n:=4) rfl (by decide) (by decide +kernel)
 rw [HV.out.2.2] at cA
 simp only [LT,List.map] at cA
 go_wp2_with fail
 refine cA.mono ?_
 rintro e w5 ⟨rfl,hb⟩
 have HG5:=(HG4.out.on hb).hid
 clear cA hb HG4
 have cR:=HR.out _ HG5.out.S
 go_wp2_with fail
 refine cR.mono ?_
 rintro e w6 ⟨m,rfl,htr,hdp,hs,hm⟩
 have HT:Hid (Qs m=r):=htr
 have HG6:=(HG5.out.add hm hs hdp).hid
 have HF:=(HX.rowA (pre:=[_,_]) HG6.out m.vals).hid
 clear cR htr hdp hs hm HG5
 go_wp2_with (refine wpList_store_row rfl 38 (.tmp 4) (.tmp 85) rfl w§ m.vals rfl rfl 38 _ HG6.out.b2 Qj rfl (all8 m) ?_)
 exact bodyPost_ret (results_cell_row rfl _ _ w§ 38 m.vals (0,0) _ rfl HF.out.b2 underlying38 rfl Qj) rfl (Kp HF.out HT.out fun U hU=>hU.2)
theorem has_y {w:yW}{b:Nat}{K:PK}{t u:Tk}{ts:List Tk}(d:Int) (hK:KG K) (h:Lv w b K (t :: u :: ts)) (hx:t.x=Zl) {v:Int}(hv:fnd u.x LH 0=v) (h0:0≤v) :
  Calls zG 256 #[zP b,zI d] w (OutE b K w (.mk ⟨4,0,0,0,v+1,gE,t.p⟩ []) ts):=by
 have HK:Hid (KG K):=hK
 have HG0:=((HX.new h 0 0).push zd 38).hid
 obtain⟨W0,eW0⟩:∃ W,w.alloc (.cells zd 38)=W:=jV
 rw [eW0] at HG0
 have h6:v < 3:=by rw [← hv];exact Xn u.x LH 0
 have HR:Hid (Rg ⟨4,0,0,0,v+1,gE,t.p⟩):=by
  have hr:=(h.ok hK.k).r
  have:=hr.p0;have:=hr.p1
  constructor <;> first | assumption | omega | (simp only;omega) | (show gE.size≤140737488355328;decide)
 have HX1:Hid (t.x=Zl∧fnd u.x LH 0=v):=⟨hx,hv⟩
 have cN:=QM HG0.out.S
 have hf:=fun v=>Q6 t v
 clear h hK hx hv
 go_enter func256,ntmps256
 go_wp2_with fail
 try rw [eW0]
 refine cN.mono ?_
 rintro e w1 ⟨rfl,hb⟩
 have HG1:=(HG0.out.on hb).hid
 have cI:=Kr HG1.out.S Zl (Uc (HG1.out.S.gd HK.out) (by decide +kernel))
 rw [decide_eq_true HX1.out.1] at cI
 clear cN hb HG0 eW0
 go_wp2_with fail
 refine cI.mono ?_
 rintro e w2 ⟨rfl,hb⟩
 have HG2:=(HG1.out.on hb).hid
 obtain⟨i,c3,f3,hmx,hL,hM,_,_⟩:=HG2.out.S.at'
 have HG3:=(HG2.out.mv hM hL).hid
 clear cI hb HG1 HG2 hL hM
 go_upto_region 5 with fail
 generalize eV:w2.setCell b¢3 _=V at HG3 ⊢
 clear eV c3 f3 hmx hf
 have cA:=Jy HG3.out.S HK.out LH (n:=3) rfl (by decide) (by decide +kernel)
 rw [HX1.out.2] at cA
 simp only [LH,List.map] at cA
 have hv3:decide (v < 0)=false:=decide_eq_false zY
 go_wp2_with fail
 refine cA.mono ?_
 rintro e w4 ⟨rfl,hb⟩
 have HG4:=(HG3.out.on hb).hid
 obtain⟨i,c3,f3,hmx,hL,hM,_,_⟩:=HG4.out.S.at'
 have HG5:=(HG4.out.mv hM hL).hid
 clear cA hb HG3 HG4 hL hM
 go_upto_region 10 with fail
 generalize eV:w4.setCell b¢3 _=V2 at HG5 ⊢
 clear eV c3 f3 hmx
 have HF:=(HX.rowA (pre:=[]) HG5.out #[zU 4,zU 0,zU 0,zI 0,zU (v+1),yQ,zO,zI t.p]).hid
 go_wp2_with (refine wpList_store_row rfl 38 (.tmp 4) (.tmp 43) rfl w§ #[zU 4,zU 0,zU 0,zI 0,zU (v+1),yQ,zO,zI t.p] rfl rfl 38 _ HG5.out.b0 Qj rfl (by simp [Value.oneCell']) ?_)
 exact bodyPost_ret (results_cell_row rfl _ _ w§ 38 #[zU 4,zU 0,zU 0,zI 0,zU (v+1),yQ,zO,zI t.p] (0,0) _ rfl HF.out.b0 underlying38 rfl Qj) rfl ⟨.mk ⟨4,0,0,0,v+1,gE,t.p⟩ none 0 [],rfl,rfl,fun U _=>QH U HR.out,HF.out.S,HF.out.M⟩
theorem Qev {w0:yW}{ops:Array Oper}{rest:List Oper}{o:Oper}{a:Act}{Q:Exit→Act→yW→Prop}(hgd:o.guard=none) (d x:Operand)
  (ho:o.op=.call { callee:=.builtin .append,args:=#[d,x],argTypes:=#[36,36] }) (y:Nd) {v:Value}{L:List Nd}(hR:RowN w0 v L) (hs:a.eval d=v) (hx:a.eval x=.slice (some w0§¢0) 1 1) (hlen:L.length≤1000000000)
  (h:∀ g cap w',RowN w' (.slice (some g¢0) (L.length+1) cap) (L ++ [y])→(zA w0 y.vals 38).grownBy w' v.ownBlock→(v.ownBlock=some g∨w0§ < g)→wpList zG ops Q rest (a.put o.dst (.slice (some g¢0) (L.length+1) cap)) w') :
  wpList zG ops Q (o :: rest) a (zA w0 y.vals 38):=by
 obtain⟨i0,hi,hz0,hz1,hz2⟩:=info_parts info38
 refine wpList_append_lies _ hgd d x 36 ho 0 38 i0 _ 8 72 underlying36 hi hz0 hz1 hz2 rfl (by decide) v L.length _ hs (hR.alloc _) w0§¢0 1 1 (y.vals).toList hx rfl (Qau w0 y) (Qcf y) (by decide) (by unfold maxLen;omega) zY (Nat.zero_le _) _ rfl ?_
 intro g cap w' h2 h3 h4 h5
 refine h g cap w' (RowN.snoc h2) h3 ?_
 rcases h4 with h4 | h4
 ·exact .inl h4
 ·exact .inr (by rw [h4,Qe];omega)
theorem Qco {w0:yW}{ops:Array Oper}{rest:List Oper}{o:Oper}{a:Act}{Q:Exit→Act→yW→Prop}(hgd:o.guard=none) (d x:Operand)
  (ho:o.op=.call { callee:=.builtin .append,args:=#[d,x],argTypes:=#[36,36] }) (y:Nd) (hs:a.eval d=zO) (hx:a.eval x=.slice (some w0§¢0) 1 1)
  (h:∀ g cap w',RowN w' (.slice (some g¢0) 1 cap) [y]→(zA w0 y.vals 38).grownBy w' none→w0§ < g→wpList zG ops Q rest (a.put o.dst (.slice (some g¢0) 1 cap)) w') :
  wpList zG ops Q (o :: rest) a (zA w0 y.vals 38) :=
 Qev hgd d x ho y (L:=[]) (Row.nil _ _ _ _) hs hx (by simp) fun g cap w' h1 h2 h3=>h g cap w' h1 h2 (h3.elim (fun e=>by cases e) id)
theorem Qew {U:yW}{k:Nd}{h:Hd}{g cap:Nat}(hr:Rg h) (hk:Lies U k) (hR:RowN U (.slice (some g¢0) 1 cap) [k]):Lies U (.mk h (some g¢0) cap [k]):=by
 obtain⟨g',cap',e',hc1,hc2,hrow⟩:∃ g' cap',Value.slice (some g¢0) 1 cap=.slice (some g'¢0) 1 cap'∧1≤cap'∧cap'≤jX∧∀ j,j < 1→NdAt U g' (0+j * 8) (ldF [k] j):=hR.lies.resolve_left (fun e=>by cases e.1)
 cases e'
 refine .mk _ _ _ _ hr hc1 hc2 (fun i hi=>⟨g,0,rfl,?_⟩) (fun m hm=>by rw [List.mem_singleton.1 hm];exact hk)
 have:=hrow i hi
 rw [Qgl hi] at this
 exact this
theorem call_y {w:yW}{b:Nat}{K:PK}{t0 u v:Tk}{us vs:List Tk}{r:Tr}(ty p:Int) (d:Nat) (hd:d < 24) (hK:KG K) (h:Lv w b K (t0 :: u :: us)) (hr:Rg ⟨9,0,ty,0,0,gE,p⟩) (hu:u.x=⟨#[40]⟩) (hv:v.x=⟨#[41]⟩)
  (cE:∀ w',Lv w' b K us→Calls zG 203 #[zP b,zI ((d:Int)+1)] w' (OutE b K w' r (v :: vs))) :
  Calls zG 255 #[zP b,.agg #[zU 9,zU 0,zU ty,zI 0,zU 0,yQ,zO,zI p],zI 1,zI d] w (OutE b K w (.mk ⟨9,0,ty,0,0,gE,p⟩ [r]) vs):=by
 have HK:Hid (KG K):=hK
 have HR:Hid (Rg ⟨9,0,ty,0,0,gE,p⟩∧u.x=⟨#[40]⟩∧v.x=⟨#[41]⟩):=⟨hr,hu,hv⟩
 have HE:=zH cE
 have HG0:=(((HX.new h 0 0).push #[zU 9,zU 0,zU ty,zI 0,zU 0,yQ,zO,zI p] 38).push zd 38).hid
 rw [Qe] at HG0
 obtain⟨W0,eW0⟩:∃ W,(zA w #[zU 9,zU 0,zU ty,zI 0,zU 0,yQ,zO,zI p] 38).alloc (.cells zd 38)=W:=jV
 rw [eW0] at HG0
 have cD:=QcF HG0.out.S d hd
 have hd1:(d:Int)+1≤jX:=by omega
 clear h hK hr hu hv cE hd
 go_enter func255,ntmps255
 go_wp2_with fail
 try rw [eW0]
 refine cD.mono ?_
 rintro e w1 ⟨rfl,e9⟩
 obtain rfl:=e9.symm
 clear cD e9
 obtain⟨i,c3,f3,hmx,hL,hM,_,_⟩:=HG0.out.S.at'
 have HG1:=(HG0.out.mv hM hL).hid
 clear hL hM HG0 eW0
 go_upto_region 5 with fail
 generalize eV:W0.setCell b¢3 _=V at HG1 ⊢
 clear eV c3 f3 hmx
 have cT:=Qc8 HK.out HG1.out.S ⟨#[40]⟩ (by decide +kernel) HR.out.2.1
 go_wp2_with fail
 refine cT.mono ?_
 rintro e w2 ⟨rfl,hs,hm⟩
 have HG2:=(HG1.out.mv hm hs).hid
 have cQ:=HE.out _ HG2.out.S
 clear cT hs hm HG1
 go_wp2_with fail
 refine wp_loop_rounds 2 ?_
 rw [rounds_succ]
 go_wp2_with fail
 refine cQ.mono ?_
 rintro e w3 ⟨k,rfl,htr,hdp,hs,hm⟩
 have HT:Hid (Qs k=r):=htr
 have HG3:=(HX.rowA (pre:=[]) ((HG2.out.add hm hs hdp).push zd 38) k.vals).hid
 have HZ:Hid ((zA w3 zd 38).heap[w3§]? = (zC zd 38)):=Qc _ _
 clear cQ htr hdp hs hm HG2 hd1
 go_upto_region 12 with (refine wpList_store_row rfl 38 (.tmp 11) (.tmp 39) rfl w3§ k.vals rfl rfl 38 zd HZ.out Qj rfl (all8 k) ?_)
 generalize hW:World.setRow _ _ _=W3
 rw [hW] at HG3
 generalize w3§=N2 at HG3 ⊢
 clear HZ hW
 have c6:=Qa HG3.out.b2 6
 have f6:=Qf HG3.out.b2 6
 simp only [List.getElem?_toArray,List.getElem?_cons_zero,List.getElem?_cons_succ] at c6
 go_upto_region 8 with (first | (refine wpList_load_row rfl 38 (.tmp 11) rfl N2 rfl 38 k.vals (0,0) _ HG3.out.b0 underlying38 rfl Qj ?_) | (refine Jb rfl 36 38 (.tmp 42) rfl k.vals rfl 8 _ zK 72 Fk rfl rfl zY zY ?_) | (at_builtin;refine Qco rfl (.tmp 41) (.tmp 43) rfl k rfl rfl ?_;intro g cap y hrow hgr hg;have hb1:=Qb W3 (.cells k.vals 38);have hb2:yD W3 y:=Qd hb1 (((Mv.refl (zA W3 k.vals 38) (fun _=>False)).grown hgr (fun k e=>by cases e)).below (Nat.le_refl _) (fun _ e=>e.elim));have HG4:=((HG3.out.add (Mv.ofBelow hb2) (HG3.out.S.on hb2) (G:=fun U=>RowN U (.slice (some g¢0) 1 cap) [k]) fun U hU=>Row.of_block hrow (fun q hq=>by simp [Value.ownBlock] at hq;subst hq;exact hU g (Nat.le_of_lt hg) (hrow.lt g rfl))).pop).hid;have HG5:=(HX.setA (pre:=[_]) HG4.out 6 (.slice (some g¢0) 1 cap)).hid;have d6:=Qa HG4.out.b1 6;have g6:=Qf HG4.out.b1 6;simp only [List.getElem?_toArray,List.getElem?_cons_zero,List.getElem?_cons_succ] at d6;clear c6 f6 hrow hgr hg hb1 hb2 HG3))
 generalize eY:y.setCell _ _=Y at HG5 ⊢
 clear eY d6 g6 HG4
 go_wp2_with fail
 rw [rounds_succ]
 have cT:=Qc8 HK.out HG5.out.S ⟨#[41]⟩ (by decide +kernel) HR.out.2.2
 go_wp2_with fail
 refine cT.mono ?_
 rintro e w9 ⟨rfl,hs,hm⟩
 have HG9:=(HG5.out.mv hm hs).hid
 clear cT hs hm HG5
 have HF:=(HX.rowA (pre:=[]) HG9.out (Nd.mk ⟨9,0,ty,0,0,gE,p⟩ (some g¢0) cap [k]).vals).hid
 go_wp2_with (first | (refine wpList_load_row rfl 38 (.tmp 5) rfl w§ rfl 38 (Nd.mk ⟨9,0,ty,0,0,gE,p⟩ (some g¢0) cap [k]).vals (0,0) _ HG9.out.b1 underlying38 rfl Qj ?_) | (refine wpList_store_row rfl 38 (.tmp 8) (.tmp 48) rfl (w§+1) (Nd.mk ⟨9,0,ty,0,0,gE,p⟩ (some g¢0) cap [k]).vals rfl rfl 38 _ HG9.out.b0 Qj rfl (all8 _) ?_))
 refine bodyPost_ret (results_cell_row rfl _ _ (w§+1) 38 (Nd.mk ⟨9,0,ty,0,0,gE,p⟩ (some g¢0) cap [k]).vals (0,0) _ rfl HF.out.b0 underlying38 rfl Qj) rfl (Kp HF.out ?_ fun U hU=>Qew HR.out.1 hU.1.2 hU.2)
 show Tr.mk _ [Qs k]=_
 rw [HT.out]
end Go.Proofs.YtfbjofnaghjmeaaGreatDoor
