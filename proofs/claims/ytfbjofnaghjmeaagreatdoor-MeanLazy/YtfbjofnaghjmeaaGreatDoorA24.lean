import Derived.Test.YtfbjofnaghjmeaaGreatDoorA21
namespace Go.Proofs.YtfbjofnaghjmeaaGreatDoor
open Go.Proofs.Tryz
open Go.RowKit Go.Maps
set_option linter.unusedVariables false
set_option linter.unusedSimpArgs false
def regL (l:List RegM) (x:yB):Option Int:=(l.find? (fun r=>decide (r.x=x))).map (·.t)
theorem VO (l:List RegM) (r:RegM) (x:yB):regL (l ++ [r]) x=match regL l x with
  | some t=>some t
  | none=>if r.x=x then some r.t else none:=by
 unfold regL
 rw [List.find?_append]
 cases l.find? (fun r=>decide (r.x=x)) with
 | some y=>rfl
 | none =>
  by_cases h:r.x=x
  ·simp [List.find?,h]
  ·simp [List.find?,h]
def RgN (w:yW) (b n:Nat) (L:yB→Option Int):Prop :=
 ∃ (D:DataW Unit),w.ownsMap zG 9 (plainElem zG 34) b n D∧∀ x:yB,x.size≤maxLen →
  Maps.has D (.string x.data.toList)=(L x).isSome∧D.atKey (.string x.data.toList) (.lit (.int .u8 0))=.lit (.int .u8 ((L x).getD 0))
theorem RgN.m {w:yW}{b n:Nat}{L:yB→Option Int}(h:RgN w b n L):RgM w b L:=let ⟨D,h1,h2⟩:=h;⟨n,D,h1,h2⟩
theorem RgN.on {w w':yW}{b n:Nat}{L:yB→Option Int}(h:RgN w b n L) (k:yD w w'):RgN w' b n L:=by
 obtain⟨D,ho,hL⟩:=h
 have hlt:=ho.lt
 obtain⟨es,clock,hb,F,hs,hD⟩:=ho
 exact⟨D,⟨es,clock,(k.block b hlt).trans hb,F,hs,hD⟩,hL⟩
theorem RgN.made (w:yW):RgN (w.alloc (.map #[] 0)) w§ 0 (regL []):=⟨_,World.ownsMap_made w _ _ _,fun x _=>⟨rfl,rfl⟩⟩
theorem RgN.same {w:yW}{b n:Nat}{l:List RegM}{r:RegM}(h:RgN w b n (regL l)) (hs:(regL l r.x).isSome=true):RgN w b (n+1) (regL (l ++ [r])):=by
 have e:regL (l ++ [r])=regL l:=by
  funext x
  rw [VO]
  cases hx:regL l x with
  | some t=>rfl
  | none =>
   by_cases h1:r.x=x
   ·rw [h1,hx] at hs;cases hs
   ·simp [h1]
 obtain⟨D,ho,hL⟩:=h
 rw [e]
 exact⟨D,ho.mono (Nat.le_succ _),hL⟩
theorem Pd {x y:yB}(h:¬ x=y):Lit.string y.data.toList≠Lit.string x.data.toList:=by
 intro e
 apply h
 have e1:y.data.toList=x.data.toList:=by injection e
 have e2:y.data=x.data:=Array.toList_inj.1 e1
 cases x;cases y;simp only at e2;rw [e2]
theorem RgN.put {w w':yW}{b n:Nat}{l:List RegM}{r:RegM}{D:DataW Unit}(ho:w.ownsMap zG 9 (plainElem zG 34) b n D)
  (hL:∀ x:yB,x.size≤maxLen→Maps.has D (.string x.data.toList)=(regL l x).isSome∧D.atKey (.string x.data.toList) (.lit (.int .u8 0))=.lit (.int .u8 ((regL l x).getD 0)))
  (hs:regL l r.x=none) (h:w'.ownsMap zG 9 (plainElem zG 34) b (n+1) (D.put (.string r.x.data.toList) (.lit (.int .u8 r.t)))):RgN w' b (n+1) (regL (l ++ [r])):=by
 have hD:IsMap D:=by obtain⟨es,clock,_,_,_,e⟩:=ho;exact⟨_,e⟩
 refine⟨_,h,fun x hx=>?_⟩
 obtain⟨h1,h2⟩:=hL x hx
 rw [VO]
 by_cases hr:r.x=x
 ·subst hr
  rw [hs]
  refine⟨?_,?_⟩
  ·rw [has_put_same hD (by trivial)];simp
  ·rw [atKey_put_same hD (by trivial)];simp
 ·rw [has_put_other (Pd hr),atKey_put_other (Pd hr),h1,h2]
  cases regL l x with
  | some t=>exact⟨rfl,rfl⟩
  | none=>simp [hr]
def inS (S:List yB) (x:yB):Bool:=S.any (fun y=>decide (y=x))
def NmN (w:yW) (b n:Nat) (S:List yB):Prop :=
 ∃ (D:DataW Unit),w.ownsMap zG 9 (unitElem (H:=Unit)) b n D∧∀ x:yB,x.size≤maxLen→Maps.has D (.string x.data.toList)=inS S x
theorem NmN.on {w w':yW}{b n:Nat}{S:List yB}(h:NmN w b n S) (k:yD w w'):NmN w' b n S:=by
 obtain⟨D,ho,hL⟩:=h
 have hlt:=ho.lt
 obtain⟨es,clock,hb,F,hs,hD⟩:=ho
 exact⟨D,⟨es,clock,(k.block b hlt).trans hb,F,hs,hD⟩,hL⟩
theorem NmN.made (w:yW):NmN (w.alloc (.map #[] 0)) w§ 0 []:=⟨_,World.ownsMap_made w _ _ _,fun x _=>rfl⟩
theorem NmN.put {w w':yW}{b n:Nat}{S:List yB}{x:yB}{D:DataW Unit}{d:DataW Unit}(ho:w.ownsMap zG 9 (unitElem (H:=Unit)) b n D)
  (hL:∀ y:yB,y.size≤maxLen→Maps.has D (.string y.data.toList)=inS S y)
  (h:w'.ownsMap zG 9 (unitElem (H:=Unit)) b (n+1) (D.put (.string x.data.toList) d)):NmN w' b (n+1) (S ++ [x]):=by
 have hD:IsMap D:=by obtain⟨es,clock,_,_,_,e⟩:=ho;exact⟨_,e⟩
 refine⟨_,h,fun y hy=>?_⟩
 by_cases hr:x=y
 ·subst hr
  rw [has_put_same hD (by trivial)];simp [inS]
 ·rw [has_put_other (Pd hr),hL y hy]
  simp [inS,hr]
theorem Qfs (w:yW):(zeroValue 245).run zG w=.ok (.agg #[]) w:=by kernel_rfl
theorem Pj {w:yW}{b n:Nat}{S:List yB}{x:yB}(hm:NmN w b n S) (hx:x.size≤maxLen):Calls zG 181 #[.map (some b),.string x] w fun e w'=>e=.returned (.bool (inS S x))∧yD w w':=by
 obtain⟨D,hown,hL⟩:=hm
 have hkey:=WideMaps.keyOf_string_mk (P:=zG) underlying9 hx
 have hh:=hL x hx
 have HH:=zH hh
 clear hL hh
 go_enter func181,ntmps181
 go_wp2_with (at_lookup;refine wpList_lookup_own_unit _ rfl _ _ 170 rfl 9 245 law9 underlying170 (Qfs _) b n D rfl hown _ _ rfl hkey ?_)
 go_ret
 exact⟨by rw [HH.out];rfl,Qb _ _⟩
theorem add_any {w:yW}{b n:Nat}{S:List yB}{x:yB}(p:Int) (hm:NmN w b n S) (hx:x.size≤maxLen) (hn:n < maxLen):Calls zG 147 #[.map (some b),.string x,zI p] w fun e w' =>
  (inS S x=true∧∃ c,e=.returned (.iface 184 (zP c))∧w§≤c∧FlAt w' c Z6 p 150∧yD w w') ∨
  (inS S x=false∧e=.returned .nilIface∧NmN w' b (n+1) (S ++ [x])∧Mv w w' (fun k=>k=b)):=by
 have HM:Hid (NmN w b n S):=hm
 have cH:=Pj hm hx
 have hkey:=WideMaps.keyOf_string_mk (P:=zG) underlying9 hx
 cases eB:inS S x with
 | true =>
  rw [eB] at cH
  clear hm hkey hn
  go_enter func147,ntmps147
  go_wp2_with fail
  refine cH.mono ?_
  rintro e w1 ⟨rfl,hb⟩
  have HB:=zH hb
  clear cH hb
  go_wp2_with fail
  refine (JN _ _ _).mono ?_
  rintro e w2 ⟨rfl,hf,hb⟩
  have HB2:Hid (FlAt w2 w1§ Z6 p 150∧yD w w2∧w§≤w1§):=⟨hf,Qd HB.out hb,HB.out.size⟩
  clear hf hb
  go_wp2
  go_ret
  exact .inl ⟨by trivial,_,rfl,HB2.out.2.2,HB2.out.1,HB2.out.2.1⟩
 | false =>
  rw [eB] at cH
  clear hm
  go_enter func147,ntmps147
  go_wp2_with fail
  refine cH.mono ?_
  rintro e w1 ⟨rfl,hb⟩
  have HB:=zH hb
  obtain⟨D,hown,hL⟩:=HM.out.on hb
  have HP:Hid (∀ (w2:yW) (d:DataW Unit),w2.ownsMap zG 9 (unitElem (H:=Unit)) b (n+1) (D.put (.string x.data.toList) d)→NmN w2 b (n+1) (S ++ [x])):=fun w2 d h2=>NmN.put hown hL h2
  clear cH hb hL
  go_wp2_with (at_mapUpdate;refine wpList_mapUpdate_own _ rfl _ _ _ 170 rfl 9 245 law9 underlying170 _ b n D rfl hown hn _ _ _ rfl rfl hkey _ [] unitElem_mk ?_;intro w2 hown2 hgrow2)
  go_ret
  exact .inr ⟨by trivial,rfl,HP.out _ _ hown2,(Mv.ofBelow HB.out).grown hgrow2 (fun k hk=>by cases hk;exact .inl rfl)⟩
set_option maxRecDepth 100000
set_option maxHeartbeats 4000000
def tyV:Except (Int × Int) Int→Int
 | .ok t=>t
 | .error _=>0
def OutR (w:yW) (b n:Nat) (l:List RegM) (r:RegM) (e:Ending) (w':yW):Prop :=
 (∃ c no,e=.returned (.iface 184 (zP c))∧w§≤c∧FlAt w' c Z6 r.p no∧yD w w' ∧
  (((regL l r.x).isSome=true∧no=150)∨(regL l r.x=none∧tyV (tyR (regL l) r.m)≠r.t∧no=152))) ∨
 (e=.returned .nilIface∧regL l r.x=none∧tyV (tyR (regL l) r.m)=r.t∧RgN w' b (n+1) (regL (l ++ [r]))∧Mv w w' (fun k=>k=b))
theorem QaZ (b b2 b3 n:Nat) (l:List RegM) (r:RegM) (w:yW) (hm:RgN w b n (regL l)) (ht:FTab w) (hl:RegL w r) (ho:OkT r.m) (hn:n < maxLen) :
  Calls zG 146 #[.agg #[.map (some b),.map (some b2),.map (some b3)],.agg r.vals] w (OutR w b n l r):=by
 have hb1:=Qb w (.cells #[.map (some b),.map (some b2),.map (some b3)] 172)
 have hn1:=Qc w (.cells #[.map (some b),.map (some b2),.map (some b3)] 172)
 have hs1:=Qe w (.cells #[.map (some b),.map (some b2),.map (some b3)] 172)
 obtain⟨W1,e1⟩:∃ W,w.alloc (.cells #[.map (some b),.map (some b2),.map (some b3)] 172)=W:=jV
 have E1:=zH e1
 rw [e1] at hb1 hn1 hs1
 have hb2:=Qb W1 (.cells #[.string r.x,zU r.t,zU r.m.h.k,zU r.m.h.o,zU r.m.h.t,zI r.m.h.n,zU r.m.h.f,.string r.m.h.x,.slice r.m.a r.m.ks.length r.m.c,zI r.m.h.p,zI r.p] 102)
 have hn2:=Qc W1 (.cells #[.string r.x,zU r.t,zU r.m.h.k,zU r.m.h.o,zU r.m.h.t,zI r.m.h.n,zU r.m.h.f,.string r.m.h.x,.slice r.m.a r.m.ks.length r.m.c,zI r.m.h.p,zI r.p] 102)
 have hk2:=(hb2.block _ (zJ hn1).1).trans hn1
 have hbw:=Qd hb1 hb2
 rw [hs1] at hn2
 have HS1:=zH hs1
 obtain⟨W2,e2⟩:∃ W,W1.alloc (.cells #[.string r.x,zU r.t,zU r.m.h.k,zU r.m.h.o,zU r.m.h.t,zI r.m.h.n,zU r.m.h.f,.string r.m.h.x,.slice r.m.a r.m.ks.length r.m.c,zI r.m.h.p,zI r.p] 102)=W:=jV
 have E2:=zH e2
 rw [e2] at hn2 hk2 hbw
 have HB:=zH hbw
 have HK:=zH hk2
 have HN:=zH hn2
 have hx:r.x.size≤maxLen:=by have h1:=hl.2.2.2;unfold SzX at h1;unfold maxLen;omega
 have hwf:(Lit.int .u8 r.t).wf=true:=by have h1:=hl.2.1;unfold B8 at h1;rw [show (Lit.int .u8 r.t).wf=(decide ((0:Int)≤r.t) && decide (r.t≤255)) from rfl,decide_eq_true h1.1,decide_eq_true h1.2];rfl
 have hkey:=WideMaps.keyOf_string_mk (P:=zG) underlying9 hx
 obtain⟨D,hown,hL⟩:=hm.on hbw
 have hh:=(hL r.x hx).1
 have HMW:Hid (RgN W2 b n (regL l)):=hm.on hbw
 have cT:Calls zG 63 #[.map (some b),.agg #[zU r.m.h.k,zU r.m.h.o,zU r.m.h.t,zI r.m.h.n,zU r.m.h.f,.string r.m.h.x,.slice r.m.a r.m.ks.length r.m.c,zI r.m.h.p]] W2 (OutT W2 (tyR (regL l) r.m)):=Hg b (regL l) r.m W2 (hm.on hbw).m (ht.on hbw) (hl.1.on hbw) ho
 have k0:zQ W2 w§¢0 (.map (some b)):=Qa hk2 0
 obtain⟨c0,c1,c2,c3,c4,c5,c6,c7,c8,c9,c10⟩:=cl11 hn2
 clear hb1 hn1 hs1 hb2 hk2 hn2 hbw ho hl ht hm e1 e2
 show Calls zG 146 #[.agg #[.map (some b),.map (some b2),.map (some b3)],.agg #[.string r.x,zU r.t,zU r.m.h.k,zU r.m.h.o,zU r.m.h.t,zI r.m.h.n,zU r.m.h.f,.string r.m.h.x,.slice r.m.a r.m.ks.length r.m.c,zI r.m.h.p,zI r.p]] w _
 cases eL:regL l r.x with
 | some t =>
  have HE:Hid ((regL l r.x).isSome=true):=by show _=_;rw [eL];rfl
  rw [eL] at hh
  simp only [Option.isSome_some] at hh
  clear hL eL cT
  go_enter func146,ntmps146
  go_upto_region 1 with fail
  rw [E1.out,E2.out]
  try rw [HS1.out]
  go_wp2_with (at_lookup;refine wpList_lookup_own_ok_int _ rfl _ _ 139 rfl 9 34 .u8 law9 underlying139 underlying34 (K8 _) b n D rfl hown _ _ rfl hkey ?_;intro cc hat hwc)
  refine (JN _ _ _).mono ?_
  rintro e w7 ⟨rfl,hf7,hb7⟩
  have HB7:Hid (FlAt w7 W2§ Z6 r.p 150∧yD w w7∧w§≤W2§):=⟨hf7,Qd HB.out hb7,HB.out.size⟩
  clear hf7 hb7
  go_wp2
  go_ret
  exact .inl ⟨_,150,rfl,HB7.out.2.2,HB7.out.1,HB7.out.2.1,.inl ⟨HE.out,rfl⟩⟩
 | none =>
  have HE:Hid (regL l r.x=none):=eL
  rw [eL] at hh
  simp only [Option.isSome_none] at hh
  obtain⟨T,eT⟩:∃ T,tyV (tyR (regL l) r.m)=T:=jV
  have cT2:Calls zG 63 #[.map (some b),.agg #[zU r.m.h.k,zU r.m.h.o,zU r.m.h.t,zI r.m.h.n,zU r.m.h.f,.string r.m.h.x,.slice r.m.a r.m.ks.length r.m.c,zI r.m.h.p]] W2 fun e w'=>(∃ y,e=.returned (.tuple #[zU T,y]))∧yD W2 w':=by
   refine cT.mono ?_
   rintro e v (⟨t',h1,h2,h3⟩ | ⟨p',no',b5,h1,h2,h3,h4,h5⟩)
   ·rw [h1] at eT;cases eT;exact⟨⟨_,h2⟩,h3⟩
   ·rw [h1] at eT;cases eT;exact⟨⟨_,h2⟩,h5⟩
  have HT:=zH eT
  clear cT eT eL hL
  go_enter func146,ntmps146
  go_upto_region 1 with fail
  rw [E1.out,E2.out]
  try rw [HS1.out]
  go_wp2_with (at_lookup;refine wpList_lookup_own_ok_int _ rfl _ _ 139 rfl 9 34 .u8 law9 underlying139 underlying34 (K8 _) b n D rfl hown _ _ rfl hkey ?_;intro cc hat hwc)
  refine cT2.mono ?_
  rintro e w5 ⟨⟨y,rfl⟩,hb5⟩
  have HB5:=zH (Qd HB.out hb5)
  have hk5:=(hb5.block _ (zJ HK.out).1).trans HK.out
  have hn5:=(hb5.block _ (zJ HN.out).1).trans HN.out
  have HM5:Hid (RgN w5 b n (regL l)):=HMW.out.on hb5
  clear c0 c1 c2 c3 c4 c5 c6 c7 c8 c9 c10 k0 hown hh
  have k0:zQ w5 w§¢0 (.map (some b)):=Qa hk5 0
  have c0:zQ w5 ⟨w§+1,0,none⟩ (.string r.x):=Qa hn5 0
  have c1:zQ w5 ⟨w§+1,1,none⟩ (zU r.t):=Qa hn5 1
  have c10:zQ w5 ⟨w§+1,10,none⟩ (zI r.p):=Qa hn5 10
  clear hk5 hn5 hb5 cT2 hat hwc
  by_cases hT:T=r.t
  ·have hT2:(T == r.t)=true:=by simpa using hT
   have HTT:Hid (tyV (tyR (regL l) r.m)=r.t):=by show _=_;rw [HT.out];exact hT
   obtain⟨D5,hown5,hL5⟩:=HM5.out
   have HP:Hid (∀ w1:yW,w1.ownsMap zG 9 (plainElem zG 34) b (n+1) (D5.put (.string r.x.data.toList) (.lit (.int .u8 r.t)))→RgN w1 b (n+1) (regL (l ++ [r]))):=fun w1 h1=>RgN.put hown5 hL5 HE.out h1
   clear hL5 hT
   go_wp2_with (at_mapUpdate;refine wpList_mapUpdate_own _ rfl _ _ _ 139 rfl 9 34 law9 underlying139 _ b n D5 rfl hown5 hn _ _ _ rfl rfl hkey _ [] (plainElem_int underlying34 hwf) ?_;intro w1 hown1 hgrow1)
   go_ret
   exact .inr ⟨rfl,HE.out,HTT.out,HP.out w1 hown1,(Mv.ofBelow HB5.out).grown hgrow1 (fun k hk=>by cases hk;exact .inl rfl)⟩
  ·have hT2:(T == r.t)=false:=by simpa using hT
   have HTT:Hid (tyV (tyR (regL l) r.m)≠r.t):=by show _≠_;rw [HT.out];exact hT
   clear hT
   go_wp2_with fail
   refine (JN _ _ _).mono ?_
   rintro e w7 ⟨rfl,hf7,hb7⟩
   have HB7:Hid (FlAt w7 w5§ Z6 r.p 152∧yD w w7∧w§≤w5§):=⟨hf7,Qd HB5.out hb7,HB5.out.size⟩
   clear hf7 hb7
   go_wp2
   go_ret
   exact .inl ⟨_,152,rfl,HB7.out.2.2,HB7.out.1,HB7.out.2.1,.inr ⟨HE.out,HTT.out,rfl⟩⟩
structure Kn (w:yW) (b b2 b3:Nat) (L:yB→Option Int) (S2 S3:List yB):Prop where
 r:RgM w b L
 s:∃ n,NmN w b2 n S2
 t:∃ n,NmN w b3 n S3
theorem Kn.on {w w':yW}{b b2 b3:Nat}{L:yB→Option Int}{S2 S3:List yB}(h:Kn w b b2 b3 L S2 S3) (k:yD w w'):Kn w' b b2 b3 L S2 S3 :=
 ⟨h.r.on k,let ⟨n,q⟩:=h.s;⟨n,q.on k⟩,let ⟨n,q⟩:=h.t;⟨n,q.on k⟩⟩
theorem Kn.hasS {w:yW}{b b2 b3:Nat}{L:yB→Option Int}{S2 S3:List yB}(h:Kn w b b2 b3 L S2 S3) {x:yB}(hx:x.size≤maxLen):Calls zG 181 #[.map (some b2),.string x] w fun e w'=>e=.returned (.bool (inS S2 x))∧yD w w':=let ⟨_,q⟩:=h.s;Pj q hx
theorem Kn.hasT {w:yW}{b b2 b3:Nat}{L:yB→Option Int}{S2 S3:List yB}(h:Kn w b b2 b3 L S2 S3) {x:yB}(hx:x.size≤maxLen):Calls zG 181 #[.map (some b3),.string x] w fun e w'=>e=.returned (.bool (inS S3 x))∧yD w w':=let ⟨_,q⟩:=h.t;Pj q hx
def QT (L:yB→Option Int) (S2 S3:List yB) (k:Int) (x:yB):Bool :=
 if k == 1 then x.toList.isEmpty || inS S2 x else if k == 2 then inS S2 x else if k == 3 then inS S2 x else if k == 4 then (L x).isSome else if k == 5 then inS S3 x else true
theorem FP (b b2 b3:Nat) (L:yB→Option Int) (S2 S3:List yB) (d:DoM) (w:yW) (hk:Kn w b b2 b3 L S2 S3) (hx:d.x.size≤maxLen) :
  Calls zG 183 #[.agg #[.map (some b),.map (some b2),.map (some b3)],.agg d.vals] w fun e w'=>e=.returned (.bool (QT L S2 S3 d.k d.x))∧yD w w':=by
 have hb1:=Qb w (.cells #[.map (some b),.map (some b2),.map (some b3)] 172)
 have hn1:=Qc w (.cells #[.map (some b),.map (some b2),.map (some b3)] 172)
 have hs1:=Qe w (.cells #[.map (some b),.map (some b2),.map (some b3)] 172)
 obtain⟨W1,e1⟩:∃ W,w.alloc (.cells #[.map (some b),.map (some b2),.map (some b3)] 172)=W:=jV
 have E1:=zH e1
 rw [e1] at hb1 hn1 hs1
 have hb2:=Qb W1 (.cells d.vals 121)
 have hn2:=Qc W1 (.cells d.vals 121)
 have hk2:=(hb2.block _ (zJ hn1).1).trans hn1
 have hbw:=Qd hb1 hb2
 rw [hs1] at hn2
 have HS1:=zH hs1
 obtain⟨W2,e2⟩:∃ W,W1.alloc (.cells d.vals 121)=W:=jV
 have E2:=zH e2
 rw [e2] at hn2 hk2 hbw
 have HB:=zH hbw
 obtain⟨k0,k1,k2⟩:=cl3 hk2
 have c0:zQ W2 ⟨w§+1,0,none⟩ (zU d.k):=Qa hn2 0
 have c2:zQ W2 ⟨w§+1,2,none⟩ (.string d.x):=Qa hn2 2
 have hkey:=WideMaps.keyOf_string_mk (P:=zG) underlying9 hx
 have cS:=(hk.on hbw).hasS hx
 have cT:=(hk.on hbw).hasT hx
 obtain⟨n,D,hown,hL⟩:=(hk.on hbw).r
 have HH:=zH ((hL d.x hx).1)
 obtain⟨x,ex⟩:∃ x,d.x=x:=jV
 obtain⟨k,ek⟩:∃ k,d.k=k:=jV
 rw [ex] at c2 hkey cS cT HH ⊢
 rw [ek] at c0 ⊢
 clear hb1 hn1 hs1 hb2 hk2 hn2 hbw hk hL e1 e2 ek ex hx
 go_enter func183,ntmps183
 go_upto_region 1 with fail
 rw [E1.out,E2.out]
 try rw [HS1.out]
 clear E1 E2 HS1
 cases h1:(k == 1) with
 | true =>
  cases hx:x.toList.isEmpty with
  | true =>
   have HE:Hid (QT L S2 S3 k x=true):=by show _=_;simp [QT,h1,hx]
   go_wp2
   go_ret
   exact⟨by rw [HE.out];rfl,HB.out⟩
  | false =>
   have HE:Hid (QT L S2 S3 k x=inS S2 x):=by show _=_;simp [QT,h1,hx]
   go_wp2_with fail
   refine cS.mono ?_
   rintro e w5 ⟨rfl,hb5⟩
   have HB5:=zH (Qd HB.out hb5)
   clear hb5 cS cT
   go_wp2
   go_ret
   exact⟨by rw [HE.out];rfl,HB5.out⟩
 | false =>
  cases h2:(k == 2) with
  | true =>
   have HE:Hid (QT L S2 S3 k x=inS S2 x):=by show _=_;simp [QT,h1,h2]
   go_wp2_with fail
   refine cS.mono ?_
   rintro e w5 ⟨rfl,hb5⟩
   have HB5:=zH (Qd HB.out hb5)
   clear hb5 cS cT
   go_wp2
   go_ret
   exact⟨by rw [HE.out];rfl,HB5.out⟩
  | false =>
   cases h3:(k == 3) with
   | true =>
    have HE:Hid (QT L S2 S3 k x=inS S2 x):=by show _=_;simp [QT,h1,h2,h3]
    go_wp2_with fail
    refine cS.mono ?_
    rintro e w5 ⟨rfl,hb5⟩
    have HB5:=zH (Qd HB.out hb5)
    clear hb5 cS cT
    go_wp2
    go_ret
    exact⟨by rw [HE.out];rfl,HB5.out⟩
   | false =>
    cases h4:(k == 4) with
    | true =>
     have HE:Hid (QT L S2 S3 k x=(L x).isSome):=by show _=_;simp [QT,h1,h2,h3,h4]
     go_wp2_with (at_lookup;refine wpList_lookup_own_ok_int _ rfl _ _ 139 rfl 9 34 .u8 law9 underlying139 underlying34 (K8 _) b n D rfl hown _ _ rfl hkey ?_;intro cc hat hwc)
     go_ret
     exact⟨by rw [HE.out,← HH.out];rfl,HB.out⟩
    | false =>
     cases h5:(k == 5) with
     | true =>
      have HE:Hid (QT L S2 S3 k x=inS S3 x):=by show _=_;simp [QT,h1,h2,h3,h4,h5]
      go_wp2_with fail
      refine cT.mono ?_
      rintro e w5 ⟨rfl,hb5⟩
      have HB5:=zH (Qd HB.out hb5)
      clear hb5 cS cT
      go_wp2
      go_ret
      exact⟨by rw [HE.out];rfl,HB5.out⟩
     | false =>
      have HE:Hid (QT L S2 S3 k x=true):=by show _=_;simp [QT,h1,h2,h3,h4,h5]
      go_wp2
      go_ret
      exact⟨by rw [HE.out];rfl,HB.out⟩
set_option maxHeartbeats 16000000
def ptV (q:Nd × Int):Array Value:=⟨[zU q.1.h.k,zU q.1.h.o,zU q.1.h.t,zI q.1.h.n,zU q.1.h.f,.string q.1.h.x,.slice q.1.a q.1.ks.length q.1.c,zI q.1.h.p,zU q.2]⟩
theorem KS (q:Nd × Int):(ptV q).size=9:=rfl
theorem JL:(Tryz.prog.info? 213).map (·.size)=some 9:=by kernel_rfl
theorem QaL:(Tryz.prog.info? 213).map (fun i=>(i.zero,i.size,i.bytes))=some (some (.agg zr),9,80):=by kernel_rfl
theorem all9 (q:Nd × Int):(ptV q).all (·.oneCell')=true:=by simp [ptV,Value.oneCell']
def ptsL (L:yB→Option Int) (d:DoM):List (Nd × Int) :=
 if d.k == 1 then (if d.o == 2 then [(d.sd,6),(d.qt,2)] else [(d.sd,6),(d.qt,2),(d.pr,3)]) else if d.k == 2 then [(d.qt,2),(d.pr,3)] else if d.k == 4 then [(d.vl,(L d.x).getD 0)] else []
theorem slat1 {w:yW}{b:Nat}{q:Nd × Int}(h:w.heap[b]? = (zC (ptV q) 213)):SlAt w 9 (some b¢0) 1 ([q].map ptV):=by
 refine⟨by simp,by decide,fun i hi=>⟨b,0,rfl,fun j hj=>?_⟩⟩
 obtain rfl:i=0:=by simp at hi;omega
 rw [Qa h,Nat.zero_mul,Nat.zero_add]
 rfl
theorem Qg1 {w:yW}{b:Nat}{q r:Nd × Int}(h:w.heap[b]? = (zC (ptV q ++ ptV r) 213)):SlAt w 9 (some b¢0) 2 ([q,r].map ptV):=by
 refine⟨by simp,by decide,fun i hi=>⟨b,0,rfl,fun j hj=>?_⟩⟩
 rw [Qa h]
 match i,hi with
 | 0,_=>rw [Array.getElem?_append_left (by rw [KS];omega),Nat.zero_mul,Nat.zero_add];rfl
 | 1,_=>rw [Array.getElem?_append_right (by rw [KS];omega),KS,show 0+1 * 9+j - 9=j by omega];rfl
theorem slat3 {w:yW}{b:Nat}{q r u:Nd × Int}(h:w.heap[b]? = (zC (ptV q ++ ptV r ++ ptV u) 213)):SlAt w 9 (some b¢0) 3 ([q,r,u].map ptV):=by
 refine⟨by simp,by decide,fun i hi=>⟨b,0,rfl,fun j hj=>?_⟩⟩
 have hs:(ptV q ++ ptV r).size=18:=by rw [Array.size_append,KS,KS]
 rw [Qa h]
 match i,hi with
 | 0,_=>rw [Array.getElem?_append_left zY,Array.getElem?_append_left (by rw [KS];omega),Nat.zero_mul,Nat.zero_add];rfl
 | 1,_=>rw [Array.getElem?_append_left zY,Array.getElem?_append_right (by rw [KS];omega),KS,show 0+1 * 9+j - 9=j by omega];rfl
 | 2,_=>rw [Array.getElem?_append_right zY,hs,show 0+2 * 9+j - 18=j by omega];rfl
structure BX3 (w V:yW) (kv dv:Array Value) (x y z:Array Value) (p q r:Nat):Prop where
 B:yD w V
 K:V.heap[w§]? = (zC kv 172)
 D:V.heap[w§+1]? = (zC dv 121)
 P:V.heap[p]? = (zC x 213)
 Q:V.heap[q]? = (zC y 213)
 R:V.heap[r]? = (zC z 213)
theorem Qcb (b b2 b3:Nat) (L:yB→Option Int) (d:DoM) (w:yW) (hk:RgM w b L) (hx:d.x.size≤maxLen) :
  Calls zG 184 #[.agg #[.map (some b),.map (some b2),.map (some b3)],.agg d.vals] w fun e w'=>∃ a c,e=.returned (.slice a (ptsL L d).length c)∧SlAt w' 9 a c ((ptsL L d).map ptV)∧yD w w':=by
 have hb1:=Qb w (.cells #[.map (some b),.map (some b2),.map (some b3)] 172)
 have hn1:=Qc w (.cells #[.map (some b),.map (some b2),.map (some b3)] 172)
 have hs1:=Qe w (.cells #[.map (some b),.map (some b2),.map (some b3)] 172)
 obtain⟨W1,e1⟩:∃ W,w.alloc (.cells #[.map (some b),.map (some b2),.map (some b3)] 172)=W:=jV
 have E1:=zH e1
 rw [e1] at hb1 hn1 hs1
 have hb2:=Qb W1 (.cells d.vals 121)
 have hn2:=Qc W1 (.cells d.vals 121)
 have hk2:=(hb2.block _ (zJ hn1).1).trans hn1
 have hbw:=Qd hb1 hb2
 have hs2:=Qe W1 (.cells d.vals 121)
 rw [hs1] at hn2 hs2
 have HS1:=zH hs1
 obtain⟨W2,e2⟩:∃ W,W1.alloc (.cells d.vals 121)=W:=jV
 have E2:=zH e2
 rw [e2] at hn2 hk2 hbw hs2
 have HS2:=zH hs2
 have HB:=zH hbw
 have HK:Hid (W2.heap[w§]? = (zC #[.map (some b),.map (some b2),.map (some b3)] 172)∧W2.heap[w§+1]? = (zC d.vals 121)):=⟨hk2,hn2⟩
 have HR:Hid (RgM w b L∧d.x.size≤maxLen):=⟨hk,hx⟩
 clear hb1 hn1 hs1 hb2 hk2 hn2 hbw hk e1 e2 hx
 go_enter func184,ntmps184
 go_upto_region 1 with fail
 rw [E1.out,E2.out]
 try rw [HS1.out]
 clear E1 E2 HS1
 go_cut [5,6,7] from 8 to 16 (fun v5 v6 v7 wx=>∃ p q r,v5=zP p∧v6=zP q∧v7=zP r∧Hid (BX3 w wx #[.map (some b),.map (some b2),.map (some b3)] d.vals (ptV (d.sd,6)) (ptV (d.qt,2)) (ptV (d.pr,3)) p q r))
 case first =>
  refine wp_region_held_drew (S:=fun v=>yD W2 v) zK ⟨rfl,rfl,rfl,Nat.le_refl _,fun _ _=>rfl⟩ (fun hHeld=>?_)
  refine zTa 0
  rotate_left
  ·(intro v hv;go_simp;try (with_reducible rfl))
  try simp [Act.put]
  refine zTa 1
  rotate_left
  ·(intro v hv;have g:=(hv.block _ (zJ HK.out.2).1).trans HK.out.2;have t0:=Qa g 3;have t1:=Qa g 4;have t2:=Qa g 5;have t3:=Qa g 6;have t4:=Qa g 7;have t5:=Qa g 8;have t6:=Qa g 9;have t7:=Qa g 10;clear g;simp only [DoM.vals,doA] at t0 t1 t2 t3 t4 t5 t6 t7;go_simp;try (with_reducible rfl))
  try simp [Act.put]
  refine zTa 2
  rotate_left
  ·(intro v hv;go_simp;try (with_reducible rfl))
  try simp [Act.put]
  refine zTa 3
  rotate_left
  ·(intro v hv;go_simp;try (with_reducible rfl))
  try simp [Act.put]
  refine zTa 4
  rotate_left
  ·(intro v hv;have g:=(hv.block _ (zJ HK.out.2).1).trans HK.out.2;have t0:=Qa g 11;have t1:=Qa g 12;have t2:=Qa g 13;have t3:=Qa g 14;have t4:=Qa g 15;have t5:=Qa g 16;have t6:=Qa g 17;have t7:=Qa g 18;clear g;simp only [DoM.vals,doA] at t0 t1 t2 t3 t4 t5 t6 t7;go_simp;try (with_reducible rfl))
  try simp [Act.put]
  refine zTa 5
  rotate_left
  ·(intro v hv;go_simp;try (with_reducible rfl))
  try simp [Act.put]
  refine zTa 6
  rotate_left
  ·(intro v hv;go_simp;try (with_reducible rfl))
  try simp [Act.put]
  refine zTa 7
  rotate_left
  ·(intro v hv;have g:=(hv.block _ (zJ HK.out.2).1).trans HK.out.2;have t0:=Qa g 19;have t1:=Qa g 20;have t2:=Qa g 21;have t3:=Qa g 22;have t4:=Qa g 23;have t5:=Qa g 24;have t6:=Qa g 25;have t7:=Qa g 26;clear g;simp only [DoM.vals,doA] at t0 t1 t2 t3 t4 t5 t6 t7;go_simp;try (with_reducible rfl))
  try simp [Act.put]
  refine zTa 8
  rotate_left
  ·(intro v hv;go_simp;try (with_reducible rfl))
  try simp [Act.put]
  refine boxes9 (W:=W2) 213 zr (fun k=>if k=0 then ptV (d.sd,6) else if k=1 then ptV (d.qt,2) else ptV (d.pr,3)) (fun u=>⟨#[.agg #[.map (some b),.map (some b2),.map (some b3)],.agg d.vals,zP w§,.pointer (some ⟨w§+1,0,none⟩),zO,u 0,u 1,u 2,.pointer (some ⟨w§+1,3,none⟩),.agg #[zU d.sd.h.k,zU d.sd.h.o,zU d.sd.h.t,zI d.sd.h.n,zU d.sd.h.f,.string d.sd.h.x,.slice d.sd.a d.sd.ks.length d.sd.c,zI d.sd.h.p],.agg #[zU d.sd.h.k,zU d.sd.h.o,zU d.sd.h.t,zI d.sd.h.n,zU d.sd.h.f,.string d.sd.h.x,.slice d.sd.a d.sd.ks.length d.sd.c,zI d.sd.h.p,zU 6],.pointer (some ⟨w§+1,11,none⟩),.agg #[zU d.qt.h.k,zU d.qt.h.o,zU d.qt.h.t,zI d.qt.h.n,zU d.qt.h.f,.string d.qt.h.x,.slice d.qt.a d.qt.ks.length d.qt.c,zI d.qt.h.p],.agg #[zU d.qt.h.k,zU d.qt.h.o,zU d.qt.h.t,zI d.qt.h.n,zU d.qt.h.f,.string d.qt.h.x,.slice d.qt.a d.qt.ks.length d.qt.c,zI d.qt.h.p,zU 2],.pointer (some ⟨w§+1,19,none⟩),.agg #[zU d.pr.h.k,zU d.pr.h.o,zU d.pr.h.t,zI d.pr.h.n,zU d.pr.h.f,.string d.pr.h.x,.slice d.pr.a d.pr.ks.length d.pr.c,zI d.pr.h.p],.agg #[zU d.pr.h.k,zU d.pr.h.o,zU d.pr.h.t,zI d.pr.h.n,zU d.pr.h.f,.string d.pr.h.x,.slice d.pr.a d.pr.ks.length d.pr.c,zI d.pr.h.p,zU 3],undef,undef,undef,undef,undef,undef,undef,undef,undef,undef,undef,undef,undef,undef,undef,undef,undef,undef,undef,undef,undef,undef,undef,undef,undef,undef,undef,undef,undef,undef],[]⟩) (fun k=>.tmp (5+k.val)) (fun k=>.tmp (10+3 * k.val)) zK ?_ ?_ ?_ ?_ ?_ ?_ ?_ hHeld (fun _=>undef) ?_
  ·intro k
   rcases fin3 k with rfl | rfl | rfl
   ·exact⟨_,rfl,rfl,fun _ _=>by kernel_rfl,fun _ _=>rfl⟩
   ·exact⟨_,rfl,rfl,fun _ _=>by kernel_rfl,fun _ _=>rfl⟩
   ·exact⟨_,rfl,rfl,fun _ _=>by kernel_rfl,fun _ _=>rfl⟩
  ·intro k
   rcases fin3 k with rfl | rfl | rfl
   ·exact⟨_,rfl,rfl,rfl,fun _ _=>rfl⟩
   ·exact⟨_,rfl,rfl,rfl,fun _ _=>rfl⟩
   ·exact⟨_,rfl,rfl,rfl,fun _ _=>rfl⟩
  ·intro k u
   rcases fin3 k with rfl | rfl | rfl <;> rfl
  ·intro k u
   rcases fin3 k with rfl | rfl | rfl <;> rfl
  ·intro k
   rcases fin3 k with rfl | rfl | rfl <;> exact JL
  ·intro k
   rcases fin3 k with rfl | rfl | rfl <;> rfl
  ·intro k
   rcases fin3 k with rfl | rfl | rfl <;> exact all9 _
  ·intro u v hB
   obtain⟨p,h1,h2,h3⟩:=hB.M 0 rfl
   obtain⟨q,h4,h5,h6⟩:=hB.M 1 rfl
   obtain⟨r,h7,h8,h9⟩:=hB.M 2 rfl
   have HX:Hid (BX3 w v #[.map (some b),.map (some b2),.map (some b3)] d.vals (ptV (d.sd,6)) (ptV (d.qt,2)) (ptV (d.pr,3)) p q r):=⟨Qd HB.out hB.B,(hB.B.block _ (zJ HK.out.1).1).trans HK.out.1,(hB.B.block _ (zJ HK.out.2).1).trans HK.out.2,h3,h6,h9⟩
   rw [h1,h4,h7]
   clear hB h1 h2 h3 h4 h5 h6 h7 h8 h9
   go_wp2_with fail
   go_meet
   exact⟨p,q,r,rfl,rfl,rfl,HX⟩
 case rest =>
  obtain⟨p,q,r,rfl,rfl,rfl,HX⟩:=hcut
  have c0:zQ wc ⟨w§+1,0,none⟩ (zU d.k):=Qa HX.out.D 0
  have c1:zQ wc ⟨w§+1,1,none⟩ (zU d.o):=Qa HX.out.D 1
  have c2:zQ wc ⟨w§+1,2,none⟩ (.string d.x):=Qa HX.out.D 2
  have k0:zQ wc w§¢0 (.map (some b)):=Qa HX.out.K 0
  clear hs2
  cases h1:(d.k == 1) with
  | true =>
   cases h2:(d.o == 2) with
   | true =>
    have HL:Hid (ptsL L d = [(d.sd,6),(d.qt,2)]):=by show _=_;simp only [ptsL,h1,h2,if_true]
    go_wp2_with (first | (refine wpList_load_row rfl 213 (.tmp 5) rfl p rfl 213 (ptV (d.sd,6)) (0,0) _ HX.out.P underlying213 rfl JL ?_) | (refine wpList_load_row rfl 213 (.tmp 6) rfl q rfl 213 (ptV (d.qt,2)) (0,0) _ HX.out.Q underlying213 rfl JL ?_) | (refine JY rfl 248 213 (.tmp 24) (.tmp 25) rfl (ptV (d.sd,6)) (ptV (d.qt,2)) rfl rfl 9 _ underlying248 80 QaL rfl rfl rfl (by decide) (by decide) ?_))
    go_ret
    rw [HL.out]
    exact⟨_,_,rfl,Qg1 (Qc _ _),Qd HX.out.B (Qb _ _)⟩
   | false =>
    have HL:Hid (ptsL L d = [(d.sd,6),(d.qt,2),(d.pr,3)]):=by show _=_;simp only [ptsL,h1,h2,if_true];rfl
    go_wp2_with (first | (refine wpList_load_row rfl 213 (.tmp 5) rfl p rfl 213 (ptV (d.sd,6)) (0,0) _ HX.out.P underlying213 rfl JL ?_) | (refine wpList_load_row rfl 213 (.tmp 6) rfl q rfl 213 (ptV (d.qt,2)) (0,0) _ HX.out.Q underlying213 rfl JL ?_) | (refine wpList_load_row rfl 213 (.tmp 7) rfl r rfl 213 (ptV (d.pr,3)) (0,0) _ HX.out.R underlying213 rfl JL ?_) | (refine XH rfl 248 213 (.tmp 27) (.tmp 28) (.tmp 29) rfl (ptV (d.sd,6)) (ptV (d.qt,2)) (ptV (d.pr,3)) rfl rfl rfl 9 _ underlying248 80 QaL rfl rfl rfl rfl (by decide) (by decide) ?_))
    go_ret
    rw [HL.out]
    exact⟨_,_,rfl,slat3 (Qc _ _),Qd HX.out.B (Qb _ _)⟩
  | false =>
   cases h2:(d.k == 2) with
   | true =>
    have HL:Hid (ptsL L d = [(d.qt,2),(d.pr,3)]):=by show _=_;simp only [ptsL,h1,h2,if_true];rfl
    go_wp2_with (first | (refine wpList_load_row rfl 213 (.tmp 6) rfl q rfl 213 (ptV (d.qt,2)) (0,0) _ HX.out.Q underlying213 rfl JL ?_) | (refine wpList_load_row rfl 213 (.tmp 7) rfl r rfl 213 (ptV (d.pr,3)) (0,0) _ HX.out.R underlying213 rfl JL ?_) | (refine JY rfl 248 213 (.tmp 33) (.tmp 34) rfl (ptV (d.qt,2)) (ptV (d.pr,3)) rfl rfl 9 _ underlying248 80 QaL rfl rfl rfl (by decide) (by decide) ?_))
    go_ret
    rw [HL.out]
    exact⟨_,_,rfl,Qg1 (Qc _ _),Qd HX.out.B (Qb _ _)⟩
   | false =>
    cases h4:(d.k == 4) with
    | true =>
     have HL:Hid (ptsL L d = [(d.vl,(L d.x).getD 0)]):=by show _=_;simp only [ptsL,h1,h2,h4,if_true];rfl
     have hkey:=WideMaps.keyOf_string_mk (P:=zG) underlying9 HR.out.2
     obtain⟨n,D,hown,hL⟩:=HR.out.1.on HX.out.B
     have hat0:=(hL d.x HR.out.2).2
     have HH:=zH hat0
     clear hL hat0
     have c27:zQ wc ⟨w§+1,27,none⟩ (zU d.vl.h.k):=Qa HX.out.D 27
     have c28:zQ wc ⟨w§+1,28,none⟩ (zU d.vl.h.o):=Qa HX.out.D 28
     have c29:zQ wc ⟨w§+1,29,none⟩ (zU d.vl.h.t):=Qa HX.out.D 29
     have c30:zQ wc ⟨w§+1,30,none⟩ (zI d.vl.h.n):=Qa HX.out.D 30
     have c31:zQ wc ⟨w§+1,31,none⟩ (zU d.vl.h.f):=Qa HX.out.D 31
     have c32:zQ wc ⟨w§+1,32,none⟩ (.string d.vl.h.x):=Qa HX.out.D 32
     have c33:zQ wc ⟨w§+1,33,none⟩ (.slice d.vl.a d.vl.ks.length d.vl.c):=Qa HX.out.D 33
     have c34:zQ wc ⟨w§+1,34,none⟩ (zI d.vl.h.p):=Qa HX.out.D 34
     go_wp2_with (at_lookup;refine wpList_lookup_own_int _ rfl _ _ 139 rfl 9 34 .u8 law9 underlying139 underlying34 (K8 _) b n D rfl hown _ _ rfl hkey ?_;intro cc hat hwc)
     go_ret
     have ec:cc=(L d.x).getD 0:=by have h:=hat.symm.trans HH.out;injection h with h;injection h
     rw [HL.out,ec]
     exact⟨_,_,rfl,slat1 (Qc _ _),Qd HX.out.B (Qb _ _)⟩
    | false =>
     have HL:Hid (ptsL L d = []):=by show _=_;simp only [ptsL,h1,h2,h4];rfl
     go_wp2
     go_ret
     rw [HL.out]
     exact⟨_,_,rfl,⟨Nat.zero_le _,by decide,fun i hi=>by cases hi⟩,HX.out.B⟩
end Go.Proofs.YtfbjofnaghjmeaaGreatDoor
