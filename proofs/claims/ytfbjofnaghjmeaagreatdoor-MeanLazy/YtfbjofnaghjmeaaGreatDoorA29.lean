import Derived.Test.YtfbjofnaghjmeaaGreatDoorA26
namespace Go.Proofs.YtfbjofnaghjmeaaGreatDoor
open Go.Proofs.Tryz
set_option maxRecDepth 100000
open Go Go.RowKit
set_option linter.unusedVariables false
structure Tm where
 st:Int
 rg:List Int
 ac:List (Array Value)
 su:Int
structure Cx where
 s:Sx.Sn
 P:yB→Option Nat
 S:yB→Option Nat
 T:yB→Option Nat
 K:List (Nat × Obj)
def gOf (P:yB→Option Nat) (R:List Int) (x:yB):Option Int:=(P x).bind (fun i=>R[i]?)
def QX (R:List Int):Array Value:=(R.map (Value.int .i64)).toArray
theorem Ud {R:List Int}{i:Nat}{v:Int}(h:R[i]? = some v):(QX R)[i]? = some (zI v):=by
 unfold QX;simp [h]
def tnA (s:Sx.Sn) (rb n mb sb gb:Nat) (av:Value) (q:Tm):Array Value:=#[zI s.bid,zI s.ask,zI s.last,zI s.vol,zI s.now,zI s.opn,.slice (some rb¢0) n n,.map (some mb),.map (some sb),.map (some gb),zI q.st,av,zU q.su]
def PlM (w:yW) (b:Nat) (P:yB→Option Nat):Prop :=
 ∃ n D,w.ownsMap zG 9 (plainElem (H:=Unit) zG 3) b n D∧∀ x i,x.size≤maxLen→P x=some i→D.atKey (.string x.data.toList) (.lit (.int .i64 0))=.lit (.int .i64 (i:Nat))
theorem PlM.blk {w w':yW}{b:Nat}{P:yB→Option Nat}(h:PlM w b P) (k:w'.heap[b]? = w.heap[b]?):PlM w' b P:=by
 obtain⟨n,D,⟨es,clock,hb,F,hs,hD⟩,hP⟩:=h
 exact⟨n,D,⟨es,clock,k.trans hb,F,hs,hD⟩,hP⟩
theorem PlM.lt {w:yW}{b:Nat}{P:yB→Option Nat}(h:PlM w b P):b < w§:=by
 obtain⟨n,D,ho,_⟩:=h;exact ho.lt
theorem PlM.no {w:yW}{b c:Nat}{P:yB→Option Nat}(h:PlM w b P) {cs:Array Value}{t:TypeId}{f:Nat × Nat}(k:w.heap[c]? = some (.cells cs t f)):b≠c:=by
 rintro rfl
 obtain⟨n,D,⟨es,clock,hb,_⟩,_⟩:=h
 rw [k] at hb;cases hb
theorem PlM.look {w:yW}{b:Nat}{P:yB→Option Nat}(h:PlM w b P) {x:yB}{i:Nat}(hx:x.size≤maxLen) (hP:P x=some i) :
  Sem.run zG (Instr.lookup 89 (.map (some b)) (.string x) false) w=.ok (zI (i:Int)) w:=by
 obtain⟨n,D,ho,hk⟩:=h
 obtain⟨cc,h1,h2,_⟩:=World.ownsMap.lookup_int ho law9 underlying89 underlying3 (QgY _) (WideMaps.keyOf_string_mk (P:=zG) underlying9 hx)
 have e:=h2.symm.trans (hk x i hx hP)
 cases e
 exact h1
structure TnW (B h0:Nat) (x:Cx) (tb rb mb sb gb:Nat) (w:yW) (av:Value) (q:Tm):Prop where
 t:w.heap[tb]? = (zC (tnA x.s rb q.rg.length mb sb gb av q) 117)
 r:w.heap[rb]? = (zC (QX q.rg) 2)
 p:PlM w mb x.P
 s:PlM w sb x.S
 g:PlM w gb x.T
 row:Row w 79 6 av q.ac.length (arF q.ac 6)
 nb:∀ k,av.ownBlock=some k→h0≤k
 sz:∀ y ∈ q.ac,y.size=6
 bt:B≤tb
 br:B≤rb
 th:tb < h0
 rh:rb < h0
 mh:mb < h0
 sh:sb < h0
 gh:gb < h0
 hw:h0≤w§
 ne:tb≠rb
 pi:∀ y i,x.P y=some i→i < q.rg.length
 si:∀ y i,x.S y=some i→i < 1000000000
 i64:∀ v ∈ q.rg,I64 v
 fi:∀ f,I64 (Sx.getN x.s f)
 kp:∀ p ∈ x.K,w.heap[p.1]? = some p.2∧p.1 < h0∧p.1≠tb∧p.1≠rb
theorem TnW.hid {B h0:Nat}{x:Cx}{tb rb mb sb gb:Nat}{w:yW}{av:Value}{q:Tm}(h:TnW B h0 x tb rb mb sb gb w av q):Hid (TnW B h0 x tb rb mb sb gb w av q):=h
theorem TnW.on {B h0:Nat}{x:Cx}{tb rb mb sb gb:Nat}{w w':yW}{av:Value}{q:Tm}(h:TnW B h0 x tb rb mb sb gb w av q) (k:yD w w'):TnW B h0 x tb rb mb sb gb w' av q :=
 { h with
  t:=(k.block _ (zJ h.t).1).trans h.t
  r:=(k.block _ (zJ h.r).1).trans h.r
  p:=h.p.blk (k.block _ h.p.lt)
  s:=h.s.blk (k.block _ h.s.lt)
  g:=h.g.blk (k.block _ h.g.lt)
  row:=h.row.of_block (fun b hb=>k.block b (h.row.lt b hb))
  hw:=Nat.le_trans h.hw k.size
  kp:=fun p hp=>⟨(k.block _ (zJ (h.kp p hp).1).1).trans (h.kp p hp).1,(h.kp p hp).2⟩ }
theorem tn_sn {w:yW}{tb rb n mb sb gb:Nat}{s:Sx.Sn}{av:Value}{q:Tm}(h:w.heap[tb]? = (zC (tnA s rb n mb sb gb av q) 117)):Sx.SnAt w tb s :=
 ⟨Qa h 0,Qa h 1,Qa h 2,Qa h 3,Qa h 4,Qa h 5⟩
theorem TnW.sv {B h0:Nat}{x:Cx}{tb rb mb sb gb:Nat}{w:yW}{av:Value}{q:Tm}(h:TnW B h0 x tb rb mb sb gb w av q):Sv w tb x.s (gOf x.P q.rg):=by
 refine⟨tn_sn h.t,fun y v hy hv=>?_⟩
 unfold gOf at hv
 cases e:x.P y with
 | none=>rw [e] at hv;cases hv
 | some i =>
  rw [e] at hv
  have hv:q.rg[i]? = some v:=hv
  obtain⟨n,D,ho,hk⟩:=h.p
  exact⟨h.i64 _ (List.mem_of_getElem? hv),rb,0,q.rg.length,q.rg.length,mb,i,n,D,Qa h.t 6,Qa h.t 7,ho,hk y i hy e,h.pi y i e,by rw [Nat.zero_add];exact (Qa h.r i).trans (Ud hv)⟩
def cutW (w:yW) (h0:Nat):yW:={ w with heap:=w.heap.extract 0 h0 }
theorem KI {w:yW}{h0:Nat}(h:h0≤w§):(cutW w h0)§=h0:=by unfold cutW;simp;omega
theorem QcH {w:yW}{h0:Nat}(h:h0≤w§):Below (cutW w h0)§ (cutW w h0) w:=by
 rw [KI h]
 refine⟨rfl,rfl,rfl,by rw [KI h];exact h,fun b hb=>?_⟩
 unfold cutW
 simp [Array.getElem?_extract]
 omega
theorem TnW.ra {B h0:Nat}{x:Cx}{tb rb mb sb gb:Nat}{w:yW}{av:Value}{q:Tm}(h:TnW B h0 x tb rb mb sb gb w av q):RA (cutW w h0) w 79 6 av q.ac :=
 ⟨h.row,fun k hk=>by rw [KI h.hw];exact h.nb k hk,QcH h.hw,h.sz⟩
def K6 (S:yB→Option Nat) (x:yB):Int:=if x.toList.isEmpty=true then 0 else ((S x).getD 0:Nat)+1
theorem UZ {B h0:Nat}{x:Cx}{tb rb mb sb gb:Nat}{w:yW}{av:Value}{q:Tm}(h:TnW B h0 x tb rb mb sb gb w av q) (y:yB) (hy:y.size≤maxLen) (hs:y.toList.isEmpty=false→(x.S y).isSome=true) :
  Calls zG 171 #[zP tb,.string y] w fun e w'=>e=.returned (zI (K6 x.S y))∧w'=w:=by
 have c8:zQ w tb¢8 (.map (some sb)):=Qa h.t 8
 have HSI:=h.si
 have HP:=h.s
 unfold K6
 clear h
 cases eE:y.toList.isEmpty with
 | true =>
  go_enter func171,ntmps171
  go_wp2
  go_ret
  exact⟨rfl,rfl⟩
 | false =>
  obtain⟨i,ei⟩:=Option.isSome_iff_exists.1 (hs eE)
  have hrun:=HP.look hy ei
  have hi:=HSI y i ei
  have hw1:wrap64 ((i:Int)+1)=(i:Int)+1:=by unfold wrap64;omega
  rw [ei]
  clear HP HSI hs ei hi
  go_enter func171,ntmps171
  go_wp2
  go_ret
  exact⟨rfl,rfl⟩
theorem TnW.upd {B h0:Nat}{x:Cx}{tb rb mb sb gb:Nat}{w:yW}{av:Value}{q:Tm}{w':yW}{q':Tm}(h:TnW B h0 x tb rb mb sb gb w av q) (ht:w'.heap[tb]? = (zC (tnA x.s rb q'.rg.length mb sb gb av q') 117)) (ho:∀ b,b≠tb→w'.heap[b]? = w.heap[b]?) (hz:w§≤w'§) (e1:q'.rg=q.rg) (e2:q'.ac=q.ac):TnW B h0 x tb rb mb sb gb w' av q':=by
 obtain⟨st,rg,ac,su⟩:=q'
 obtain rfl:rg=q.rg:=e1
 obtain rfl:ac=q.ac:=e2
 exact { h with
  t:=ht
  r:=(ho _ (Ne.symm h.ne)).trans h.r
  p:=h.p.blk (ho _ (h.p.no h.t))
  s:=h.s.blk (ho _ (h.s.no h.t))
  g:=h.g.blk (ho _ (h.g.no h.t))
  row:=h.row.of_block (fun b hb=>ho b (fun e=>by have:=h.nb b hb;have:=h.th;omega))
  hw:=Nat.le_trans h.hw hz
  kp:=fun p hp=>⟨(ho _ (h.kp p hp).2.2.1).trans (h.kp p hp).1,(h.kp p hp).2⟩ }
theorem UY (W:yW) (p:Addr) (v:Value):(W.setCell p v)§=W§:=by unfold World.setCell;split <;> simp
theorem FO {w:yW}{tb:Nat}{cs:Array Value}(h:w.heap[tb]? = (zC cs 117)) (j:Nat) (v:Value):(w.setCell tb¢j v).heap[tb]? = (zC (cs.setIfInBounds j v) 117):=Qp v h
theorem Jp {w:yW}{tb j:Nat}{v:Value}(b:Nat) (h:b≠tb):(w.setCell tb¢j v).heap[b]? = w.heap[b]?:=Below.heap_setCell _ _ _ _ h
theorem Qct {B h0:Nat}{x:Cx}{tb rb mb sb gb:Nat}{w:yW}{av:Value}{q:Tm}(h:TnW B h0 x tb rb mb sb gb w av q) (d:DoM) :
  Calls zG 133 #[zP tb,.agg d.vals] w fun e w'=>e=.returned (.tuple #[])∧TnW B h0 x tb rb mb sb gb w' av { q with su:=2 }∧Below B w w':=by
 have HB:=Qb w (.cells d.vals 121)
 have H:=(h.on HB).hid
 have HBB:=zH (HB.mono (Nat.le_trans h.bt (Nat.le_of_lt (zJ h.t).1)))
 have f12:=Qf H.out.t 12
 have c12:(zA w d.vals 121).cell? tb¢12=some (zU q.su):=Qa H.out.t 12
 obtain⟨V,eV⟩:∃ V,w.alloc (.cells d.vals 121)=V:=jV
 have EV:=zH eV
 rw [eV] at H HBB f12 c12
 clear eV HB
 have HE:Hid (TnW B h0 x tb rb mb sb gb (V.setCell tb¢12 (zU 2)) av { q with su:=2 }∧Below B w (V.setCell tb¢12 (zU 2))) :=
  ⟨H.out.upd (FO H.out.t 12 _) Jp (by rw [UY];exact Nat.le_refl _) rfl rfl,HBB.out.setCell (p:=tb¢12) H.out.bt _⟩
 clear h
 go_enter func133,ntmps133
 go_upto_region 1 with fail
 rw [EV.out]
 go_wp2_with fail
 go_end0
 exact⟨rfl,HE.out.1,HE.out.2⟩
theorem Qcu {B h0:Nat}{x:Cx}{tb rb mb sb gb:Nat}{w:yW}{av:Value}{q:Tm}(h:TnW B h0 x tb rb mb sb gb w av q) (d:DoM) (hx:d.x.size≤maxLen) {i:Nat}(hi:x.T d.x=some i) :
  Calls zG 132 #[zP tb,.agg d.vals] w fun e w'=>e=.returned (.tuple #[])∧TnW B h0 x tb rb mb sb gb w' av { q with st:=(i:Int) }∧Below B w w':=by
 have HB:=Qb w (.cells d.vals 121)
 have HN:=Qc w (.cells d.vals 121)
 have H:=(h.on HB).hid
 have HBB:=zH (HB.mono (Nat.le_trans h.bt (Nat.le_of_lt (zJ h.t).1)))
 obtain⟨V,eV⟩:∃ V,w.alloc (.cells d.vals 121)=V:=jV
 have EV:=zH eV
 rw [eV] at H HBB HN
 have HN:=zH HN
 clear eV HB
 have HE:Hid (TnW B h0 x tb rb mb sb gb (V.drew.setCell tb¢10 (zI (i:Int))) av { q with st:=(i:Int) }∧Below B w (V.drew.setCell tb¢10 (zI (i:Int)))) :=
  ⟨(H.out.on ⟨rfl,rfl,rfl,Nat.le_refl _,fun _ _=>rfl⟩).upd (FO H.out.t 10 _) Jp (by rw [UY];exact Nat.le_refl _) rfl rfl,HBB.out.drew.setCell (p:=tb¢10) H.out.bt _⟩
 have HL:Hid (∀ u,PlM u gb x.T→Sem.run zG (Instr.lookup 89 (.map (some gb)) (.string d.x) false) u=.ok (zI (i:Int)) u):=fun u hu=>hu.look hx hi
 have HS:Hid (V.heap[tb]? = (zC (tnA x.s rb q.rg.length mb sb gb av q) 117)∧V.heap[w§]? = (zC d.vals 121)∧PlM V gb x.T):=⟨H.out.t,HN.out,H.out.g⟩
 have HC:Hid (V.drew.cell? tb¢10=some (zI q.st)∧V.drew.frozen? tb¢10=false):=⟨Qa H.out.t 10,Qf H.out.t 10⟩
 clear h hi
 go_enter func132,ntmps132
 go_upto_region 1 with fail
 rw [EV.out]
 refine (?_:∀ Q',Hid (Q'=_)→Code.wp _ _ Q' _ _) _ rfl
 intro Q' HQ'
 have HPn:zHP Q':=by rw [HQ'.out];exact fun _ _ _ _ _ h=>h
 refine QA (t:=10) (S:=fun u=>u.heap[tb]? = (zC (tnA x.s rb q.rg.length mb sb gb av q) 117)∧u.heap[w§]? = (zC d.vals 121)∧PlM u gb x.T) zK HS.out (fun hHeld=>?_)
 refine zTd 0 HPn
 rotate_left
 ·(intro v hv;go_simp;try (with_reducible rfl))
 try simp [Act.put]
 refine zTd 1 HPn
 rotate_left
 ·(intro v hv;go_simp;try (with_reducible rfl))
 try simp [Act.put]
 refine zTd 2 HPn
 rotate_left
 ·(intro v hv;go_simp;try (with_reducible rfl))
 try simp [Act.put]
 refine zTd 3 HPn
 rotate_left
 ·(intro v hv;go_simp;try (with_reducible rfl))
 try simp [Act.put]
 refine zTd 4 HPn
 rotate_left
 ·(intro v hv;have c9:zQ v tb¢9 (.map (some gb)):=Qa hv.1 9;clear hv;go_simp;try (with_reducible rfl))
 try simp [Act.put]
 refine zTd 5 HPn
 rotate_left
 ·(intro v hv;go_simp;try (with_reducible rfl))
 try simp [Act.put]
 refine zTd 6 HPn
 rotate_left
 ·(intro v hv;have c2:zQ v w§¢2 (.string d.x):=Qa hv.2.1 2;clear hv;go_simp;try (with_reducible rfl))
 try simp [Act.put]
 refine zTd 7 HPn
 rotate_left
 ·(intro v hv;have hr:=HL.out v hv.2.2;clear hv;go_simp;try (with_reducible rfl))
 try simp [Act.put]
 refine Qh (i:=8) zK rfl (fun K hK=>?_)
 go_simp
 refine hK.out _ _ (fun _=>hHeld) ?_
 clear hK K
 try simp [Act.put]
 refine zTd 9 HPn
 rotate_left
 ·(intro v hv;go_simp;try (with_reducible rfl))
 try simp [Act.put]
 have c10:=HC.out.1
 have f10:=HC.out.2
 refine Qh (i:=10) zK rfl (fun K hK=>?_)
 go_simp
 refine hK.out _ _ (fun h=>absurd rfl h) ?_
 clear hK K
 try simp [Act.put]
 refine QB zK ?_ _
 rw [HQ'.out]
 clear HQ' HPn Q'
 go_wp2_with fail
 go_end0
 exact⟨rfl,HE.out.1,HE.out.2⟩
theorem Res.mono {G H:yB→Option Int}(k:∀ y,(G y).isSome=true→(H y).isSome=true) {m:Nd}(h:Res G m):Res H m:=by
 induction h with
 | mk h a c ks hf hn hs ih=>exact .mk h a c ks hf (fun e=>k _ (hn e)) ih
theorem TnW.bs {B h0:Nat}{x:Cx}{tb rb mb sb gb:Nat}{w:yW}{av:Value}{q:Tm}(h:TnW B h0 x tb rb mb sb gb w av q):B≤w§:=by have:=h.bt;have:=h.th;have:=h.hw;omega
theorem TnW.reg {B h0:Nat}{x:Cx}{tb rb mb sb gb:Nat}{w:yW}{av:Value}{q:Tm}{w':yW}{i:Nat}{v:Int}(h:TnW B h0 x tb rb mb sb gb w av q) (hv:I64 v) (hr:w'.heap[rb]? = (zC ((QX q.rg).setIfInBounds i (zI v)) 2)) (ho:∀ b,b≠rb→w'.heap[b]? = w.heap[b]?) (hz:w§≤w'§):TnW B h0 x tb rb mb sb gb w' av { q with rg:=q.rg.set i v }:=by
 have hrr:w'.heap[rb]? = (zC (QX (q.rg.set i v)) 2):=by
  rw [hr]
  congr 2
  unfold QX
  rw [List.map_set]
  simp
 exact { h with
  t:=by show _=some (Obj.cells (tnA x.s rb (q.rg.set i v).length mb sb gb av _) _ _);rw [List.length_set];exact (ho _ h.ne).trans h.t
  r:=hrr
  p:=h.p.blk (ho _ (h.p.no h.r))
  s:=h.s.blk (ho _ (h.s.no h.r))
  g:=h.g.blk (ho _ (h.g.no h.r))
  row:=h.row.of_block (fun b hb=>ho b (fun e=>by have:=h.nb b hb;have:=h.rh;omega))
  hw:=Nat.le_trans h.hw hz
  kp:=fun p hp=>⟨(ho _ (h.kp p hp).2.2.2).trans (h.kp p hp).1,(h.kp p hp).2⟩
  pi:=fun y j hj=>by show j < (q.rg.set i v).length;rw [List.length_set];exact h.pi y j hj
  i64:=fun z hz=>by
   rcases List.mem_or_eq_of_mem_set hz with h1 | h1
   ·exact h.i64 z h1
   ·rw [h1];exact hv }
theorem Qds {B h0:Nat}{x:Cx}{tb rb mb sb gb:Nat}{w:yW}{av:Value}{q:Tm}(h:TnW B h0 x tb rb mb sb gb w av q) (d:DoM) (hx:d.x.size≤maxLen) {i:Nat}(hi:x.P d.x=some i) (hl:Lies w d.vl) (hr:Res (gOf x.P q.rg) d.vl) :
  Calls zG 131 #[zP tb,.agg d.vals] w (fun e w'=>match valR x.s (gOf x.P q.rg) d.vl with
   | .error c=>e=fltE c∧yD w w'
   | .ok v=>e=.returned (.tuple #[])∧TnW B h0 x tb rb mb sb gb w' av { q with rg:=q.rg.set i v }∧Below B w w'):=by
 have HB:=Qb w (.cells d.vals 121)
 have HN:=Qc w (.cells d.vals 121)
 have H:=(h.on HB).hid
 have HBB:=zH (HB.mono (Nat.le_trans h.bt (Nat.le_of_lt (zJ h.t).1)))
 have HLI:=hl.on HB
 obtain⟨V,eV⟩:∃ V,w.alloc (.cells d.vals 121)=V:=jV
 have EV:=zH eV
 rw [eV] at H HBB HN HLI
 have HBC:=zH (eV ▸ HB)
 have HN:=zH HN
 have HDR:yD V V.drew:=⟨rfl,rfl,rfl,Nat.le_refl _,fun _ _=>rfl⟩
 have cV:=Jx (s:=x.s) (G:=gOf x.P q.rg) h.fi d.vl V.drew (H.out.on HDR).sv (HLI.on HDR) hr
 have HV6:=zH (Qc0 h.fi (fun y v h1 h2=>(h.sv.rg y v h1 h2).1) d.vl hl)
 have hlt:=h.pi _ _ hi
 have hlt':(i:Int) < (q.rg.length:Int):=by omega
 obtain⟨v0,ev0⟩:∃ v0,q.rg[i]? = some v0:=⟨_,List.getElem?_eq_getElem hlt⟩
 have hi0:(0:Int)≤(i:Int):=by omega
 clear eV HB HLI HDR hlt
 have HL:Hid (∀ u,PlM u mb x.P→Sem.run zG (Instr.lookup 89 (.map (some mb)) (.string d.x) false) u=.ok (zI (i:Int)) u):=fun u hu=>hu.look hx hi
 have HS:Hid (∀ u,yD V u→u.heap[tb]? = (zC (tnA x.s rb q.rg.length mb sb gb av q) 117)∧u.heap[w§]? = (zC d.vals 121)∧PlM u mb x.P):=fun u k=>⟨(H.out.on k).t,(k.block _ (zJ HN.out).1).trans HN.out,(H.out.on k).p⟩
 have HC:Hid (∀ u,yD V u→zQ u rb¢i (zI v0)∧zS u rb¢i):=fun u k=>⟨(Qa (H.out.on k).r i).trans (Ud ev0),Qf (H.out.on k).r i⟩
 obtain⟨r,er⟩:∃ r,valR x.s (gOf x.P q.rg) d.vl=r:=jV
 rw [er] at cV HV6 ⊢
 clear h hi hl hr ev0 er
 have cV:Calls zG 37 #[zP tb,.agg #[zU d.vl.h.k,zU d.vl.h.o,zU d.vl.h.t,zI d.vl.h.n,zU d.vl.h.f,.string d.vl.h.x,.slice d.vl.a d.vl.ks.length d.vl.c,zI d.vl.h.p]] V.drew (OutV V.drew r):=cV
 go_enter func131,ntmps131
 go_upto_region 1 with fail
 rw [EV.out]
 refine (?_:∀ Q',Hid (Q'=_)→Code.wp _ _ Q' _ _) _ rfl
 intro Q' HQ'
 have HPn:zHP Q':=by rw [HQ'.out];exact fun _ _ _ _ _ h=>h
 refine QA (t:=20) (S:=fun u=>u.heap[tb]? = (zC (tnA x.s rb q.rg.length mb sb gb av q) 117)∧u.heap[w§]? = (zC d.vals 121)∧PlM u mb x.P) zK (HS.out V (Below.refl _ _)) (fun hHeld=>?_)
 refine zTd 0 HPn
 rotate_left
 ·(intro v hv;go_simp;try (with_reducible rfl))
 try simp [Act.put]
 refine zTd 1 HPn
 rotate_left
 ·(intro v hv;go_simp;try (with_reducible rfl))
 try simp [Act.put]
 refine zTd 2 HPn
 rotate_left
 ·(intro v hv;go_simp;try (with_reducible rfl))
 try simp [Act.put]
 refine zTd 3 HPn
 rotate_left
 ·(intro v hv;go_simp;try (with_reducible rfl))
 try simp [Act.put]
 refine zTd 4 HPn
 rotate_left
 ·(intro v hv;have c6:zQ v tb¢6 (.slice (some rb¢0) q.rg.length q.rg.length):=Qa hv.1 6;clear hv;go_simp;try (with_reducible rfl))
 try simp [Act.put]
 refine zTd 5 HPn
 rotate_left
 ·(intro v hv;go_simp;try (with_reducible rfl))
 try simp [Act.put]
 refine zTd 6 HPn
 rotate_left
 ·(intro v hv;go_simp;try (with_reducible rfl))
 try simp [Act.put]
 refine zTd 7 HPn
 rotate_left
 ·(intro v hv;go_simp;try (with_reducible rfl))
 try simp [Act.put]
 refine zTd 8 HPn
 rotate_left
 ·(intro v hv;go_simp;try (with_reducible rfl))
 try simp [Act.put]
 refine zTd 9 HPn
 rotate_left
 ·(intro v hv;have c7:zQ v tb¢7 (.map (some mb)):=Qa hv.1 7;clear hv;go_simp;try (with_reducible rfl))
 try simp [Act.put]
 refine zTd 10 HPn
 rotate_left
 ·(intro v hv;go_simp;try (with_reducible rfl))
 try simp [Act.put]
 refine zTd 11 HPn
 rotate_left
 ·(intro v hv;have c2:zQ v w§¢2 (.string d.x):=Qa hv.2.1 2;clear hv;go_simp;try (with_reducible rfl))
 try simp [Act.put]
 refine zTd 12 HPn
 rotate_left
 ·(intro v hv;have hr:=HL.out v hv.2.2;clear hv;go_simp;try (with_reducible rfl))
 try simp [Act.put]
 refine zTd 13 HPn
 rotate_left
 ·(intro v hv;go_simp;try (with_reducible rfl))
 try simp [Act.put]
 refine zTd 14 HPn
 rotate_left
 ·(intro v hv;go_simp;try (with_reducible rfl))
 try simp [Act.put]
 refine zTd 15 HPn
 rotate_left
 ·(intro v hv;go_simp;try (with_reducible rfl))
 try simp [Act.put]
 refine zTd 16 HPn
 rotate_left
 ·(intro v hv;go_simp;try (with_reducible rfl))
 try simp [Act.put]
 refine zTd 17 HPn
 rotate_left
 ·(intro v hv;have e0:zQ v w§¢27 (zU d.vl.h.k):=Qa hv.2.1 27;have e1:zQ v w§¢28 (zU d.vl.h.o):=Qa hv.2.1 28;have e2:zQ v w§¢29 (zU d.vl.h.t):=Qa hv.2.1 29;have e3:zQ v w§¢30 (zI d.vl.h.n):=Qa hv.2.1 30;have e4:zQ v w§¢31 (zU d.vl.h.f):=Qa hv.2.1 31;have e5:zQ v w§¢32 (.string d.vl.h.x):=Qa hv.2.1 32;have e6:zQ v w§¢33 (.slice d.vl.a d.vl.ks.length d.vl.c):=Qa hv.2.1 33;have e7:zQ v w§¢34 (zI d.vl.h.p):=Qa hv.2.1 34;clear hv;go_simp;try (with_reducible rfl))
 try simp [Act.put]
 cases r with
 | error c =>
  refine Qh (i:=18) zK rfl (fun K hK=>?_)
  go_simp
  refine cV.mono ?_
  rintro e w1 ⟨rfl,hb⟩
  rw [HQ'.out]
  exact⟨rfl,rfl,HBC.out.drew.trans (hb.mono HBC.out.size)⟩
 | ok z =>
  refine Qh (i:=18) zK rfl (fun K hK=>?_)
  go_simp
  refine cV.mono ?_
  rintro e w1 ⟨rfl,hb⟩
  have HB1:Hid (yD V w1):=⟨hb.os,hb.tape,hb.output,hb.size,hb.block⟩
  clear hb
  unfold endV
  go_simp
  refine hK.out _ _ (fun _=>HS.out _ HB1.out) ?_
  clear hK K
  try simp [Act.put]
  refine Qh (i:=19) zK rfl (fun K hK=>?_)
  go_simp
  refine hK.out _ _ (fun _=>HS.out _ HB1.out) ?_
  clear hK K
  try simp [Act.put]
  obtain⟨cr,fr⟩:=HC.out _ HB1.out
  refine Qh (i:=20) zK rfl (fun K hK=>?_)
  go_simp
  refine hK.out _ _ (fun h=>absurd rfl h) ?_
  clear hK K
  try simp [Act.put]
  refine QB zK ?_ _
  rw [HQ'.out]
  clear HQ' HPn Q'
  have HE:Hid (TnW B h0 x tb rb mb sb gb (w1.setCell rb¢i (zI z)) av { q with rg:=q.rg.set i z }∧Below B w (w1.setCell rb¢i (zI z))) :=
   ⟨(H.out.on HB1.out).reg (HV6.out z rfl) (Qp _ (H.out.on HB1.out).r) Jp (by rw [UY];exact Nat.le_refl _),(HBB.out.trans (HB1.out.mono H.out.bs)).setCell (p:=rb¢i) H.out.br _⟩
  go_wp2_with fail
  go_end0
  exact⟨rfl,HE.out.1,HE.out.2⟩
theorem Qbu:(Tryz.prog.info? 79).map (fun i=>(i.zero,i.size,i.bytes))=some (some (.agg #[zU 0,zU 0,zU 0,zI 0,zI 0,zI 0]),6,32):=by kernel_rfl
theorem RA.sl3 {W w:yW}{e:TypeId}{n:Nat}{v:Value}{L:List (Array Value)}(h:RA W w e n v L):∃ a k c,v=.slice a k c:=let ⟨a,c,e,_⟩:=h.row.form;⟨a,_,c,e⟩
def acA (k o s p n l:Int):Array Value:=#[zU k,zU o,zU s,zI p,zI n,zI l]
theorem Pu (k o s p n l:Int):∀ u ∈ (acA k o s p n l).toList,u.oneCell'=true:=by simp [acA,Value.oneCell']
theorem TnW.app {B h0:Nat}{x:Cx}{tb rb mb sb gb:Nat}{w:yW}{av:Value}{q:Tm}{w2:yW}{v':Value}{y:Array Value}(h:TnW B h0 x tb rb mb sb gb w av q) (hr:RA (cutW w h0) w2 79 6 v' (q.ac ++ [y])) (hs:w§≤w2§) (hk:∀ b,b < w§→av.ownBlock≠some b→w2.heap[b]? = w.heap[b]?) :
  TnW B h0 x tb rb mb sb gb (w2.setCell tb¢11 v') v' { q with ac:=q.ac ++ [y] }∧Below B w (w2.setCell tb¢11 v'):=by
 have no:∀ b,b < h0→b < w§∧av.ownBlock≠some b:=fun b hb=>⟨by have:=h.hw;omega,fun e=>by have:=h.nb b e;omega⟩
 have old:∀ b,b < h0→w2.heap[b]? = w.heap[b]?:=fun b hb=>hk b (no b hb).1 (no b hb).2
 have nb':∀ k,v'.ownBlock=some k→h0≤k:=fun k e=>by have:=hr.nb k e;rwa [KI h.hw] at this
 have ht:w2.heap[tb]? = (zC (tnA x.s rb q.rg.length mb sb gb av q) 117):=(old _ h.th).trans h.t
 have hz:(w2.setCell tb¢11 v')§=w2§:=UY _ _ _
 refine⟨{ h with
  t:=FO ht 11 v'
  r:=(Jp _ (Ne.symm h.ne)).trans ((old _ h.rh).trans h.r)
  p:=h.p.blk ((Jp _ (h.p.no h.t)).trans (old _ h.mh))
  s:=h.s.blk ((Jp _ (h.s.no h.t)).trans (old _ h.sh))
  g:=h.g.blk ((Jp _ (h.g.no h.t)).trans (old _ h.gh))
  row:=hr.row.of_block (fun b hb=>Jp b (fun e=>by have:=nb' b hb;have:=h.th;omega))
  nb:=nb'
  sz:=hr.sz
  hw:=by rw [hz];exact Nat.le_trans h.hw hs
  kp:=fun p hp=>⟨(Jp _ (h.kp p hp).2.2.1).trans ((old _ (h.kp p hp).2.1).trans (h.kp p hp).1),(h.kp p hp).2⟩ },?_⟩
 have hB:=hr.B
 rw [KI h.hw] at hB
 have h1:Below B w w2:=⟨hB.os,hB.tape,hB.output,hs,fun b hb=>old b (by have:=h.bt;have:=h.th;omega)⟩
 exact h1.setCell (p:=tb¢11) h.bt _
theorem Fz {B h0:Nat}{x:Cx}{tb rb mb sb gb:Nat}{w:yW}{av:Value}{q:Tm}(h:TnW B h0 x tb rb mb sb gb w av q) (d:DoM) (hx:d.x.size≤maxLen) (hs:d.x.toList.isEmpty=false→(x.S d.x).isSome=true) (hn:q.ac.length≤1000000000) :
  Calls zG 130 #[zP tb,.agg d.vals] w (fun e w'=>e=.returned (.tuple #[])∧∃ av',TnW B h0 x tb rb mb sb gb w' av' { q with ac:=q.ac ++ [acA 3 0 0 0 0 (K6 x.S d.x)] }∧Below B w w'):=by
 have HB:=Qb w (.cells d.vals 121)
 have HN:=Qc w (.cells d.vals 121)
 have H:=(h.on HB).hid
 have HBB:=zH (HB.mono (Nat.le_trans h.bt (Nat.le_of_lt (zJ h.t).1)))
 obtain⟨V,eV⟩:∃ V,w.alloc (.cells d.vals 121)=V:=jV
 have EV:=zH eV
 rw [eV] at H HBB HN
 have HN:=zH HN
 have HDR:yD V V.drew:=⟨rfl,rfl,rfl,Nat.le_refl _,fun _ _=>rfl⟩
 have H:=(H.out.on HDR).hid
 have cV:=UZ H.out d.x hx hs
 have HLN:=zH hn
 have HOB:Hid (av.ownBlock≠some w§):=fun e=>by have:=h.row.lt _ e;omega
 have HRA:=zH H.out.ra
 obtain⟨sl,esl⟩:∃ sl,K6 x.S d.x=sl:=jV
 rw [esl] at cV ⊢
 clear eV HB h hs hn esl HDR
 have HS:Hid (∀ u,yD V u→u.heap[tb]? = (zC (tnA x.s rb q.rg.length mb sb gb av q) 117)∧u.heap[w§]? = (zC d.vals 121)):=fun u k=>⟨(k.block _ (zJ H.out.t).1).trans H.out.t,(k.block _ (zJ HN.out).1).trans HN.out⟩
 go_enter func130,ntmps130
 go_upto_region 1 with fail
 rw [EV.out]
 refine (?_:∀ Q',Hid (Q'=_)→Code.wp _ _ Q' _ _) _ rfl
 intro Q' HQ'
 have HPn:zHP Q':=by rw [HQ'.out];exact fun _ _ _ _ _ h=>h
 refine QA (t:=14) (S:=fun u=>u.heap[tb]? = (zC (tnA x.s rb q.rg.length mb sb gb av q) 117)∧u.heap[w§]? = (zC d.vals 121)) zK (HS.out V (Below.refl _ _)) (fun hHeld=>?_)
 refine zTd 0 HPn
 rotate_left
 ·(intro v hv;go_simp;try (with_reducible rfl))
 try simp [Act.put]
 refine zTd 1 HPn
 rotate_left
 ·(intro v hv;go_simp;try (with_reducible rfl))
 try simp [Act.put]
 refine zTd 2 HPn
 rotate_left
 ·(intro v hv;go_simp;try (with_reducible rfl))
 try simp [Act.put]
 refine zTd 3 HPn
 rotate_left
 ·(intro v hv;go_simp;try (with_reducible rfl))
 try simp [Act.put]
 refine zTd 4 HPn
 rotate_left
 ·(intro v hv;have c11:v.cell? tb¢11=some av:=Qa hv.1 11;clear hv;go_simp;try (with_reducible rfl))
 try simp [Act.put]
 refine zTd 5 HPn
 rotate_left
 ·(intro v hv;go_simp;try (with_reducible rfl))
 try simp [Act.put]
 refine zTd 6 HPn
 rotate_left
 ·(intro v hv;go_simp;try (with_reducible rfl))
 try simp [Act.put]
 refine zTd 7 HPn
 rotate_left
 ·(intro v hv;have c2:zQ v w§¢2 (.string d.x):=Qa hv.2 2;clear hv;go_simp;try (with_reducible rfl))
 try simp [Act.put]
 refine Qh (i:=8) zK rfl (fun K hK=>?_)
 go_simp
 refine cV.mono ?_
 rintro e w1 ⟨rfl,ew⟩
 obtain rfl:=ew.symm
 refine hK.out _ _ (fun _=>HS.out _ ⟨rfl,rfl,rfl,Nat.le_refl _,fun _ _=>rfl⟩) ?_
 clear hK K
 try simp [Act.put]
 refine zTd 9 HPn
 rotate_left
 ·(intro v hv;go_simp;try (with_reducible rfl))
 try simp [Act.put]
 refine Qh (i:=10) zK rfl (fun K hK=>?_)
 go_simp
 refine hK.out _ _ (fun _=>HS.out _ ((Below.drew (Below.refl _ V)).alloc (Nat.le_refl _) _)) ?_
 clear hK K
 try simp [Act.put]
 refine Qh (i:=11) zK rfl (fun K hK=>?_)
 refine X0 rfl (.tmp 8) (.tmp 14) 56 79 6 32 _ rfl underlying56 Qbu rfl (by decide) (by decide) (by decide) (acA 3 0 0 0 0 sl) rfl (Pu _ _ _ _ _ _) HRA.out rfl rfl HLN.out ?_
 intro v1 w2 hr2 hs2 hq2 hz2
 obtain⟨ao3,n3,c3,rfl⟩:=hr2.sl3
 have HF:=H.out.app hr2 hs2 hq2
 have HF2:Hid (TnW B h0 x tb rb mb sb gb (w2.setCell tb¢11 (.slice ao3 n3 c3)) (.slice ao3 n3 c3) { q with ac:=q.ac ++ [acA 3 0 0 0 0 sl] }∧Below B w (w2.setCell tb¢11 (.slice ao3 n3 c3))):=⟨HF.1,HBB.out.drew.trans HF.2⟩
 have ht2:w2.heap[tb]? = (zC (tnA x.s rb q.rg.length mb sb gb av q) 117):=(hq2 tb (zJ H.out.t).1 (fun e=>by have:=H.out.nb tb e;have:=H.out.th;omega)).trans H.out.t
 have hn2:w2.heap[w§]? = (zC d.vals 121):=(hq2 _ (zJ HN.out).1 HOB.out).trans HN.out
 have HS2:Hid (w2.heap[tb]? = (zC (tnA x.s rb q.rg.length mb sb gb av q) 117)∧w2.heap[w§]? = (zC d.vals 121)):=⟨ht2,hn2⟩
 clear hr2 hs2 hq2 hz2 HF ht2 hn2
 refine hK.out _ _ (fun _=>HS2.out) ?_
 clear hK K
 try simp [Act.put]
 refine Qh (i:=12) zK rfl (fun K hK=>?_)
 go_simp
 refine hK.out _ _ (fun _=>HS2.out) ?_
 clear hK K
 try simp [Act.put]
 refine QJ (i:=13) (v:=?_) rfl zK zK zK zK (fun c a w h=>HPn.out c _ _ a w h) (Or.inl ⟨by rfl,?_⟩) HS2.out ?_
 rotate_left
 ·(intro v hv;go_simp;try (with_reducible rfl))
 try simp [Act.put]
 have c11:w2.cell? tb¢11=some av:=Qa HS2.out.1 11
 have f11:=Qf HS2.out.1 11
 refine Qh (i:=14) zK rfl (fun K hK=>?_)
 go_simp
 refine hK.out _ _ (fun h=>absurd rfl h) ?_
 clear hK K
 try simp [Act.put]
 refine QB zK ?_ _
 rw [HQ'.out]
 clear HQ' HPn Q'
 go_wp2_with fail
 go_end0
 exact⟨rfl,⟨_,HF2.out.1⟩,HF2.out.2⟩
set_option maxHeartbeats 4000000
section
variable {P : Program} {ops : Array Oper} {Q : Exit → Act → yW → Prop} {md : Region.Mode} {S : yW → Prop} {t : Nat}
theorem FI {i j:Nat}{o o':Oper}{fuel:Nat}{listed:Array Bool}{a:Act}{w:yW}(hr:Region.ready md ops listed = [i,j]) (ho:ops[i]? = some o) (ho':ops[j]? = some o')
  (h:∀ K':Act→yW→Prop,Shut (∀ a w,(i≠t→S w)→JO P md ops Q S t fuel (listed.setIfInBounds i true) a w→K' a w)→if Region.wanted o (yielded ops a.tmps)=true then Oper.wp P o a w K' Q else K' (a.put o.dst undef) w)
  (h':∀ K':Act→yW→Prop,Shut (∀ a w,(j≠t→S w)→JO P md ops Q S t fuel (listed.setIfInBounds j true) a w→K' a w)→if Region.wanted o' (yielded ops a.tmps)=true then Oper.wp P o' a w K' Q else K' (a.put o'.dst undef) w) :
  JO P md ops Q S t (fuel+1) listed a w :=
 ⟨fun h0=>absurd (hr ▸ h0) (by simp),fun k hk=>by
  rw [hr] at hk
  rcases List.mem_cons.1 hk with rfl | hk
  ·exact wpOp_step ho (fun K' hK=>h K' (fun a w hS hW=>hK a w ⟨hS,hW⟩))
  ·obtain rfl:=List.mem_singleton.1 hk
   exact wpOp_step ho' (fun K' hK=>h' K' (fun a w hS hW=>hK a w ⟨hS,hW⟩))⟩
end
theorem Q4 {P:Program}{ops:Array Oper}{o:Oper}{a:Act}{w:yW}{K:Act→yW→Prop}{Q:Exit→Act→yW→Prop}{E:Prop}(hgd:o.guard=none) (ty:TypeId) (x y:Operand) (ho:o.op=.store ty x y)
  (g:Nat) (cells:Array Value) (hx:a.eval x=zP g) (hy:a.eval y=.agg cells) (t:TypeId) (old:Array Value) (hg:w.heap[g]? = (zC old t)) (hi:(P.info? ty).map (·.size)=some cells.size)
  (hold:old.size=cells.size) (h1:cells.all (·.oneCell')=true)
  (h:K (a.put o.dst undef) (w.setRow g cells)):if Region.wanted o (yielded ops a.tmps)=true then Oper.wp P o a w K Q else E:=by
 have hw:Region.wanted o (yielded ops a.tmps)=true:=by unfold Region.wanted;rw [hgd]
 rw [if_pos hw]
 exact wp_store_row ty x y ho g cells hx hy t old hg hi hold h1 h
structure AcK (w:yW) (d:DoM) (M:Nat) (U:yW) (a:Array Value):Prop where
 b:yD w U
 n:U.heap[w§]? = (zC d.vals 121)
 m:U.heap[M]? = (zC a 79)
 l:w§ < M
theorem AcK.on {w U U':yW}{d:DoM}{M:Nat}{a:Array Value}(h:AcK w d M U a) (k:yD U U'):AcK w d M U' a :=
 ⟨h.b.trans (k.mono h.b.size),(k.block _ (zJ h.n).1).trans h.n,(k.block _ (zJ h.m).1).trans h.m,h.l⟩
theorem AcK.set {w U:yW}{d:DoM}{M:Nat}{a:Array Value}(h:AcK w d M U a) (j:Nat) (v:Value):AcK w d M (U.setCell M¢j v) (a.setIfInBounds j v) :=
 ⟨h.b.setCell (p:=M¢j) (Nat.le_of_lt h.l) v,(Jp _ (by have:=h.l;omega)).trans h.n,Qp v h.m,h.l⟩
theorem AcK.hid {w U:yW}{d:DoM}{M:Nat}{a:Array Value}(h:AcK w d M U a):Hid (AcK w d M U a):=h
theorem Ql (U:yW):yD U U.drew:=⟨rfl,rfl,rfl,Nat.le_refl _,fun _ _=>rfl⟩
theorem FU (k o s p n l:Int):(Tryz.prog.info? 79).map (·.size)=some (acA k o s p n l).size:=by show _=some 6;kernel_rfl
theorem Qfp (k o s p n l:Int):(acA k o s p n l).all (·.oneCell')=true:=by simp [acA,Value.oneCell']
def zac:Array Value:=#[zU 0,zU 0,zU 0,zI 0,zI 0,zI 0]
def subR (S:yB→Option Nat) (s:Sx.Sn) (G:yB→Option Int) (d:DoM):Except Int (Array Value):=match valR s G d.sd with
 | .error c=>.error c
 | .ok z=>match valR s G d.qt with
  | .error c=>.error c
  | .ok n=>if d.o=2 then .ok (acA 1 d.o (IntKind.wrap .u8 z) 0 n (K6 S d.x)) else match valR s G d.pr with
   | .error c=>.error c
   | .ok p=>.ok (acA 1 d.o (IntKind.wrap .u8 z) p n (K6 S d.x))
def amdR (S:yB→Option Nat) (s:Sx.Sn) (G:yB→Option Int) (d:DoM):Except Int (Array Value):=match valR s G d.qt with
 | .error c=>.error c
 | .ok n=>match valR s G d.pr with
  | .error c=>.error c
  | .ok p=>.ok (acA 2 0 0 p n (K6 S d.x))
def OutA (B h0:Nat) (x:Cx) (tb rb mb sb gb:Nat) (q:Tm) (w:yW) (r:Except Int (Array Value)) (e:Ending) (w':yW):Prop:=match r with
 | .error c=>e=fltE c∧yD w w'
 | .ok y=>e=.returned (.tuple #[])∧(∃ av',TnW B h0 x tb rb mb sb gb w' av' { q with ac:=q.ac ++ [y] })∧Below B w w'
theorem heapOf {w w':yW}{b:Nat}{o:Obj}(k:yD w w') (h:w.heap[b]? = some o):w'.heap[b]? = some o:=(k.block b (zJ h).1).trans h
structure SubL (w:yW) (G:yB→Option Int) (d:DoM):Prop where
 sd:Lies w d.sd∧Res G d.sd
 qt:Lies w d.qt∧Res G d.qt
 pr:d.o≠2→Lies w d.pr∧Res G d.pr
structure AmdL (w:yW) (G:yB→Option Int) (d:DoM):Prop where
 qt:Lies w d.qt∧Res G d.qt
 pr:Lies w d.pr∧Res G d.pr
theorem PF {B h0:Nat}{x:Cx}{tb rb mb sb gb:Nat}{w:yW}{av:Value}{q:Tm}(h:TnW B h0 x tb rb mb sb gb w av q) (d:DoM) (hx:d.x.size≤maxLen) (hs:d.x.toList.isEmpty=false→(x.S d.x).isSome=true) (hn:q.ac.length≤1000000000) (hl:SubL w (gOf x.P q.rg) d) :
  Calls zG 128 #[zP tb,.agg d.vals] w (OutA B h0 x tb rb mb sb gb q w (subR x.S x.s (gOf x.P q.rg) d)):=by
 have HB:=Qb w (.cells d.vals 121)
 have HN:=Qc w (.cells d.vals 121)
 have hsz:=Qe w (.cells d.vals 121)
 have H:=h.hid
 obtain⟨V,eV⟩:∃ V,w.alloc (.cells d.vals 121)=V:=jV
 have EV:=zH eV
 rw [eV] at HB HN hsz
 have HN:=zH HN
 have HBW:=zH HB
 have HSZ:=zH hsz
 have HLN:=zH hn
 have HL:=zH hl
 have HL_sd:=zH hl.sd
 have HL_qt:=zH hl.qt
 have cS:=fun v (hv:yD w v)=>UZ (h.on hv) d.x hx hs
 obtain⟨sl,esl⟩:∃ sl,K6 x.S d.x=sl:=jV
 have ESL:Hid (K6 x.S d.x=sl):=esl
 rw [esl] at cS
 have cS:∀ v,yD w v→Calls zG 171 #[zP tb,.string d.x] v fun e w'=>e=.returned (zI sl)∧w'=v:=cS
 have HDA:Hid (yD V (V.drew.alloc (.cells zac 79))):=Qd (Ql V) (Qb _ _)
 have HZ:Hid ((V.drew.alloc (.cells zac 79)).heap[V§]? = (zC zac 79)):=Qc V.drew _
 have KP0:Hid (AcK w d V§ ((V.drew.alloc (.cells zac 79)).setRow V§ (acA 1 d.o 0 0 0 sl)) (acA 1 d.o 0 0 0 sl)) :=
  ⟨Qn (Qd HBW.out HDA.out) (by rw [HSZ.out];omega) _,(QV _ _ _ (by rw [HSZ.out];omega)).trans (heapOf HDA.out HN.out),setRow_heap _ _ _ _ _ _ HZ.out,by rw [HSZ.out];omega⟩
 clear eV HB hsz h hx hs hn hl esl
 go_enter func128,ntmps128
 go_upto_region 1 with fail
 rw [EV.out]
 refine (?_:∀ Q',Hid (Q'=_)→Code.wp _ _ Q' _ _) _ rfl
 intro Q' HQ'
 have HPn:zHP Q':=by rw [HQ'.out];exact fun _ _ _ _ _ h=>h
 refine QA (t:=8) (S:=fun u=>u.heap[w§]? = (zC d.vals 121)) zK HN.out (fun hHeld=>?_)
 refine zTd 0 HPn
 rotate_left
 ·(intro v hv;go_simp;try (with_reducible rfl))
 try simp [Act.put]
 refine zTd 1 HPn
 rotate_left
 ·(intro v hv;have e1:zQ v w§¢1 (zU d.o):=Qa hv 1;clear hv;go_simp;try (with_reducible rfl))
 try simp [Act.put]
 refine zTd 2 HPn
 rotate_left
 ·(intro v hv;go_simp;try (with_reducible rfl))
 try simp [Act.put]
 refine zTd 3 HPn
 rotate_left
 ·(intro v hv;go_simp;try (with_reducible rfl))
 try simp [Act.put]
 refine zTd 4 HPn
 rotate_left
 ·(intro v hv;have e2:zQ v w§¢2 (.string d.x):=Qa hv 2;clear hv;go_simp;try (with_reducible rfl))
 try simp [Act.put]
 refine FI (i:=5) (j:=7) zK rfl rfl (fun K hK=>?_) (fun K hK=>?_)
 go_simp
 refine (cS _ (Qd HBW.out (Ql V))).mono ?_
 rintro e w1 ⟨rfl,ew⟩
 obtain rfl:=ew.symm
 refine hK.out _ _ (fun _=>HN.out) ?_
 clear hK K
 try simp [Act.put]
 refine QJ (i:=6) (v:=?_) rfl zK zK zK zK (fun c a w h=>HPn.out c _ _ a w h) (Or.inl ⟨by rfl,?_⟩) HN.out ?_
 rotate_left
 ·(intro v hv;go_simp;try (with_reducible rfl))
 try simp [Act.put]
 refine Qh (i:=7) zK rfl (fun K hK=>?_)
 go_simp
 refine hK.out _ _ (fun _=>heapOf HDA.out HN.out) ?_
 clear hK K
 try simp [Act.put]
 refine Qh (i:=8) zK rfl (fun K hK=>?_)
 refine Q4 rfl 79 (.tmp 4) (.tmp 11) rfl V§ (acA 1 d.o 0 0 0 sl) rfl rfl 79 zac HZ.out (FU ..) rfl (Qfp ..) ?_
 refine hK.out _ _ (fun h=>absurd rfl h) ?_
 clear hK K
 try simp [Act.put]
 rotate_left
 go_simp
 refine hK.out _ _ (fun _=>heapOf HDA.out HN.out) ?_
 clear hK K
 try simp [Act.put]
 refine Qh (i:=5) zK rfl (fun K hK=>?_)
 go_simp
 refine (cS _ (Qd HBW.out HDA.out)).mono ?_
 rintro e w1 ⟨rfl,ew⟩
 obtain rfl:=ew.symm
 refine hK.out _ _ (fun _=>heapOf HDA.out HN.out) ?_
 clear hK K
 try simp [Act.put]
 refine QJ (i:=6) (v:=?_) rfl zK zK zK zK (fun c a w h=>HPn.out c _ _ a w h) (Or.inl ⟨by rfl,?_⟩) (heapOf HDA.out HN.out) ?_
 rotate_left
 ·(intro v hv;go_simp;try (with_reducible rfl))
 try simp [Act.put]
 refine Qh (i:=8) zK rfl (fun K hK=>?_)
 refine Q4 rfl 79 (.tmp 4) (.tmp 11) rfl V§ (acA 1 d.o 0 0 0 sl) rfl rfl 79 zac HZ.out (FU ..) rfl (Qfp ..) ?_
 refine hK.out _ _ (fun h=>absurd rfl h) ?_
 clear hK K
 try simp [Act.put]
 all_goals
  refine QB zK ?_ _
  rw [HQ'.out]
  clear HQ' HPn Q'
  generalize hWX:World.setRow _ _ _=U
  have hWY:(V.drew.alloc (.cells zac 79)).setRow V§ (acA 1 d.o 0 0 0 sl)=U:=hWX
  rw [hWY] at KP0
  have KP:=KP0
  clear hWX hWY KP0 HZ HDA cS HSZ HBW HN EV
  obtain⟨M,eM⟩:∃ M,V§=M:=jV
  rw [eM] at KP ⊢
  clear eM
  have cV:Calls zG 37 #[zP tb,.agg #[zU d.sd.h.k,zU d.sd.h.o,zU d.sd.h.t,zI d.sd.h.n,zU d.sd.h.f,.string d.sd.h.x,.slice d.sd.a d.sd.ks.length d.sd.c,zI d.sd.h.p]] U.drew (OutV U.drew (valR x.s (gOf x.P q.rg) d.sd)):=Jx (s:=x.s) (G:=(gOf x.P q.rg)) H.out.fi d.sd U.drew (H.out.on (KP.out.on (Ql U)).b).sv (HL_sd.out.1.on (KP.out.on (Ql U)).b) HL_sd.out.2
  obtain⟨rsd,esd⟩:∃ r,valR x.s (gOf x.P q.rg) d.sd=r:=jV
  have Esd:=zH esd
  rw [esd] at cV
  clear esd
  go_upto_region 2 with fail
  refine (?_:∀ Q',Hid (Q'=_)→Code.wp _ _ Q' _ _) _ rfl
  intro Q' HQ'
  have HPn:zHP Q':=by rw [HQ'.out];exact fun _ _ _ _ _ h=>h
  refine QA (t:=8) (S:=fun u=>u.heap[w§]? = (zC d.vals 121)) zK KP.out.n (fun hHeld=>?_)
  refine zTd 0 HPn
  rotate_left
  ·(intro v hv;go_simp;try (with_reducible rfl))
  try simp [Act.put]
  refine zTd 1 HPn
  rotate_left
  ·(intro v hv;go_simp;try (with_reducible rfl))
  try simp [Act.put]
  refine zTd 2 HPn
  rotate_left
  ·(intro v hv;go_simp;try (with_reducible rfl))
  try simp [Act.put]
  refine zTd 3 HPn
  rotate_left
  ·(intro v hv;go_simp;try (with_reducible rfl))
  try simp [Act.put]
  refine zTd 4 HPn
  rotate_left
  ·(intro v hv;have e0:zQ v w§¢3 (zU d.sd.h.k):=Qa hv 3;have e1:zQ v w§¢4 (zU d.sd.h.o):=Qa hv 4;have e2:zQ v w§¢5 (zU d.sd.h.t):=Qa hv 5;have e3:zQ v w§¢6 (zI d.sd.h.n):=Qa hv 6;have e4:zQ v w§¢7 (zU d.sd.h.f):=Qa hv 7;have e5:zQ v w§¢8 (.string d.sd.h.x):=Qa hv 8;have e6:zQ v w§¢9 (.slice d.sd.a d.sd.ks.length d.sd.c):=Qa hv 9;have e7:zQ v w§¢10 (zI d.sd.h.p):=Qa hv 10;clear hv;go_simp;try (with_reducible rfl))
  try simp [Act.put]
  rcases rsd with c | zsd
  ·refine Qh (i:=5) zK rfl (fun K hK=>?_)
   go_simp
   refine cV.mono ?_
   rintro e w1 ⟨rfl,hb⟩
   rw [HQ'.out]
   refine⟨rfl,?_⟩
   rw [show subR x.S x.s (gOf x.P q.rg) d=.error c by unfold subR;rw [Esd.out]]
   exact⟨rfl,((KP.out.on (Ql U)).on hb).b⟩
  refine Qh (i:=5) zK rfl (fun K hK=>?_)
  go_simp
  refine cV.mono ?_
  rintro e w1 ⟨rfl,hb⟩
  have KP1:=((KP.out.on (Ql U)).on hb).hid
  clear hb cV
  unfold endV
  go_simp
  refine hK.out _ _ (fun _=>KP1.out.n) ?_
  clear hK K
  try simp [Act.put]
  refine QJ (i:=6) (v:=?_) rfl zK zK zK zK (fun c a w h=>HPn.out c _ _ a w h) (Or.inl ⟨by rfl,?_⟩) KP1.out.n ?_
  rotate_left
  ·(intro v hv;go_simp;try (with_reducible rfl))
  try simp [Act.put]
  refine QJ (i:=7) (v:=?_) rfl zK zK zK zK (fun c a w h=>HPn.out c _ _ a w h) (Or.inl ⟨by rfl,?_⟩) KP1.out.n ?_
  rotate_left
  ·(intro v hv;go_simp;try (with_reducible rfl))
  try simp [Act.put]
  have ca:zQ w1 M¢2 (zU 0):=Qa KP1.out.m 2
  have fa:=Qf KP1.out.m 2
  refine Qh (i:=8) zK rfl (fun K hK=>?_)
  go_simp
  refine hK.out _ _ (fun h=>absurd rfl h) ?_
  clear hK K
  try simp [Act.put]
  refine QB zK ?_ _
  rw [HQ'.out]
  clear HQ' HPn Q'
  have KP2:Hid (AcK w d M (w1.setCell M¢2 (zU (IntKind.wrap .u8 zsd))) (acA 1 d.o (IntKind.wrap .u8 zsd) 0 0 sl)):=KP1.out.set 2 _
  clear ca fa KP1 KP
  obtain⟨U,eU⟩:∃ U,w1.setCell M¢2 (zU (IntKind.wrap .u8 zsd))=U:=jV
  rw [eU] at KP2 ⊢
  clear eU
  have KP:=KP2
  clear KP2
  have cV:Calls zG 37 #[zP tb,.agg #[zU d.qt.h.k,zU d.qt.h.o,zU d.qt.h.t,zI d.qt.h.n,zU d.qt.h.f,.string d.qt.h.x,.slice d.qt.a d.qt.ks.length d.qt.c,zI d.qt.h.p]] U.drew (OutV U.drew (valR x.s (gOf x.P q.rg) d.qt)):=Jx (s:=x.s) (G:=(gOf x.P q.rg)) H.out.fi d.qt U.drew (H.out.on (KP.out.on (Ql U)).b).sv (HL_qt.out.1.on (KP.out.on (Ql U)).b) HL_qt.out.2
  obtain⟨rqt,eqt⟩:∃ r,valR x.s (gOf x.P q.rg) d.qt=r:=jV
  have Eqt:=zH eqt
  rw [eqt] at cV
  clear eqt
  go_upto_region 3 with fail
  refine (?_:∀ Q',Hid (Q'=_)→Code.wp _ _ Q' _ _) _ rfl
  intro Q' HQ'
  have HPn:zHP Q':=by rw [HQ'.out];exact fun _ _ _ _ _ h=>h
  refine QA (t:=7) (S:=fun u=>u.heap[w§]? = (zC d.vals 121)) zK KP.out.n (fun hHeld=>?_)
  refine zTd 0 HPn
  rotate_left
  ·(intro v hv;go_simp;try (with_reducible rfl))
  try simp [Act.put]
  refine zTd 1 HPn
  rotate_left
  ·(intro v hv;go_simp;try (with_reducible rfl))
  try simp [Act.put]
  refine zTd 2 HPn
  rotate_left
  ·(intro v hv;go_simp;try (with_reducible rfl))
  try simp [Act.put]
  refine zTd 3 HPn
  rotate_left
  ·(intro v hv;go_simp;try (with_reducible rfl))
  try simp [Act.put]
  refine zTd 4 HPn
  rotate_left
  ·(intro v hv;have e0:zQ v w§¢11 (zU d.qt.h.k):=Qa hv 11;have e1:zQ v w§¢12 (zU d.qt.h.o):=Qa hv 12;have e2:zQ v w§¢13 (zU d.qt.h.t):=Qa hv 13;have e3:zQ v w§¢14 (zI d.qt.h.n):=Qa hv 14;have e4:zQ v w§¢15 (zU d.qt.h.f):=Qa hv 15;have e5:zQ v w§¢16 (.string d.qt.h.x):=Qa hv 16;have e6:zQ v w§¢17 (.slice d.qt.a d.qt.ks.length d.qt.c):=Qa hv 17;have e7:zQ v w§¢18 (zI d.qt.h.p):=Qa hv 18;clear hv;go_simp;try (with_reducible rfl))
  try simp [Act.put]
  rcases rqt with c | zqt
  ·refine Qh (i:=5) zK rfl (fun K hK=>?_)
   go_simp
   refine cV.mono ?_
   rintro e w1 ⟨rfl,hb⟩
   rw [HQ'.out]
   refine⟨rfl,?_⟩
   rw [show subR x.S x.s (gOf x.P q.rg) d=.error c by unfold subR;rw [Esd.out];dsimp only;rw [Eqt.out]]
   exact⟨rfl,((KP.out.on (Ql U)).on hb).b⟩
  refine Qh (i:=5) zK rfl (fun K hK=>?_)
  go_simp
  refine cV.mono ?_
  rintro e w1 ⟨rfl,hb⟩
  have KP1:=((KP.out.on (Ql U)).on hb).hid
  clear hb cV
  unfold endV
  go_simp
  refine hK.out _ _ (fun _=>KP1.out.n) ?_
  clear hK K
  try simp [Act.put]
  refine QJ (i:=6) (v:=?_) rfl zK zK zK zK (fun c a w h=>HPn.out c _ _ a w h) (Or.inl ⟨by rfl,?_⟩) KP1.out.n ?_
  rotate_left
  ·(intro v hv;go_simp;try (with_reducible rfl))
  try simp [Act.put]
  have ca:zQ w1 M¢4 (zI 0):=Qa KP1.out.m 4
  have fa:=Qf KP1.out.m 4
  refine Qh (i:=7) zK rfl (fun K hK=>?_)
  go_simp
  refine hK.out _ _ (fun h=>absurd rfl h) ?_
  clear hK K
  try simp [Act.put]
  refine QB zK ?_ _
  rw [HQ'.out]
  clear HQ' HPn Q'
  have KP2:Hid (AcK w d M (w1.setCell M¢4 (zI zqt)) (acA 1 d.o (IntKind.wrap .u8 zsd) 0 zqt sl)):=KP1.out.set 4 _
  clear ca fa KP1 KP
  obtain⟨U,eU⟩:∃ U,w1.setCell M¢4 (zI zqt)=U:=jV
  rw [eU] at KP2 ⊢
  clear eU
  have KP:=KP2
  clear KP2
  have e1:zQ U w§¢1 (zU d.o):=Qa KP.out.n 1
  by_cases ho:d.o=2
  ·have ho':(d.o != 2)=false:=by simpa using ho
   have KP:Hid (AcK w d M U (acA 1 2 (IntKind.wrap .u8 zsd) 0 zqt sl)):=by have h1:=KP.out;rw [ho] at h1;exact h1
   have HE:Hid (subR x.S x.s (gOf x.P q.rg) d=.ok (acA 1 2 (IntKind.wrap .u8 zsd) 0 zqt sl)):=by show _=_;unfold subR;rw [Esd.out];dsimp only;rw [Eqt.out];dsimp only;rw [if_pos ho,ESL.out,ho]
   have HU:=zH (H.out.on (KP.out.on (Ql U)).b)
   have HRA:=zH HU.out.ra
   have HOB:Hid (av.ownBlock≠some M):=fun e=>by have:=H.out.row.lt _ e;have:=KP.out.l;omega
   have HS:Hid (U.heap[tb]? = (zC (tnA x.s rb q.rg.length mb sb gb av q) 117)∧U.heap[M]? = (zC (acA 1 2 (IntKind.wrap .u8 zsd) 0 zqt sl) 79)):=⟨HU.out.t,KP.out.m⟩
   go_upto_region 6 with fail
   refine (?_:∀ Q',Hid (Q'=_)→Code.wp _ _ Q' _ _) _ rfl
   intro Q' HQ'
   have HPn:zHP Q':=by rw [HQ'.out];exact fun _ _ _ _ _ h=>h
   refine QA (t:=10) (S:=fun u=>u.heap[tb]? = (zC (tnA x.s rb q.rg.length mb sb gb av q) 117)∧u.heap[M]? = (zC (acA 1 2 (IntKind.wrap .u8 zsd) 0 zqt sl) 79)) zK HS.out (fun hHeld=>?_)
   obtain⟨D,eD⟩:∃ D,U.drew=D:=jV
   have HS:Hid (D.heap[tb]? = (zC (tnA x.s rb q.rg.length mb sb gb av q) 117)∧D.heap[M]? = (zC (acA 1 2 (IntKind.wrap .u8 zsd) 0 zqt sl) 79)):=by rw [← eD];exact HS.out
   have HKD:Hid (yD w D):=by rw [← eD];exact (KP.out.on (Ql U)).b
   rw [eD] at HU HRA hHeld ⊢
   clear eD
   refine zTd 0 HPn
   rotate_left
   ·(intro v hv;go_simp;try (with_reducible rfl))
   try simp [Act.put]
   refine zTd 1 HPn
   rotate_left
   ·(intro v hv;go_simp;try (with_reducible rfl))
   try simp [Act.put]
   refine zTd 2 HPn
   rotate_left
   ·(intro v hv;go_simp;try (with_reducible rfl))
   try simp [Act.put]
   refine zTd 3 HPn
   rotate_left
   ·(intro v hv;go_simp;try (with_reducible rfl))
   try simp [Act.put]
   refine zTd 4 HPn
   rotate_left
   ·(intro v hv;have c11:v.cell? tb¢11=some av:=Qa hv.1 11;clear hv;go_simp;try (with_reducible rfl))
   try simp [Act.put]
   refine zTd 5 HPn
   rotate_left
   ·(intro v hv;have e0:zQ v M¢0 (zU 1):=Qa hv.2 0;have e1:zQ v M¢1 (zU 2):=Qa hv.2 1;have e2:zQ v M¢2 (zU (IntKind.wrap .u8 zsd)):=Qa hv.2 2;have e3:zQ v M¢3 (zI 0):=Qa hv.2 3;have e4:zQ v M¢4 (zI zqt):=Qa hv.2 4;have e5:zQ v M¢5 (zI sl):=Qa hv.2 5;clear hv;go_simp;try (with_reducible rfl))
   try simp [Act.put]
   refine Qh (i:=6) zK rfl (fun K hK=>?_)
   go_simp
   refine hK.out _ _ (fun _=>⟨heapOf (Qb D _) HS.out.1,heapOf (Qb D _) HS.out.2⟩) ?_
   clear hK K
   try simp [Act.put]
   refine Qh (i:=7) zK rfl (fun K hK=>?_)
   refine X0 rfl (.tmp 41) (.tmp 43) 56 79 6 32 _ rfl underlying56 Qbu rfl (by decide) (by decide) (by decide) (acA 1 2 (IntKind.wrap .u8 zsd) 0 zqt sl) rfl (Pu _ _ _ _ _ _) HRA.out rfl rfl HLN.out ?_
   intro v1 w2 hr2 hs2 hq2 hz2
   obtain⟨ao3,n3,c3,rfl⟩:=hr2.sl3
   have HF:=HU.out.app hr2 hs2 hq2
   have HF2:Hid (TnW B h0 x tb rb mb sb gb (w2.setCell tb¢11 (.slice ao3 n3 c3)) (.slice ao3 n3 c3) { q with ac:=q.ac ++ [acA 1 2 (IntKind.wrap .u8 zsd) 0 zqt sl] }∧Below B w (w2.setCell tb¢11 (.slice ao3 n3 c3))):=⟨HF.1,(HKD.out.mono H.out.bs).trans HF.2⟩
   have ht2:w2.heap[tb]? = (zC (tnA x.s rb q.rg.length mb sb gb av q) 117):=(hq2 tb (zJ HU.out.t).1 (fun e=>by have:=HU.out.nb tb e;have:=H.out.th;omega)).trans HU.out.t
   have hn2:w2.heap[M]? = (zC (acA 1 2 (IntKind.wrap .u8 zsd) 0 zqt sl) 79):=(hq2 _ (zJ HS.out.2).1 HOB.out).trans HS.out.2
   have HS2:Hid (w2.heap[tb]? = (zC (tnA x.s rb q.rg.length mb sb gb av q) 117)∧w2.heap[M]? = (zC (acA 1 2 (IntKind.wrap .u8 zsd) 0 zqt sl) 79)):=⟨ht2,hn2⟩
   clear hr2 hs2 hq2 hz2 HF ht2 hn2
   refine hK.out _ _ (fun _=>HS2.out) ?_
   clear hK K
   try simp [Act.put]
   refine Qh (i:=8) zK rfl (fun K hK=>?_)
   go_simp
   refine hK.out _ _ (fun _=>HS2.out) ?_
   clear hK K
   try simp [Act.put]
   refine QJ (i:=9) (v:=?_) rfl zK zK zK zK (fun c a w h=>HPn.out c _ _ a w h) (Or.inl ⟨by rfl,?_⟩) HS2.out ?_
   rotate_left
   ·(intro v hv;go_simp;try (with_reducible rfl))
   try simp [Act.put]
   have c11:w2.cell? tb¢11=some av:=Qa HS2.out.1 11
   have f11:=Qf HS2.out.1 11
   refine Qh (i:=10) zK rfl (fun K hK=>?_)
   go_simp
   refine hK.out _ _ (fun h=>absurd rfl h) ?_
   clear hK K
   try simp [Act.put]
   refine QB zK ?_ _
   rw [HQ'.out]
   clear HQ' HPn Q'
   go_wp2_with fail
   go_end0
   unfold OutA
   rw [HE.out]
   exact⟨rfl,⟨_,HF2.out.1⟩,HF2.out.2⟩
  ·have ho':(d.o != 2)=true:=by simpa using ho
   have HL_pr:=zH (HL.out.pr ho)
   have HO:Hid (¬ d.o=2):=ho
   have cV:Calls zG 37 #[zP tb,.agg #[zU d.pr.h.k,zU d.pr.h.o,zU d.pr.h.t,zI d.pr.h.n,zU d.pr.h.f,.string d.pr.h.x,.slice d.pr.a d.pr.ks.length d.pr.c,zI d.pr.h.p]] U.drew (OutV U.drew (valR x.s (gOf x.P q.rg) d.pr)):=Jx (s:=x.s) (G:=(gOf x.P q.rg)) H.out.fi d.pr U.drew (H.out.on (KP.out.on (Ql U)).b).sv (HL_pr.out.1.on (KP.out.on (Ql U)).b) HL_pr.out.2
   obtain⟨rpr,epr⟩:∃ r,valR x.s (gOf x.P q.rg) d.pr=r:=jV
   have Epr:=zH epr
   rw [epr] at cV
   clear epr
   go_upto_region 5 with fail
   refine (?_:∀ Q',Hid (Q'=_)→Code.wp _ _ Q' _ _) _ rfl
   intro Q' HQ'
   have HPn:zHP Q':=by rw [HQ'.out];exact fun _ _ _ _ _ h=>h
   refine QA (t:=7) (S:=fun u=>u.heap[w§]? = (zC d.vals 121)) zK KP.out.n (fun hHeld=>?_)
   refine zTd 0 HPn
   rotate_left
   ·(intro v hv;go_simp;try (with_reducible rfl))
   try simp [Act.put]
   refine zTd 1 HPn
   rotate_left
   ·(intro v hv;go_simp;try (with_reducible rfl))
   try simp [Act.put]
   refine zTd 2 HPn
   rotate_left
   ·(intro v hv;go_simp;try (with_reducible rfl))
   try simp [Act.put]
   refine zTd 3 HPn
   rotate_left
   ·(intro v hv;go_simp;try (with_reducible rfl))
   try simp [Act.put]
   refine zTd 4 HPn
   rotate_left
   ·(intro v hv;have e0:zQ v w§¢19 (zU d.pr.h.k):=Qa hv 19;have e1:zQ v w§¢20 (zU d.pr.h.o):=Qa hv 20;have e2:zQ v w§¢21 (zU d.pr.h.t):=Qa hv 21;have e3:zQ v w§¢22 (zI d.pr.h.n):=Qa hv 22;have e4:zQ v w§¢23 (zU d.pr.h.f):=Qa hv 23;have e5:zQ v w§¢24 (.string d.pr.h.x):=Qa hv 24;have e6:zQ v w§¢25 (.slice d.pr.a d.pr.ks.length d.pr.c):=Qa hv 25;have e7:zQ v w§¢26 (zI d.pr.h.p):=Qa hv 26;clear hv;go_simp;try (with_reducible rfl))
   try simp [Act.put]
   rcases rpr with c | zpr
   ·refine Qh (i:=5) zK rfl (fun K hK=>?_)
    go_simp
    refine cV.mono ?_
    rintro e w1 ⟨rfl,hb⟩
    rw [HQ'.out]
    refine⟨rfl,?_⟩
    rw [show subR x.S x.s (gOf x.P q.rg) d=.error c by unfold subR;rw [Esd.out];dsimp only;rw [Eqt.out];dsimp only;rw [if_neg HO.out,Epr.out]]
    exact⟨rfl,((KP.out.on (Ql U)).on hb).b⟩
   refine Qh (i:=5) zK rfl (fun K hK=>?_)
   go_simp
   refine cV.mono ?_
   rintro e w1 ⟨rfl,hb⟩
   have KP1:=((KP.out.on (Ql U)).on hb).hid
   clear hb cV
   unfold endV
   go_simp
   refine hK.out _ _ (fun _=>KP1.out.n) ?_
   clear hK K
   try simp [Act.put]
   refine QJ (i:=6) (v:=?_) rfl zK zK zK zK (fun c a w h=>HPn.out c _ _ a w h) (Or.inl ⟨by rfl,?_⟩) KP1.out.n ?_
   rotate_left
   ·(intro v hv;go_simp;try (with_reducible rfl))
   try simp [Act.put]
   have ca:zQ w1 M¢3 (zI 0):=Qa KP1.out.m 3
   have fa:=Qf KP1.out.m 3
   refine Qh (i:=7) zK rfl (fun K hK=>?_)
   go_simp
   refine hK.out _ _ (fun h=>absurd rfl h) ?_
   clear hK K
   try simp [Act.put]
   refine QB zK ?_ _
   rw [HQ'.out]
   clear HQ' HPn Q'
   have KP2:Hid (AcK w d M (w1.setCell M¢3 (zI zpr)) (acA 1 d.o (IntKind.wrap .u8 zsd) zpr zqt sl)):=KP1.out.set 3 _
   clear ca fa KP1 KP
   obtain⟨U,eU⟩:∃ U,w1.setCell M¢3 (zI zpr)=U:=jV
   rw [eU] at KP2 ⊢
   clear eU
   have KP:=KP2
   clear KP2
   have HE:Hid (subR x.S x.s (gOf x.P q.rg) d=.ok (acA 1 d.o (IntKind.wrap .u8 zsd) zpr zqt sl)):=by show _=_;unfold subR;rw [Esd.out];dsimp only;rw [Eqt.out];dsimp only;rw [if_neg HO.out,Epr.out];dsimp only;rw [ESL.out]
   have HU:=zH (H.out.on (KP.out.on (Ql U)).b)
   have HRA:=zH HU.out.ra
   have HOB:Hid (av.ownBlock≠some M):=fun e=>by have:=H.out.row.lt _ e;have:=KP.out.l;omega
   have HS:Hid (U.heap[tb]? = (zC (tnA x.s rb q.rg.length mb sb gb av q) 117)∧U.heap[M]? = (zC (acA 1 d.o (IntKind.wrap .u8 zsd) zpr zqt sl) 79)):=⟨HU.out.t,KP.out.m⟩
   go_upto_region 6 with fail
   refine (?_:∀ Q',Hid (Q'=_)→Code.wp _ _ Q' _ _) _ rfl
   intro Q' HQ'
   have HPn:zHP Q':=by rw [HQ'.out];exact fun _ _ _ _ _ h=>h
   refine QA (t:=10) (S:=fun u=>u.heap[tb]? = (zC (tnA x.s rb q.rg.length mb sb gb av q) 117)∧u.heap[M]? = (zC (acA 1 d.o (IntKind.wrap .u8 zsd) zpr zqt sl) 79)) zK HS.out (fun hHeld=>?_)
   obtain⟨D,eD⟩:∃ D,U.drew=D:=jV
   have HS:Hid (D.heap[tb]? = (zC (tnA x.s rb q.rg.length mb sb gb av q) 117)∧D.heap[M]? = (zC (acA 1 d.o (IntKind.wrap .u8 zsd) zpr zqt sl) 79)):=by rw [← eD];exact HS.out
   have HKD:Hid (yD w D):=by rw [← eD];exact (KP.out.on (Ql U)).b
   rw [eD] at HU HRA hHeld ⊢
   clear eD
   refine zTd 0 HPn
   rotate_left
   ·(intro v hv;go_simp;try (with_reducible rfl))
   try simp [Act.put]
   refine zTd 1 HPn
   rotate_left
   ·(intro v hv;go_simp;try (with_reducible rfl))
   try simp [Act.put]
   refine zTd 2 HPn
   rotate_left
   ·(intro v hv;go_simp;try (with_reducible rfl))
   try simp [Act.put]
   refine zTd 3 HPn
   rotate_left
   ·(intro v hv;go_simp;try (with_reducible rfl))
   try simp [Act.put]
   refine zTd 4 HPn
   rotate_left
   ·(intro v hv;have c11:v.cell? tb¢11=some av:=Qa hv.1 11;clear hv;go_simp;try (with_reducible rfl))
   try simp [Act.put]
   refine zTd 5 HPn
   rotate_left
   ·(intro v hv;have e0:zQ v M¢0 (zU 1):=Qa hv.2 0;have e1:zQ v M¢1 (zU d.o):=Qa hv.2 1;have e2:zQ v M¢2 (zU (IntKind.wrap .u8 zsd)):=Qa hv.2 2;have e3:zQ v M¢3 (zI zpr):=Qa hv.2 3;have e4:zQ v M¢4 (zI zqt):=Qa hv.2 4;have e5:zQ v M¢5 (zI sl):=Qa hv.2 5;clear hv;go_simp;try (with_reducible rfl))
   try simp [Act.put]
   refine Qh (i:=6) zK rfl (fun K hK=>?_)
   go_simp
   refine hK.out _ _ (fun _=>⟨heapOf (Qb D _) HS.out.1,heapOf (Qb D _) HS.out.2⟩) ?_
   clear hK K
   try simp [Act.put]
   refine Qh (i:=7) zK rfl (fun K hK=>?_)
   refine X0 rfl (.tmp 41) (.tmp 43) 56 79 6 32 _ rfl underlying56 Qbu rfl (by decide) (by decide) (by decide) (acA 1 d.o (IntKind.wrap .u8 zsd) zpr zqt sl) rfl (Pu _ _ _ _ _ _) HRA.out rfl rfl HLN.out ?_
   intro v1 w2 hr2 hs2 hq2 hz2
   obtain⟨ao3,n3,c3,rfl⟩:=hr2.sl3
   have HF:=HU.out.app hr2 hs2 hq2
   have HF2:Hid (TnW B h0 x tb rb mb sb gb (w2.setCell tb¢11 (.slice ao3 n3 c3)) (.slice ao3 n3 c3) { q with ac:=q.ac ++ [acA 1 d.o (IntKind.wrap .u8 zsd) zpr zqt sl] }∧Below B w (w2.setCell tb¢11 (.slice ao3 n3 c3))):=⟨HF.1,(HKD.out.mono H.out.bs).trans HF.2⟩
   have ht2:w2.heap[tb]? = (zC (tnA x.s rb q.rg.length mb sb gb av q) 117):=(hq2 tb (zJ HU.out.t).1 (fun e=>by have:=HU.out.nb tb e;have:=H.out.th;omega)).trans HU.out.t
   have hn2:w2.heap[M]? = (zC (acA 1 d.o (IntKind.wrap .u8 zsd) zpr zqt sl) 79):=(hq2 _ (zJ HS.out.2).1 HOB.out).trans HS.out.2
   have HS2:Hid (w2.heap[tb]? = (zC (tnA x.s rb q.rg.length mb sb gb av q) 117)∧w2.heap[M]? = (zC (acA 1 d.o (IntKind.wrap .u8 zsd) zpr zqt sl) 79)):=⟨ht2,hn2⟩
   clear hr2 hs2 hq2 hz2 HF ht2 hn2
   refine hK.out _ _ (fun _=>HS2.out) ?_
   clear hK K
   try simp [Act.put]
   refine Qh (i:=8) zK rfl (fun K hK=>?_)
   go_simp
   refine hK.out _ _ (fun _=>HS2.out) ?_
   clear hK K
   try simp [Act.put]
   refine QJ (i:=9) (v:=?_) rfl zK zK zK zK (fun c a w h=>HPn.out c _ _ a w h) (Or.inl ⟨by rfl,?_⟩) HS2.out ?_
   rotate_left
   ·(intro v hv;go_simp;try (with_reducible rfl))
   try simp [Act.put]
   have c11:w2.cell? tb¢11=some av:=Qa HS2.out.1 11
   have f11:=Qf HS2.out.1 11
   refine Qh (i:=10) zK rfl (fun K hK=>?_)
   go_simp
   refine hK.out _ _ (fun h=>absurd rfl h) ?_
   clear hK K
   try simp [Act.put]
   refine QB zK ?_ _
   rw [HQ'.out]
   clear HQ' HPn Q'
   go_wp2_with fail
   go_end0
   unfold OutA
   rw [HE.out]
   exact⟨rfl,⟨_,HF2.out.1⟩,HF2.out.2⟩
end Go.Proofs.YtfbjofnaghjmeaaGreatDoor
