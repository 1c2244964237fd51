import Derived.Test.YtfbjofnaghjmeaaGreatDoorA0
import Derived.Test.YtfbjofnaghjmeaaGreatDoorA30
namespace Go.Proofs.YtfbjofnaghjmeaaGreatDoor
set_option maxHeartbeats 4000000
set_option maxRecDepth 100000
open Go Go.RowKit
set_option linter.unusedVariables false
section
variable {P : Program} {ops : Array Oper} {Q : Exit → Act → yW → Prop} {md : Region.Mode} {S : yW → Prop} {t : Nat}
theorem wpAnyT_two {i j:Nat}{o o':Oper}{fuel:Nat}{listed:Array Bool}{a:Act}{w:yW}(hr:Region.ready md ops listed = [i,j]) (ho:ops[i]? = some o) (ho':ops[j]? = some o')
  (h:∀ K':Act→yW→Prop,Shut (∀ a w,(i≠t→S w)→wpAnyT P md ops Q S t fuel (listed.setIfInBounds i true) a w→K' a w)→if Region.wanted o (yielded ops a.tmps)=true then Oper.wp P o a w K' Q else K' (a.put o.dst undef) w)
  (h':∀ K':Act→yW→Prop,Shut (∀ a w,(j≠t→S w)→wpAnyT P md ops Q S t fuel (listed.setIfInBounds j true) a w→K' a w)→if Region.wanted o' (yielded ops a.tmps)=true then Oper.wp P o' a w K' Q else K' (a.put o'.dst undef) w) :
  wpAnyT P md ops Q S t (fuel+1) listed a w :=
 ⟨fun h0=>absurd (hr ▸ h0) (by simp),fun k hk=>by
  rw [hr] at hk
  rcases List.mem_cons.1 hk with rfl | hk
  ·exact wpOp_step ho (fun K' hK=>h K' (fun a w hS hW=>hK a w ⟨hS,hW⟩))
  ·obtain rfl:=List.mem_singleton.1 hk
   exact wpOp_step ho' (fun K' hK=>h' K' (fun a w hS hW=>hK a w ⟨hS,hW⟩))⟩
end
theorem step_store_row {P:Program}{ops:Array Oper}{o:Oper}{a:Act}{w:yW}{K:Act→yW→Prop}{Q:Exit→Act→yW→Prop}{E:Prop}(hgd:o.guard=none) (ty:TypeId) (x y:Operand) (ho:o.op=.store ty x y)
  (g:Nat) (cells:Array Value) (hx:a.eval x=zP g) (hy:a.eval y=.agg cells) (t:TypeId) (old:Array Value) (hg:w.heap[g]? = (zC old t)) (hi:(P.info? ty).map (·.size)=some cells.size)
  (hold:old.size=cells.size) (h1:cells.all (·.oneCell')=true)
  (h:K (a.put o.dst undef) (w.setRow g cells)):if Region.wanted o (yielded ops a.tmps)=true then Oper.wp P o a w K Q else E:=by
 have hw:Region.wanted o (yielded ops a.tmps)=true:=by unfold Region.wanted; rw [hgd]
 rw [if_pos hw]
 exact wp_store_row ty x y ho g cells hx hy t old hg hi hold h1 h
structure AcK (w:yW) (d:DoM) (M:Nat) (U:yW) (a:Array Value):Prop where
 b:yD w U
 n:U.heap[w§]? = (zC d.vals 121)
 m:U.heap[M]? = (zC a 79)
 l:w§ < M
theorem AcK.on {w U U':yW}{d:DoM}{M:Nat}{a:Array Value}(h:AcK w d M U a) (k:yD U U'):AcK w d M U' a :=
 ⟨h.b.trans (k.mono h.b.size),(k.block _ (zJ h.n).1).trans h.n,(k.block _ (zJ h.m).1).trans h.m,h.l⟩
theorem AcK.set {w U:yW}{d:DoM}{M:Nat}{a:Array Value}(h:AcK w d M U a) (j:Nat) (v:Value):AcK w d M (U.setCell M¢j v) (a.setIfInBounds j v) :=
 ⟨h.b.setCell (p:=M¢j) (Nat.le_of_lt h.l) v,(set_oth _ (by have:=h.l; omega)).trans h.n,heap_set v h.m,h.l⟩
theorem AcK.hid {w U:yW}{d:DoM}{M:Nat}{a:Array Value}(h:AcK w d M U a):Hid (AcK w d M U a):=h
theorem drew_below (U:yW):yD U U.drew:=⟨rfl,rfl,rfl,Nat.le_refl _,fun _ _=>rfl⟩
theorem size79 (k o s p n l:Int):(Tryz.prog.info? 79).map (·.size)=some (acA k o s p n l).size:=by show _=some 6; kernel_rfl
theorem all79 (k o s p n l:Int):(acA k o s p n l).all (·.oneCell')=true:=by simp [acA,Value.oneCell']
def zac:Array Value:=#[zU 0,zU 0,zU 0,zI 0,zI 0,zI 0]
def subR (S:yB→Option Nat) (s:Sx.Sn) (G:yB→Option Int) (d:DoM):Except Int (Array Value):=match valR s G d.sd with
 | .error c=>.error c
 | .ok z=>match valR s G d.qt with
  | .error c=>.error c
  | .ok n=>if d.o=2 then .ok (acA 1 d.o (IntKind.wrap .u8 z) 0 n (slotN S d.x)) else match valR s G d.pr with
   | .error c=>.error c
   | .ok p=>.ok (acA 1 d.o (IntKind.wrap .u8 z) p n (slotN S d.x))
def amdR (S:yB→Option Nat) (s:Sx.Sn) (G:yB→Option Int) (d:DoM):Except Int (Array Value):=match valR s G d.qt with
 | .error c=>.error c
 | .ok n=>match valR s G d.pr with
  | .error c=>.error c
  | .ok p=>.ok (acA 2 0 0 p n (slotN S d.x))
def OutA (B h0:Nat) (x:Cx) (tb rb mb sb gb:Nat) (q:Tm) (w:yW) (r:Except Int (Array Value)) (e:Ending) (w':yW):Prop:=match r with
 | .error c=>e=fltE c∧yD w w'
 | .ok y=>e=.returned (.tuple #[])∧(∃ av',TnW B h0 x tb rb mb sb gb w' av' { q with ac:=q.ac ++ [y] })∧Below B w w'
theorem heapOf {w w':yW}{b:Nat}{o:Obj}(k:yD w w') (h:w.heap[b]? = some o):w'.heap[b]? = some o:=(k.block b (zJ h).1).trans h
structure SubL (w:yW) (G:yB→Option Int) (d:DoM):Prop where
 sd:Lies w d.sd∧Res G d.sd
 qt:Lies w d.qt∧Res G d.qt
 pr:d.o≠2→Lies w d.pr∧Res G d.pr
structure AmdL (w:yW) (G:yB→Option Int) (d:DoM):Prop where
 qt:Lies w d.qt∧Res G d.qt
 pr:Lies w d.pr∧Res G d.pr
theorem submit_deed {B h0:Nat}{x:Cx}{tb rb mb sb gb:Nat}{w:yW}{av:Value}{q:Tm}(h:TnW B h0 x tb rb mb sb gb w av q) (d:DoM) (hx:d.x.size≤maxLen) (hs:d.x.toList.isEmpty=false→(x.S d.x).isSome=true) (hn:q.ac.length≤1000000000) (hl:SubL w (gOf x.P q.rg) d) :
  Calls zG 128 #[zP tb,.agg d.vals] w (OutA B h0 x tb rb mb sb gb q w (subR x.S x.s (gOf x.P q.rg) d)):=by
 have HB:=below_new w (.cells d.vals 121)
 have HN:=heap_new w (.cells d.vals 121)
 have hsz:=size_alloc w (.cells d.vals 121)
 have H:=h.hid
 obtain⟨V,eV⟩:∃ V,w.alloc (.cells d.vals 121)=V:=⟨_,rfl⟩
 have EV:Hid (w.alloc (.cells d.vals 121)=V):=eV
 rw [eV] at HB HN hsz
 have HN:Hid (V.heap[w§]? = (zC d.vals 121)):=HN
 have HBW:Hid (yD w V):=HB
 have HSZ:Hid (V§=w§+1):=hsz
 have HLN:Hid (q.ac.length≤1000000000):=hn
 have HL:Hid (SubL w (gOf x.P q.rg) d):=hl
 have HL_sd:Hid (Lies w d.sd∧Res (gOf x.P q.rg) d.sd):=hl.sd
 have HL_qt:Hid (Lies w d.qt∧Res (gOf x.P q.rg) d.qt):=hl.qt
 have cS:=fun v (hv:yD w v)=>slot_any (h.on hv) d.x hx hs
 obtain⟨sl,esl⟩:∃ sl,slotN x.S d.x=sl:=⟨_,rfl⟩
 have ESL:Hid (slotN x.S d.x=sl):=esl
 rw [esl] at cS
 have cS:∀ v,yD w v→Calls zG 171 #[zP tb,.string d.x] v fun e w'=>e=.returned (zI sl)∧w'=v:=cS
 have HDA:Hid (yD V (V.drew.alloc (.cells zac 79))):=below2 (drew_below V) (below_new _ _)
 have HZ:Hid ((V.drew.alloc (.cells zac 79)).heap[V§]? = (zC zac 79)):=heap_new V.drew _
 have KP0:Hid (AcK w d V§ ((V.drew.alloc (.cells zac 79)).setRow V§ (acA 1 d.o 0 0 0 sl)) (acA 1 d.o 0 0 0 sl)) :=
  ⟨below_row (below2 HBW.out HDA.out) (by rw [HSZ.out]; omega) _,(setRow_oth _ _ _ (by rw [HSZ.out]; omega)).trans (heapOf HDA.out HN.out),setRow_heap _ _ _ _ _ _ HZ.out,by rw [HSZ.out]; omega⟩
 clear eV HB hsz h hx hs hn hl esl
 go_enter Tryz.func128,Tryz.ntmps128
 go_upto_region 1 with fail
 rw [EV.out]
 refine (?_:∀ Q',Hid (Q'=_)→Code.wp _ _ Q' _ _) _ rfl
 intro Q' HQ'
 have HPn:Hid (∀ p (d:Nat) v a w,Q' (.panic p) (Act.put a (some d) v) w→Q' (.panic p) a w):=by rw [HQ'.out]; exact fun _ _ _ _ _ h=>h
 refine wp_region_T (t:=8) (S:=fun u=>u.heap[w§]? = (zC d.vals 121)) zK HN.out (fun hHeld=>?_)
 refine wpAnyT_take (i:=0) (v:=?_) rfl zK zK zK zK (fun c a w h=>HPn.out c _ _ a w h) (Or.inl ⟨by rfl,?_⟩) (by assumption) ?_
 rotate_left
 ·(intro v hv; go_simp; try (with_reducible rfl))
 try simp [Act.put]
 refine wpAnyT_take (i:=1) (v:=?_) rfl zK zK zK zK (fun c a w h=>HPn.out c _ _ a w h) (Or.inl ⟨by rfl,?_⟩) (by assumption) ?_
 rotate_left
 ·(intro v hv; have e1:v.cell? w§¢1=some (zU d.o):=cell_of hv 1; clear hv; go_simp; try (with_reducible rfl))
 try simp [Act.put]
 refine wpAnyT_take (i:=2) (v:=?_) rfl zK zK zK zK (fun c a w h=>HPn.out c _ _ a w h) (Or.inl ⟨by rfl,?_⟩) (by assumption) ?_
 rotate_left
 ·(intro v hv; go_simp; try (with_reducible rfl))
 try simp [Act.put]
 refine wpAnyT_take (i:=3) (v:=?_) rfl zK zK zK zK (fun c a w h=>HPn.out c _ _ a w h) (Or.inl ⟨by rfl,?_⟩) (by assumption) ?_
 rotate_left
 ·(intro v hv; go_simp; try (with_reducible rfl))
 try simp [Act.put]
 refine wpAnyT_take (i:=4) (v:=?_) rfl zK zK zK zK (fun c a w h=>HPn.out c _ _ a w h) (Or.inl ⟨by rfl,?_⟩) (by assumption) ?_
 rotate_left
 ·(intro v hv; have e2:v.cell? w§¢2=some (.string d.x):=cell_of hv 2; clear hv; go_simp; try (with_reducible rfl))
 try simp [Act.put]
 refine wpAnyT_two (i:=5) (j:=7) zK rfl rfl (fun K hK=>?_) (fun K hK=>?_)
 go_simp
 refine (cS _ (below2 HBW.out (drew_below V))).mono ?_
 rintro e w1 ⟨rfl,ew⟩
 obtain rfl:=ew.symm
 refine hK.out _ _ (fun _=>HN.out) ?_
 clear hK K
 try simp [Act.put]
 refine wpAnyT_take (i:=6) (v:=?_) rfl zK zK zK zK (fun c a w h=>HPn.out c _ _ a w h) (Or.inl ⟨by rfl,?_⟩) HN.out ?_
 rotate_left
 ·(intro v hv; go_simp; try (with_reducible rfl))
 try simp [Act.put]
 refine wpAnyT_one (i:=7) zK rfl (fun K hK=>?_)
 go_simp
 refine hK.out _ _ (fun _=>heapOf HDA.out HN.out) ?_
 clear hK K
 try simp [Act.put]
 refine wpAnyT_one (i:=8) zK rfl (fun K hK=>?_)
 refine step_store_row rfl 79 (.tmp 4) (.tmp 11) rfl V§ (acA 1 d.o 0 0 0 sl) rfl rfl 79 zac HZ.out (size79 ..) rfl (all79 ..) ?_
 refine hK.out _ _ (fun h=>absurd rfl h) ?_
 clear hK K
 try simp [Act.put]
 rotate_left
 go_simp
 refine hK.out _ _ (fun _=>heapOf HDA.out HN.out) ?_
 clear hK K
 try simp [Act.put]
 refine wpAnyT_one (i:=5) zK rfl (fun K hK=>?_)
 go_simp
 refine (cS _ (below2 HBW.out HDA.out)).mono ?_
 rintro e w1 ⟨rfl,ew⟩
 obtain rfl:=ew.symm
 refine hK.out _ _ (fun _=>heapOf HDA.out HN.out) ?_
 clear hK K
 try simp [Act.put]
 refine wpAnyT_take (i:=6) (v:=?_) rfl zK zK zK zK (fun c a w h=>HPn.out c _ _ a w h) (Or.inl ⟨by rfl,?_⟩) (heapOf HDA.out HN.out) ?_
 rotate_left
 ·(intro v hv; go_simp; try (with_reducible rfl))
 try simp [Act.put]
 refine wpAnyT_one (i:=8) zK rfl (fun K hK=>?_)
 refine step_store_row rfl 79 (.tmp 4) (.tmp 11) rfl V§ (acA 1 d.o 0 0 0 sl) rfl rfl 79 zac HZ.out (size79 ..) rfl (all79 ..) ?_
 refine hK.out _ _ (fun h=>absurd rfl h) ?_
 clear hK K
 try simp [Act.put]
 all_goals
  refine wpAnyT_done zK ?_ _
  rw [HQ'.out]
  clear HQ' HPn Q'
  generalize hWX:World.setRow _ _ _=U
  have hWY:(V.drew.alloc (.cells zac 79)).setRow V§ (acA 1 d.o 0 0 0 sl)=U:=hWX
  rw [hWY] at KP0
  have KP:=KP0
  clear hWX hWY KP0 HZ HDA cS HSZ HBW HN EV
  obtain⟨M,eM⟩:∃ M,V§=M:=⟨_,rfl⟩
  rw [eM] at KP ⊢
  clear eM
  have cV:Calls zG 37 #[zP tb,.agg #[zU d.sd.h.k,zU d.sd.h.o,zU d.sd.h.t,zI d.sd.h.n,zU d.sd.h.f,.string d.sd.h.x,.slice d.sd.a d.sd.ks.length d.sd.c,zI d.sd.h.p]] U.drew (OutV U.drew (valR x.s (gOf x.P q.rg) d.sd)):=value_any (s:=x.s) (G:=(gOf x.P q.rg)) H.out.fi d.sd U.drew (H.out.on (KP.out.on (drew_below U)).b).sv (HL_sd.out.1.on (KP.out.on (drew_below U)).b) HL_sd.out.2
  obtain⟨rsd,esd⟩:∃ r,valR x.s (gOf x.P q.rg) d.sd=r:=⟨_,rfl⟩
  have Esd:Hid (valR x.s (gOf x.P q.rg) d.sd=rsd):=esd
  rw [esd] at cV
  clear esd
  go_upto_region 2 with fail
  refine (?_:∀ Q',Hid (Q'=_)→Code.wp _ _ Q' _ _) _ rfl
  intro Q' HQ'
  have HPn:Hid (∀ p (d:Nat) v a w,Q' (.panic p) (Act.put a (some d) v) w→Q' (.panic p) a w):=by rw [HQ'.out]; exact fun _ _ _ _ _ h=>h
  refine wp_region_T (t:=8) (S:=fun u=>u.heap[w§]? = (zC d.vals 121)) zK KP.out.n (fun hHeld=>?_)
  refine wpAnyT_take (i:=0) (v:=?_) rfl zK zK zK zK (fun c a w h=>HPn.out c _ _ a w h) (Or.inl ⟨by rfl,?_⟩) (by assumption) ?_
  rotate_left
  ·(intro v hv; go_simp; try (with_reducible rfl))
  try simp [Act.put]
  refine wpAnyT_take (i:=1) (v:=?_) rfl zK zK zK zK (fun c a w h=>HPn.out c _ _ a w h) (Or.inl ⟨by rfl,?_⟩) (by assumption) ?_
  rotate_left
  ·(intro v hv; go_simp; try (with_reducible rfl))
  try simp [Act.put]
  refine wpAnyT_take (i:=2) (v:=?_) rfl zK zK zK zK (fun c a w h=>HPn.out c _ _ a w h) (Or.inl ⟨by rfl,?_⟩) (by assumption) ?_
  rotate_left
  ·(intro v hv; go_simp; try (with_reducible rfl))
  try simp [Act.put]
  refine wpAnyT_take (i:=3) (v:=?_) rfl zK zK zK zK (fun c a w h=>HPn.out c _ _ a w h) (Or.inl ⟨by rfl,?_⟩) (by assumption) ?_
  rotate_left
  ·(intro v hv; go_simp; try (with_reducible rfl))
  try simp [Act.put]
  refine wpAnyT_take (i:=4) (v:=?_) rfl zK zK zK zK (fun c a w h=>HPn.out c _ _ a w h) (Or.inl ⟨by rfl,?_⟩) (by assumption) ?_
  rotate_left
  ·(intro v hv; have e0:v.cell? w§¢3=some (zU d.sd.h.k):=cell_of hv 3; have e1:v.cell? w§¢4=some (zU d.sd.h.o):=cell_of hv 4; have e2:v.cell? w§¢5=some (zU d.sd.h.t):=cell_of hv 5; have e3:v.cell? w§¢6=some (zI d.sd.h.n):=cell_of hv 6; have e4:v.cell? w§¢7=some (zU d.sd.h.f):=cell_of hv 7; have e5:v.cell? w§¢8=some (.string d.sd.h.x):=cell_of hv 8; have e6:v.cell? w§¢9=some (.slice d.sd.a d.sd.ks.length d.sd.c):=cell_of hv 9; have e7:v.cell? w§¢10=some (zI d.sd.h.p):=cell_of hv 10; clear hv; go_simp; try (with_reducible rfl))
  try simp [Act.put]
  rcases rsd with c | zsd
  ·refine wpAnyT_one (i:=5) zK rfl (fun K hK=>?_)
   go_simp
   refine cV.mono ?_
   rintro e w1 ⟨rfl,hb⟩
   rw [HQ'.out]
   refine⟨rfl,?_⟩
   rw [show subR x.S x.s (gOf x.P q.rg) d=.error c by unfold subR; rw [Esd.out]]
   exact⟨rfl,((KP.out.on (drew_below U)).on hb).b⟩
  refine wpAnyT_one (i:=5) zK rfl (fun K hK=>?_)
  go_simp
  refine cV.mono ?_
  rintro e w1 ⟨rfl,hb⟩
  have KP1:=((KP.out.on (drew_below U)).on hb).hid
  clear hb cV
  unfold endV
  go_simp
  refine hK.out _ _ (fun _=>KP1.out.n) ?_
  clear hK K
  try simp [Act.put]
  refine wpAnyT_take (i:=6) (v:=?_) rfl zK zK zK zK (fun c a w h=>HPn.out c _ _ a w h) (Or.inl ⟨by rfl,?_⟩) KP1.out.n ?_
  rotate_left
  ·(intro v hv; go_simp; try (with_reducible rfl))
  try simp [Act.put]
  refine wpAnyT_take (i:=7) (v:=?_) rfl zK zK zK zK (fun c a w h=>HPn.out c _ _ a w h) (Or.inl ⟨by rfl,?_⟩) KP1.out.n ?_
  rotate_left
  ·(intro v hv; go_simp; try (with_reducible rfl))
  try simp [Act.put]
  have ca:w1.cell? M¢2=some (zU 0):=cell_of KP1.out.m 2
  have fa:w1.frozen? M¢2=false:=frozen_of KP1.out.m 2
  refine wpAnyT_one (i:=8) zK rfl (fun K hK=>?_)
  go_simp
  refine hK.out _ _ (fun h=>absurd rfl h) ?_
  clear hK K
  try simp [Act.put]
  refine wpAnyT_done zK ?_ _
  rw [HQ'.out]
  clear HQ' HPn Q'
  have KP2:Hid (AcK w d M (w1.setCell M¢2 (zU (IntKind.wrap .u8 zsd))) (acA 1 d.o (IntKind.wrap .u8 zsd) 0 0 sl)):=KP1.out.set 2 _
  clear ca fa KP1 KP
  obtain⟨U,eU⟩:∃ U,w1.setCell M¢2 (zU (IntKind.wrap .u8 zsd))=U:=⟨_,rfl⟩
  rw [eU] at KP2 ⊢
  clear eU
  have KP:=KP2
  clear KP2
  have cV:Calls zG 37 #[zP tb,.agg #[zU d.qt.h.k,zU d.qt.h.o,zU d.qt.h.t,zI d.qt.h.n,zU d.qt.h.f,.string d.qt.h.x,.slice d.qt.a d.qt.ks.length d.qt.c,zI d.qt.h.p]] U.drew (OutV U.drew (valR x.s (gOf x.P q.rg) d.qt)):=value_any (s:=x.s) (G:=(gOf x.P q.rg)) H.out.fi d.qt U.drew (H.out.on (KP.out.on (drew_below U)).b).sv (HL_qt.out.1.on (KP.out.on (drew_below U)).b) HL_qt.out.2
  obtain⟨rqt,eqt⟩:∃ r,valR x.s (gOf x.P q.rg) d.qt=r:=⟨_,rfl⟩
  have Eqt:Hid (valR x.s (gOf x.P q.rg) d.qt=rqt):=eqt
  rw [eqt] at cV
  clear eqt
  go_upto_region 3 with fail
  refine (?_:∀ Q',Hid (Q'=_)→Code.wp _ _ Q' _ _) _ rfl
  intro Q' HQ'
  have HPn:Hid (∀ p (d:Nat) v a w,Q' (.panic p) (Act.put a (some d) v) w→Q' (.panic p) a w):=by rw [HQ'.out]; exact fun _ _ _ _ _ h=>h
  refine wp_region_T (t:=7) (S:=fun u=>u.heap[w§]? = (zC d.vals 121)) zK KP.out.n (fun hHeld=>?_)
  refine wpAnyT_take (i:=0) (v:=?_) rfl zK zK zK zK (fun c a w h=>HPn.out c _ _ a w h) (Or.inl ⟨by rfl,?_⟩) (by assumption) ?_
  rotate_left
  ·(intro v hv; go_simp; try (with_reducible rfl))
  try simp [Act.put]
  refine wpAnyT_take (i:=1) (v:=?_) rfl zK zK zK zK (fun c a w h=>HPn.out c _ _ a w h) (Or.inl ⟨by rfl,?_⟩) (by assumption) ?_
  rotate_left
  ·(intro v hv; go_simp; try (with_reducible rfl))
  try simp [Act.put]
  refine wpAnyT_take (i:=2) (v:=?_) rfl zK zK zK zK (fun c a w h=>HPn.out c _ _ a w h) (Or.inl ⟨by rfl,?_⟩) (by assumption) ?_
  rotate_left
  ·(intro v hv; go_simp; try (with_reducible rfl))
  try simp [Act.put]
  refine wpAnyT_take (i:=3) (v:=?_) rfl zK zK zK zK (fun c a w h=>HPn.out c _ _ a w h) (Or.inl ⟨by rfl,?_⟩) (by assumption) ?_
  rotate_left
  ·(intro v hv; go_simp; try (with_reducible rfl))
  try simp [Act.put]
  refine wpAnyT_take (i:=4) (v:=?_) rfl zK zK zK zK (fun c a w h=>HPn.out c _ _ a w h) (Or.inl ⟨by rfl,?_⟩) (by assumption) ?_
  rotate_left
  ·(intro v hv; have e0:v.cell? w§¢11=some (zU d.qt.h.k):=cell_of hv 11; have e1:v.cell? w§¢12=some (zU d.qt.h.o):=cell_of hv 12; have e2:v.cell? w§¢13=some (zU d.qt.h.t):=cell_of hv 13; have e3:v.cell? w§¢14=some (zI d.qt.h.n):=cell_of hv 14; have e4:v.cell? w§¢15=some (zU d.qt.h.f):=cell_of hv 15; have e5:v.cell? w§¢16=some (.string d.qt.h.x):=cell_of hv 16; have e6:v.cell? w§¢17=some (.slice d.qt.a d.qt.ks.length d.qt.c):=cell_of hv 17; have e7:v.cell? w§¢18=some (zI d.qt.h.p):=cell_of hv 18; clear hv; go_simp; try (with_reducible rfl))
  try simp [Act.put]
  rcases rqt with c | zqt
  ·refine wpAnyT_one (i:=5) zK rfl (fun K hK=>?_)
   go_simp
   refine cV.mono ?_
   rintro e w1 ⟨rfl,hb⟩
   rw [HQ'.out]
   refine⟨rfl,?_⟩
   rw [show subR x.S x.s (gOf x.P q.rg) d=.error c by unfold subR; rw [Esd.out]; dsimp only; rw [Eqt.out]]
   exact⟨rfl,((KP.out.on (drew_below U)).on hb).b⟩
  refine wpAnyT_one (i:=5) zK rfl (fun K hK=>?_)
  go_simp
  refine cV.mono ?_
  rintro e w1 ⟨rfl,hb⟩
  have KP1:=((KP.out.on (drew_below U)).on hb).hid
  clear hb cV
  unfold endV
  go_simp
  refine hK.out _ _ (fun _=>KP1.out.n) ?_
  clear hK K
  try simp [Act.put]
  refine wpAnyT_take (i:=6) (v:=?_) rfl zK zK zK zK (fun c a w h=>HPn.out c _ _ a w h) (Or.inl ⟨by rfl,?_⟩) KP1.out.n ?_
  rotate_left
  ·(intro v hv; go_simp; try (with_reducible rfl))
  try simp [Act.put]
  have ca:w1.cell? M¢4=some (zI 0):=cell_of KP1.out.m 4
  have fa:w1.frozen? M¢4=false:=frozen_of KP1.out.m 4
  refine wpAnyT_one (i:=7) zK rfl (fun K hK=>?_)
  go_simp
  refine hK.out _ _ (fun h=>absurd rfl h) ?_
  clear hK K
  try simp [Act.put]
  refine wpAnyT_done zK ?_ _
  rw [HQ'.out]
  clear HQ' HPn Q'
  have KP2:Hid (AcK w d M (w1.setCell M¢4 (zI zqt)) (acA 1 d.o (IntKind.wrap .u8 zsd) 0 zqt sl)):=KP1.out.set 4 _
  clear ca fa KP1 KP
  obtain⟨U,eU⟩:∃ U,w1.setCell M¢4 (zI zqt)=U:=⟨_,rfl⟩
  rw [eU] at KP2 ⊢
  clear eU
  have KP:=KP2
  clear KP2
  have e1:U.cell? w§¢1=some (zU d.o):=cell_of KP.out.n 1
  by_cases ho:d.o=2
  ·have ho':(d.o != 2)=false:=by simpa using ho
   have KP:Hid (AcK w d M U (acA 1 2 (IntKind.wrap .u8 zsd) 0 zqt sl)):=by have h1:=KP.out; rw [ho] at h1; exact h1
   have HE:Hid (subR x.S x.s (gOf x.P q.rg) d=.ok (acA 1 2 (IntKind.wrap .u8 zsd) 0 zqt sl)):=by show _=_; unfold subR; rw [Esd.out]; dsimp only; rw [Eqt.out]; dsimp only; rw [if_pos ho,ESL.out,ho]
   have HU:Hid (TnW B h0 x tb rb mb sb gb U.drew av q):=H.out.on (KP.out.on (drew_below U)).b
   have HRA:Hid (RA (cutW U.drew h0) U.drew 79 6 av q.ac):=HU.out.ra
   have HOB:Hid (av.ownBlock≠some M):=fun e=>by have:=H.out.row.lt _ e; have:=KP.out.l; omega
   have HS:Hid (U.heap[tb]? = (zC (tnA x.s rb q.rg.length mb sb gb av q) 117)∧U.heap[M]? = (zC (acA 1 2 (IntKind.wrap .u8 zsd) 0 zqt sl) 79)):=⟨HU.out.t,KP.out.m⟩
   go_upto_region 6 with fail
   refine (?_:∀ Q',Hid (Q'=_)→Code.wp _ _ Q' _ _) _ rfl
   intro Q' HQ'
   have HPn:Hid (∀ p (d:Nat) v a w,Q' (.panic p) (Act.put a (some d) v) w→Q' (.panic p) a w):=by rw [HQ'.out]; exact fun _ _ _ _ _ h=>h
   refine wp_region_T (t:=10) (S:=fun u=>u.heap[tb]? = (zC (tnA x.s rb q.rg.length mb sb gb av q) 117)∧u.heap[M]? = (zC (acA 1 2 (IntKind.wrap .u8 zsd) 0 zqt sl) 79)) zK HS.out (fun hHeld=>?_)
   obtain⟨D,eD⟩:∃ D,U.drew=D:=⟨_,rfl⟩
   have HS:Hid (D.heap[tb]? = (zC (tnA x.s rb q.rg.length mb sb gb av q) 117)∧D.heap[M]? = (zC (acA 1 2 (IntKind.wrap .u8 zsd) 0 zqt sl) 79)):=by rw [← eD]; exact HS.out
   have HKD:Hid (yD w D):=by rw [← eD]; exact (KP.out.on (drew_below U)).b
   rw [eD] at HU HRA hHeld ⊢
   clear eD
   refine wpAnyT_take (i:=0) (v:=?_) rfl zK zK zK zK (fun c a w h=>HPn.out c _ _ a w h) (Or.inl ⟨by rfl,?_⟩) (by assumption) ?_
   rotate_left
   ·(intro v hv; go_simp; try (with_reducible rfl))
   try simp [Act.put]
   refine wpAnyT_take (i:=1) (v:=?_) rfl zK zK zK zK (fun c a w h=>HPn.out c _ _ a w h) (Or.inl ⟨by rfl,?_⟩) (by assumption) ?_
   rotate_left
   ·(intro v hv; go_simp; try (with_reducible rfl))
   try simp [Act.put]
   refine wpAnyT_take (i:=2) (v:=?_) rfl zK zK zK zK (fun c a w h=>HPn.out c _ _ a w h) (Or.inl ⟨by rfl,?_⟩) (by assumption) ?_
   rotate_left
   ·(intro v hv; go_simp; try (with_reducible rfl))
   try simp [Act.put]
   refine wpAnyT_take (i:=3) (v:=?_) rfl zK zK zK zK (fun c a w h=>HPn.out c _ _ a w h) (Or.inl ⟨by rfl,?_⟩) (by assumption) ?_
   rotate_left
   ·(intro v hv; go_simp; try (with_reducible rfl))
   try simp [Act.put]
   refine wpAnyT_take (i:=4) (v:=?_) rfl zK zK zK zK (fun c a w h=>HPn.out c _ _ a w h) (Or.inl ⟨by rfl,?_⟩) (by assumption) ?_
   rotate_left
   ·(intro v hv; have c11:v.cell? tb¢11=some av:=cell_of hv.1 11; clear hv; go_simp; try (with_reducible rfl))
   try simp [Act.put]
   refine wpAnyT_take (i:=5) (v:=?_) rfl zK zK zK zK (fun c a w h=>HPn.out c _ _ a w h) (Or.inl ⟨by rfl,?_⟩) (by assumption) ?_
   rotate_left
   ·(intro v hv; have e0:v.cell? M¢0=some (zU 1):=cell_of hv.2 0; have e1:v.cell? M¢1=some (zU 2):=cell_of hv.2 1; have e2:v.cell? M¢2=some (zU (IntKind.wrap .u8 zsd)):=cell_of hv.2 2; have e3:v.cell? M¢3=some (zI 0):=cell_of hv.2 3; have e4:v.cell? M¢4=some (zI zqt):=cell_of hv.2 4; have e5:v.cell? M¢5=some (zI sl):=cell_of hv.2 5; clear hv; go_simp; try (with_reducible rfl))
   try simp [Act.put]
   refine wpAnyT_one (i:=6) zK rfl (fun K hK=>?_)
   go_simp
   refine hK.out _ _ (fun _=>⟨heapOf (below_new D _) HS.out.1,heapOf (below_new D _) HS.out.2⟩) ?_
   clear hK K
   try simp [Act.put]
   refine wpAnyT_one (i:=7) zK rfl (fun K hK=>?_)
   refine step_arr rfl (.tmp 41) (.tmp 43) 56 79 6 32 _ rfl Tryz.underlying56 inf79 rfl (by decide) (by decide) (by decide) (acA 1 2 (IntKind.wrap .u8 zsd) 0 zqt sl) rfl (ac_one _ _ _ _ _ _) HRA.out rfl rfl HLN.out ?_
   intro v1 w2 hr2 hs2 hq2 hz2
   obtain⟨ao3,n3,c3,rfl⟩:=hr2.sl3
   have HF:=HU.out.app hr2 hs2 hq2
   have HF2:Hid (TnW B h0 x tb rb mb sb gb (w2.setCell tb¢11 (.slice ao3 n3 c3)) (.slice ao3 n3 c3) { q with ac:=q.ac ++ [acA 1 2 (IntKind.wrap .u8 zsd) 0 zqt sl] }∧Below B w (w2.setCell tb¢11 (.slice ao3 n3 c3))):=⟨HF.1,(HKD.out.mono H.out.bs).trans HF.2⟩
   have ht2:w2.heap[tb]? = (zC (tnA x.s rb q.rg.length mb sb gb av q) 117):=(hq2 tb (zJ HU.out.t).1 (fun e=>by have:=HU.out.nb tb e; have:=H.out.th; omega)).trans HU.out.t
   have hn2:w2.heap[M]? = (zC (acA 1 2 (IntKind.wrap .u8 zsd) 0 zqt sl) 79):=(hq2 _ (zJ HS.out.2).1 HOB.out).trans HS.out.2
   have HS2:Hid (w2.heap[tb]? = (zC (tnA x.s rb q.rg.length mb sb gb av q) 117)∧w2.heap[M]? = (zC (acA 1 2 (IntKind.wrap .u8 zsd) 0 zqt sl) 79)):=⟨ht2,hn2⟩
   clear hr2 hs2 hq2 hz2 HF ht2 hn2
   refine hK.out _ _ (fun _=>HS2.out) ?_
   clear hK K
   try simp [Act.put]
   refine wpAnyT_one (i:=8) zK rfl (fun K hK=>?_)
   go_simp
   refine hK.out _ _ (fun _=>HS2.out) ?_
   clear hK K
   try simp [Act.put]
   refine wpAnyT_take (i:=9) (v:=?_) rfl zK zK zK zK (fun c a w h=>HPn.out c _ _ a w h) (Or.inl ⟨by rfl,?_⟩) HS2.out ?_
   rotate_left
   ·(intro v hv; go_simp; try (with_reducible rfl))
   try simp [Act.put]
   have c11:w2.cell? tb¢11=some av:=cell_of HS2.out.1 11
   have f11:w2.frozen? tb¢11=false:=frozen_of HS2.out.1 11
   refine wpAnyT_one (i:=10) zK rfl (fun K hK=>?_)
   go_simp
   refine hK.out _ _ (fun h=>absurd rfl h) ?_
   clear hK K
   try simp [Act.put]
   refine wpAnyT_done zK ?_ _
   rw [HQ'.out]
   clear HQ' HPn Q'
   go_wp2_with fail
   go_end0
   unfold OutA
   rw [HE.out]
   exact⟨rfl,⟨_,HF2.out.1⟩,HF2.out.2⟩
  ·have ho':(d.o != 2)=true:=by simpa using ho
   have HL_pr:Hid (Lies w d.pr∧Res (gOf x.P q.rg) d.pr):=HL.out.pr ho
   have HO:Hid (¬ d.o=2):=ho
   have cV:Calls zG 37 #[zP tb,.agg #[zU d.pr.h.k,zU d.pr.h.o,zU d.pr.h.t,zI d.pr.h.n,zU d.pr.h.f,.string d.pr.h.x,.slice d.pr.a d.pr.ks.length d.pr.c,zI d.pr.h.p]] U.drew (OutV U.drew (valR x.s (gOf x.P q.rg) d.pr)):=value_any (s:=x.s) (G:=(gOf x.P q.rg)) H.out.fi d.pr U.drew (H.out.on (KP.out.on (drew_below U)).b).sv (HL_pr.out.1.on (KP.out.on (drew_below U)).b) HL_pr.out.2
   obtain⟨rpr,epr⟩:∃ r,valR x.s (gOf x.P q.rg) d.pr=r:=⟨_,rfl⟩
   have Epr:Hid (valR x.s (gOf x.P q.rg) d.pr=rpr):=epr
   rw [epr] at cV
   clear epr
   go_upto_region 5 with fail
   refine (?_:∀ Q',Hid (Q'=_)→Code.wp _ _ Q' _ _) _ rfl
   intro Q' HQ'
   have HPn:Hid (∀ p (d:Nat) v a w,Q' (.panic p) (Act.put a (some d) v) w→Q' (.panic p) a w):=by rw [HQ'.out]; exact fun _ _ _ _ _ h=>h
   refine wp_region_T (t:=7) (S:=fun u=>u.heap[w§]? = (zC d.vals 121)) zK KP.out.n (fun hHeld=>?_)
   refine wpAnyT_take (i:=0) (v:=?_) rfl zK zK zK zK (fun c a w h=>HPn.out c _ _ a w h) (Or.inl ⟨by rfl,?_⟩) (by assumption) ?_
   rotate_left
   ·(intro v hv; go_simp; try (with_reducible rfl))
   try simp [Act.put]
   refine wpAnyT_take (i:=1) (v:=?_) rfl zK zK zK zK (fun c a w h=>HPn.out c _ _ a w h) (Or.inl ⟨by rfl,?_⟩) (by assumption) ?_
   rotate_left
   ·(intro v hv; go_simp; try (with_reducible rfl))
   try simp [Act.put]
   refine wpAnyT_take (i:=2) (v:=?_) rfl zK zK zK zK (fun c a w h=>HPn.out c _ _ a w h) (Or.inl ⟨by rfl,?_⟩) (by assumption) ?_
   rotate_left
   ·(intro v hv; go_simp; try (with_reducible rfl))
   try simp [Act.put]
   refine wpAnyT_take (i:=3) (v:=?_) rfl zK zK zK zK (fun c a w h=>HPn.out c _ _ a w h) (Or.inl ⟨by rfl,?_⟩) (by assumption) ?_
   rotate_left
   ·(intro v hv; go_simp; try (with_reducible rfl))
   try simp [Act.put]
   refine wpAnyT_take (i:=4) (v:=?_) rfl zK zK zK zK (fun c a w h=>HPn.out c _ _ a w h) (Or.inl ⟨by rfl,?_⟩) (by assumption) ?_
   rotate_left
   ·(intro v hv; have e0:v.cell? w§¢19=some (zU d.pr.h.k):=cell_of hv 19; have e1:v.cell? w§¢20=some (zU d.pr.h.o):=cell_of hv 20; have e2:v.cell? w§¢21=some (zU d.pr.h.t):=cell_of hv 21; have e3:v.cell? w§¢22=some (zI d.pr.h.n):=cell_of hv 22; have e4:v.cell? w§¢23=some (zU d.pr.h.f):=cell_of hv 23; have e5:v.cell? w§¢24=some (.string d.pr.h.x):=cell_of hv 24; have e6:v.cell? w§¢25=some (.slice d.pr.a d.pr.ks.length d.pr.c):=cell_of hv 25; have e7:v.cell? w§¢26=some (zI d.pr.h.p):=cell_of hv 26; clear hv; go_simp; try (with_reducible rfl))
   try simp [Act.put]
   rcases rpr with c | zpr
   ·refine wpAnyT_one (i:=5) zK rfl (fun K hK=>?_)
    go_simp
    refine cV.mono ?_
    rintro e w1 ⟨rfl,hb⟩
    rw [HQ'.out]
    refine⟨rfl,?_⟩
    rw [show subR x.S x.s (gOf x.P q.rg) d=.error c by unfold subR; rw [Esd.out]; dsimp only; rw [Eqt.out]; dsimp only; rw [if_neg HO.out,Epr.out]]
    exact⟨rfl,((KP.out.on (drew_below U)).on hb).b⟩
   refine wpAnyT_one (i:=5) zK rfl (fun K hK=>?_)
   go_simp
   refine cV.mono ?_
   rintro e w1 ⟨rfl,hb⟩
   have KP1:=((KP.out.on (drew_below U)).on hb).hid
   clear hb cV
   unfold endV
   go_simp
   refine hK.out _ _ (fun _=>KP1.out.n) ?_
   clear hK K
   try simp [Act.put]
   refine wpAnyT_take (i:=6) (v:=?_) rfl zK zK zK zK (fun c a w h=>HPn.out c _ _ a w h) (Or.inl ⟨by rfl,?_⟩) KP1.out.n ?_
   rotate_left
   ·(intro v hv; go_simp; try (with_reducible rfl))
   try simp [Act.put]
   have ca:w1.cell? M¢3=some (zI 0):=cell_of KP1.out.m 3
   have fa:w1.frozen? M¢3=false:=frozen_of KP1.out.m 3
   refine wpAnyT_one (i:=7) zK rfl (fun K hK=>?_)
   go_simp
   refine hK.out _ _ (fun h=>absurd rfl h) ?_
   clear hK K
   try simp [Act.put]
   refine wpAnyT_done zK ?_ _
   rw [HQ'.out]
   clear HQ' HPn Q'
   have KP2:Hid (AcK w d M (w1.setCell M¢3 (zI zpr)) (acA 1 d.o (IntKind.wrap .u8 zsd) zpr zqt sl)):=KP1.out.set 3 _
   clear ca fa KP1 KP
   obtain⟨U,eU⟩:∃ U,w1.setCell M¢3 (zI zpr)=U:=⟨_,rfl⟩
   rw [eU] at KP2 ⊢
   clear eU
   have KP:=KP2
   clear KP2
   have HE:Hid (subR x.S x.s (gOf x.P q.rg) d=.ok (acA 1 d.o (IntKind.wrap .u8 zsd) zpr zqt sl)):=by show _=_; unfold subR; rw [Esd.out]; dsimp only; rw [Eqt.out]; dsimp only; rw [if_neg HO.out,Epr.out]; dsimp only; rw [ESL.out]
   have HU:Hid (TnW B h0 x tb rb mb sb gb U.drew av q):=H.out.on (KP.out.on (drew_below U)).b
   have HRA:Hid (RA (cutW U.drew h0) U.drew 79 6 av q.ac):=HU.out.ra
   have HOB:Hid (av.ownBlock≠some M):=fun e=>by have:=H.out.row.lt _ e; have:=KP.out.l; omega
   have HS:Hid (U.heap[tb]? = (zC (tnA x.s rb q.rg.length mb sb gb av q) 117)∧U.heap[M]? = (zC (acA 1 d.o (IntKind.wrap .u8 zsd) zpr zqt sl) 79)):=⟨HU.out.t,KP.out.m⟩
   go_upto_region 6 with fail
   refine (?_:∀ Q',Hid (Q'=_)→Code.wp _ _ Q' _ _) _ rfl
   intro Q' HQ'
   have HPn:Hid (∀ p (d:Nat) v a w,Q' (.panic p) (Act.put a (some d) v) w→Q' (.panic p) a w):=by rw [HQ'.out]; exact fun _ _ _ _ _ h=>h
   refine wp_region_T (t:=10) (S:=fun u=>u.heap[tb]? = (zC (tnA x.s rb q.rg.length mb sb gb av q) 117)∧u.heap[M]? = (zC (acA 1 d.o (IntKind.wrap .u8 zsd) zpr zqt sl) 79)) zK HS.out (fun hHeld=>?_)
   obtain⟨D,eD⟩:∃ D,U.drew=D:=⟨_,rfl⟩
   have HS:Hid (D.heap[tb]? = (zC (tnA x.s rb q.rg.length mb sb gb av q) 117)∧D.heap[M]? = (zC (acA 1 d.o (IntKind.wrap .u8 zsd) zpr zqt sl) 79)):=by rw [← eD]; exact HS.out
   have HKD:Hid (yD w D):=by rw [← eD]; exact (KP.out.on (drew_below U)).b
   rw [eD] at HU HRA hHeld ⊢
   clear eD
   refine wpAnyT_take (i:=0) (v:=?_) rfl zK zK zK zK (fun c a w h=>HPn.out c _ _ a w h) (Or.inl ⟨by rfl,?_⟩) (by assumption) ?_
   rotate_left
   ·(intro v hv; go_simp; try (with_reducible rfl))
   try simp [Act.put]
   refine wpAnyT_take (i:=1) (v:=?_) rfl zK zK zK zK (fun c a w h=>HPn.out c _ _ a w h) (Or.inl ⟨by rfl,?_⟩) (by assumption) ?_
   rotate_left
   ·(intro v hv; go_simp; try (with_reducible rfl))
   try simp [Act.put]
   refine wpAnyT_take (i:=2) (v:=?_) rfl zK zK zK zK (fun c a w h=>HPn.out c _ _ a w h) (Or.inl ⟨by rfl,?_⟩) (by assumption) ?_
   rotate_left
   ·(intro v hv; go_simp; try (with_reducible rfl))
   try simp [Act.put]
   refine wpAnyT_take (i:=3) (v:=?_) rfl zK zK zK zK (fun c a w h=>HPn.out c _ _ a w h) (Or.inl ⟨by rfl,?_⟩) (by assumption) ?_
   rotate_left
   ·(intro v hv; go_simp; try (with_reducible rfl))
   try simp [Act.put]
   refine wpAnyT_take (i:=4) (v:=?_) rfl zK zK zK zK (fun c a w h=>HPn.out c _ _ a w h) (Or.inl ⟨by rfl,?_⟩) (by assumption) ?_
   rotate_left
   ·(intro v hv; have c11:v.cell? tb¢11=some av:=cell_of hv.1 11; clear hv; go_simp; try (with_reducible rfl))
   try simp [Act.put]
   refine wpAnyT_take (i:=5) (v:=?_) rfl zK zK zK zK (fun c a w h=>HPn.out c _ _ a w h) (Or.inl ⟨by rfl,?_⟩) (by assumption) ?_
   rotate_left
   ·(intro v hv; have e0:v.cell? M¢0=some (zU 1):=cell_of hv.2 0; have e1:v.cell? M¢1=some (zU d.o):=cell_of hv.2 1; have e2:v.cell? M¢2=some (zU (IntKind.wrap .u8 zsd)):=cell_of hv.2 2; have e3:v.cell? M¢3=some (zI zpr):=cell_of hv.2 3; have e4:v.cell? M¢4=some (zI zqt):=cell_of hv.2 4; have e5:v.cell? M¢5=some (zI sl):=cell_of hv.2 5; clear hv; go_simp; try (with_reducible rfl))
   try simp [Act.put]
   refine wpAnyT_one (i:=6) zK rfl (fun K hK=>?_)
   go_simp
   refine hK.out _ _ (fun _=>⟨heapOf (below_new D _) HS.out.1,heapOf (below_new D _) HS.out.2⟩) ?_
   clear hK K
   try simp [Act.put]
   refine wpAnyT_one (i:=7) zK rfl (fun K hK=>?_)
   refine step_arr rfl (.tmp 41) (.tmp 43) 56 79 6 32 _ rfl Tryz.underlying56 inf79 rfl (by decide) (by decide) (by decide) (acA 1 d.o (IntKind.wrap .u8 zsd) zpr zqt sl) rfl (ac_one _ _ _ _ _ _) HRA.out rfl rfl HLN.out ?_
   intro v1 w2 hr2 hs2 hq2 hz2
   obtain⟨ao3,n3,c3,rfl⟩:=hr2.sl3
   have HF:=HU.out.app hr2 hs2 hq2
   have HF2:Hid (TnW B h0 x tb rb mb sb gb (w2.setCell tb¢11 (.slice ao3 n3 c3)) (.slice ao3 n3 c3) { q with ac:=q.ac ++ [acA 1 d.o (IntKind.wrap .u8 zsd) zpr zqt sl] }∧Below B w (w2.setCell tb¢11 (.slice ao3 n3 c3))):=⟨HF.1,(HKD.out.mono H.out.bs).trans HF.2⟩
   have ht2:w2.heap[tb]? = (zC (tnA x.s rb q.rg.length mb sb gb av q) 117):=(hq2 tb (zJ HU.out.t).1 (fun e=>by have:=HU.out.nb tb e; have:=H.out.th; omega)).trans HU.out.t
   have hn2:w2.heap[M]? = (zC (acA 1 d.o (IntKind.wrap .u8 zsd) zpr zqt sl) 79):=(hq2 _ (zJ HS.out.2).1 HOB.out).trans HS.out.2
   have HS2:Hid (w2.heap[tb]? = (zC (tnA x.s rb q.rg.length mb sb gb av q) 117)∧w2.heap[M]? = (zC (acA 1 d.o (IntKind.wrap .u8 zsd) zpr zqt sl) 79)):=⟨ht2,hn2⟩
   clear hr2 hs2 hq2 hz2 HF ht2 hn2
   refine hK.out _ _ (fun _=>HS2.out) ?_
   clear hK K
   try simp [Act.put]
   refine wpAnyT_one (i:=8) zK rfl (fun K hK=>?_)
   go_simp
   refine hK.out _ _ (fun _=>HS2.out) ?_
   clear hK K
   try simp [Act.put]
   refine wpAnyT_take (i:=9) (v:=?_) rfl zK zK zK zK (fun c a w h=>HPn.out c _ _ a w h) (Or.inl ⟨by rfl,?_⟩) HS2.out ?_
   rotate_left
   ·(intro v hv; go_simp; try (with_reducible rfl))
   try simp [Act.put]
   have c11:w2.cell? tb¢11=some av:=cell_of HS2.out.1 11
   have f11:w2.frozen? tb¢11=false:=frozen_of HS2.out.1 11
   refine wpAnyT_one (i:=10) zK rfl (fun K hK=>?_)
   go_simp
   refine hK.out _ _ (fun h=>absurd rfl h) ?_
   clear hK K
   try simp [Act.put]
   refine wpAnyT_done zK ?_ _
   rw [HQ'.out]
   clear HQ' HPn Q'
   go_wp2_with fail
   go_end0
   unfold OutA
   rw [HE.out]
   exact⟨rfl,⟨_,HF2.out.1⟩,HF2.out.2⟩
end Go.Proofs.YtfbjofnaghjmeaaGreatDoor
