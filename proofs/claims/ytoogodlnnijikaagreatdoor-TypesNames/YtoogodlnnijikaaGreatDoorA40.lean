import Derived.Test.YtoogodlnnijikaaGreatDoorA0
import Derived.Test.YtoogodlnnijikaaGreatDoorA39
import Derived.Test.YtoogodlnnijikaaGreatDoorA24
import Derived.Test.YtoogodlnnijikaaGreatDoorA36
namespace Go.Proofs.YtoogodlnnijikaaGreatDoor
set_option maxHeartbeats 8000000
set_option maxRecDepth 100000
open Go.RowKit
set_option linter.unusedVariables false
set_option linter.unusedSimpArgs false
theorem twin_trees:∀ (ks ks':List Nd),ks'.length=ks.length→(∀ i (h1:i < ks.length) (h2:i < ks'.length),Qh ks'[i]=Qh ks[i])→KM ks'=KM ks:=by
 intro ks
 induction ks with
 | nil=>intro ks' h _; cases ks' with | nil=>rfl | cons k l=>simp at h
 | cons k ks ih =>
  intro ks' h hi
  cases ks' with
  | nil=>simp at h
  | cons k' ks' =>
   simp only [KM]
   rw [show Qh k'=Qh k from hi 0 (by simp) (by simp),ih ks' (by simpa using h) fun i h1 h2=>hi (i+1) (Nat.succ_lt_succ h1) (Nat.succ_lt_succ h2)]
theorem twin_tree:∀ (m k:Nd),Twin m k→Qh k=Qh m:=by
 refine Nd.ind fun h a c ks ih k t=>?_
 cases t with
 | mk _ _ a' _ c' _ ks' hl hk =>
 simp only [Qh]
 rw [twin_trees ks ks' hl fun i h1 h2=>ih _ (List.getElem_mem h1) _ (hk i h1 h2)]
theorem J1 {m k:Nd}(t:Twin m k):bare k=bare m:=by unfold bare; rw [twin_tree m k t]
theorem J2 (w:yW) {b c:Nat}(o:Nat) (h:c≠b) (m:Nd):(w.setCells b o m.vals.toList).heap[c]? = w.heap[c]?:=by
 rw [Q2]
 iterate 8 (refine (Below.heap_setCell _ _ _ _ (show c≠b from h)).trans ?_)
 rfl
theorem Kr {w:yW}{b:Nat}{cs:Array Value}{t:TypeId}(h:w.heap[b]? = (zC cs t)) (o:Nat) (m:Nd):(w.setCells b o m.vals.toList).heap[b]? = (zC (set8 cs o m) t):=by
 rw [Q2]
 exact Qi _ (Qi _ (Qi _ (Qi _ (Qi _ (Qi _ (Qi _ (Qi _ h)))))))
theorem JU {w V:yW}(h:yD w V) {b:Nat}(hb:w§≤b) (o:Nat) (m:Nd):yD w (V.setCells b o m.vals.toList):=by
 rw [Q2]
 exact (((((((h.setCell (p:=b¢o) hb _).setCell (p:=⟨b,o+1,none⟩) hb _).setCell (p:=⟨b,o+2,none⟩) hb _).setCell (p:=⟨b,o+3,none⟩) hb _).setCell (p:=⟨b,o+4,none⟩) hb _).setCell (p:=⟨b,o+5,none⟩) hb _).setCell (p:=⟨b,o+6,none⟩) hb _).setCell (p:=⟨b,o+7,none⟩) hb _
theorem there_of {w:yW}{b:Nat}{cs:Array Value}{t:TypeId}(h:w.heap[b]? = (zC cs t)) (o n:Nat) (hn:o+n≤cs.size):w.there b o n:=fun j hj=>⟨by rw [Qa h]; simp; omega,Qb h _⟩
def Off (W:yW) (N:Nat) (m:Nd):Prop:=Lies W m∧Bk (fun b=>N+1 < b∧b < W§) m
theorem Off.on {W W':yW}{N:Nat}{m:Nd}(h:Off W N m) (k:yD W W'):Off W' N m:=⟨h.1.on k,h.2.mono fun b hb=>⟨hb.1,Nat.lt_of_lt_of_le hb.2 k.size⟩⟩
theorem sz_cells8 (w:yW) (b o:Nat) (m:Nd):(w.setCells b o m.vals.toList)§=w§:=by rw [Q2]; simp [World.size_setCell]
theorem Off.set {W:yW}{N:Nat}{m:Nd}(h:Off W N m) (o:Nat) (q:Nd):Off (W.setCells N o q.vals.toList) N m:=⟨h.1.bk (P:=fun b=>N+1 < b∧b < W§) (fun b _ hb=>J2 W o (by omega) q) h.2,h.2.mono fun b hb=>⟨hb.1,by rw [sz_cells8]; exact hb.2⟩⟩
theorem sz_row (W:yW) (b:Nat) (cs:Array Value):(W.setRow b cs)§=W§:=by unfold World.setRow; simp
theorem Off.row {W:yW}{N:Nat}{m:Nd}(h:Off W N m) (cs:Array Value):Lies (W.setRow (N+1) cs) m:=h.1.bk (P:=fun b=>N+1 < b∧b < W§) (fun b _ hb=>QM _ _ _ (by omega)) h.2
theorem Off.rowb {W:yW}{N:Nat}{m:Nd}(h:Off W N m) (cs:Array Value):Bk (fun b=>N≤b∧b < (W.setRow (N+1) cs)§) m:=h.2.mono fun b hb=>⟨by omega,by rw [sz_row]; exact hb.2⟩
theorem Copied.off {m:Nd}{W:yW}{N:Nat}{m':Nd}{W':yW}(h:Lies W' m') (hs:SpN m' (fun b=>W§≤b∧b < W'§)) (hN:N+1 < W§):Off W' N m':=⟨h,hs.bk.mono fun b hb=>by omega⟩
def DoB (P:Nat→Prop) (d:DoM):Prop:=Bk P d.sd∧Bk P d.qt∧Bk P d.pr∧Bk P d.vl
theorem DoB.mono {P Q:Nat→Prop}(h:∀ b,P b→Q b) {d:DoM}(k:DoB P d):DoB Q d:=⟨k.1.mono h,k.2.1.mono h,k.2.2.1.mono h,k.2.2.2.mono h⟩
theorem DoL.bk {P:Nat→Prop}{w w':yW}(k:∀ b,b < w§→P b→w'.heap[b]? = w.heap[b]?) {d:DoM}(h:DoL w d) (hb:DoB P d):DoL w' d:=⟨h.1.bk k hb.1,h.2.1.bk k hb.2.1,h.2.2.1.bk k hb.2.2.1,h.2.2.2.1.bk k hb.2.2.2,h.2.2.2.2⟩
theorem copyDo_any (d:DoM) (w:yW) (hl:DoL w d) (hz:DoZ d∧size d.sd≤900000000∧size d.qt≤900000000∧size d.pr≤900000000∧size d.vl≤900000000):Calls zG 87 #[.agg d.vals] w fun e w'=>∃ d',e=.returned (.agg d'.vals)∧DoL w' d'∧bDo d'=bDo d∧yD w w'∧DoB (fun b=>w§≤b∧b < w'§) d':=by
 have HH:Hid (DoL w d∧size d.sd≤900000000∧size d.qt≤900000000∧size d.pr≤900000000∧size d.vl≤900000000):=⟨hl,hz.2⟩
 have hb0:=Ql w (.cells d.vals 105) (.cells #[zU 0,zU 0,yQ,zU 0,zU 0,zU 0,zI 0,zU 0,yQ,.slice none 0 0,zI 0,zU 0,zU 0,zU 0,zI 0,zU 0,yQ,.slice none 0 0,zI 0,zU 0,zU 0,zU 0,zI 0,zU 0,yQ,.slice none 0 0,zI 0,zU 0,zU 0,zU 0,zI 0,zU 0,yQ,.slice none 0 0,zI 0,zI 0] 105)
 have n1:((w.alloc (.cells d.vals 105)).alloc (.cells #[zU 0,zU 0,yQ,zU 0,zU 0,zU 0,zI 0,zU 0,yQ,.slice none 0 0,zI 0,zU 0,zU 0,zU 0,zI 0,zU 0,yQ,.slice none 0 0,zI 0,zU 0,zU 0,zU 0,zI 0,zU 0,yQ,.slice none 0 0,zI 0,zU 0,zU 0,zU 0,zI 0,zU 0,yQ,.slice none 0 0,zI 0,zI 0] 105)).heap[w§]? = (zC d.vals 105):=QI (Qd _ _) (by rw [Qf]; omega)
 have n2:((w.alloc (.cells d.vals 105)).alloc (.cells #[zU 0,zU 0,yQ,zU 0,zU 0,zU 0,zI 0,zU 0,yQ,.slice none 0 0,zI 0,zU 0,zU 0,zU 0,zI 0,zU 0,yQ,.slice none 0 0,zI 0,zU 0,zU 0,zU 0,zI 0,zU 0,yQ,.slice none 0 0,zI 0,zU 0,zU 0,zU 0,zI 0,zU 0,yQ,.slice none 0 0,zI 0,zI 0] 105)).heap[w§+1]? = (zC #[zU 0,zU 0,yQ,zU 0,zU 0,zU 0,zI 0,zU 0,yQ,.slice none 0 0,zI 0,zU 0,zU 0,zU 0,zI 0,zU 0,yQ,.slice none 0 0,zI 0,zU 0,zU 0,zU 0,zI 0,zU 0,yQ,.slice none 0 0,zI 0,zU 0,zU 0,zU 0,zI 0,zU 0,yQ,.slice none 0 0,zI 0,zI 0] 105):=by rw [← Qf w (.cells d.vals 105)]; exact Qd _ _
 have hs0:((w.alloc (.cells d.vals 105)).alloc (.cells #[zU 0,zU 0,yQ,zU 0,zU 0,zU 0,zI 0,zU 0,yQ,.slice none 0 0,zI 0,zU 0,zU 0,zU 0,zI 0,zU 0,yQ,.slice none 0 0,zI 0,zU 0,zU 0,zU 0,zI 0,zU 0,yQ,.slice none 0 0,zI 0,zU 0,zU 0,zU 0,zI 0,zU 0,yQ,.slice none 0 0,zI 0,zI 0] 105))§=w§+1+1:=by rw [Qf,Qf]
 obtain⟨V,eV⟩:∃ V,(w.alloc (.cells d.vals 105)).alloc (.cells #[zU 0,zU 0,yQ,zU 0,zU 0,zU 0,zI 0,zU 0,yQ,.slice none 0 0,zI 0,zU 0,zU 0,zU 0,zI 0,zU 0,yQ,.slice none 0 0,zI 0,zU 0,zU 0,zU 0,zI 0,zU 0,yQ,.slice none 0 0,zI 0,zU 0,zU 0,zU 0,zI 0,zU 0,yQ,.slice none 0 0,zI 0,zI 0] 105)=V:=⟨_,rfl⟩
 rw [eV] at hb0 n1 n2 hs0
 have HV:Hid ((w.alloc (.cells d.vals 105)).alloc (.cells #[zU 0,zU 0,yQ,zU 0,zU 0,zU 0,zI 0,zU 0,yQ,.slice none 0 0,zI 0,zU 0,zU 0,zU 0,zI 0,zU 0,yQ,.slice none 0 0,zI 0,zU 0,zU 0,zU 0,zI 0,zU 0,yQ,.slice none 0 0,zI 0,zU 0,zU 0,zU 0,zI 0,zU 0,yQ,.slice none 0 0,zI 0,zI 0] 105)=V):=eV
 have hzs:(#[zU 0,zU 0,yQ,zU 0,zU 0,zU 0,zI 0,zU 0,yQ,.slice none 0 0,zI 0,zU 0,zU 0,zU 0,zI 0,zU 0,yQ,.slice none 0 0,zI 0,zU 0,zU 0,zU 0,zI 0,zU 0,yQ,.slice none 0 0,zI 0,zU 0,zU 0,zU 0,zI 0,zU 0,yQ,.slice none 0 0,zI 0,zI 0]:Array Value).size=36:=rfl
 obtain⟨Z,eZ⟩:∃ Z:Array Value,#[zU 0,zU 0,yQ,zU 0,zU 0,zU 0,zI 0,zU 0,yQ,.slice none 0 0,zI 0,zU 0,zU 0,zU 0,zI 0,zU 0,yQ,.slice none 0 0,zI 0,zU 0,zU 0,zU 0,zI 0,zU 0,yQ,.slice none 0 0,zI 0,zU 0,zU 0,zU 0,zI 0,zU 0,yQ,.slice none 0 0,zI 0,zI 0]=Z:=⟨_,rfl⟩
 rw [eZ] at n2 hzs
 have HZZ:Hid (Z.size=36):=hzs
 have H0:Hid (yD w V∧V.heap[w§]? = (zC (doA d.k d.o d.x d.sd d.qt d.pr d.vl d.p) 105)∧w§+1 < V§∧V.heap[w§+1]? = (zC Z 105)):=⟨hb0,n1,by omega,n2⟩
 clear hl hz hb0 n1 n2 hs0 eV hzs eZ
 go_enter Tryz.func87,Tryz.ntmps87
 go_upto_region 1 with fail
 rw [HV.out]
 clear HV
 have c0:=KI d.sd V (HH.out.1.1.on H0.out.1) HH.out.2.1
 go_upto_region 2 with (first | (refine wpList_load_mid rfl 48 _ rfl w§ 3 rfl d.sd.vals.toList _ (Qy H0.out.2.1 3 d.sd (do_sd (⟨d.k,d.o,d.x,d.sd,d.qt,d.pr,d.vl,d.p⟩:DoM))) Tryz.underlying48 rfl (Qx d.sd) ?_; rw [QJ]) | (go_at_call 49; refine c0.mono ?_; rintro e u0 ⟨m0,rfl,hl0,ht0,hs0,ho0,hb0⟩) | (refine wpList_store_mid rfl 48 _ _ rfl w§ 3 m0.vals rfl rfl (there_of ((hb0.block _ (zJ H0.out.2.1).1).trans H0.out.2.1) 3 8 (by show 3+8≤36; omega)) QN (all8 m0) ?_))
 have H1:Hid (yD w (u0.setCells w§ 3 m0.vals.toList)∧(u0.setCells w§ 3 m0.vals.toList).heap[w§]? = (zC (doA d.k d.o d.x m0 (d.qt) (d.pr) (d.vl) d.p) 105)∧w§+1 < (u0.setCells w§ 3 m0.vals.toList)§∧(u0.setCells w§ 3 m0.vals.toList).heap[w§+1]? = (zC Z 105)∧Off (u0.setCells w§ 3 m0.vals.toList) w§ m0∧bare m0=bare d.sd) :=
  ⟨JU (Qe H0.out.1 hb0) (Nat.le_refl _) 3 m0,(Kr ((hb0.block _ (zJ H0.out.2.1).1).trans H0.out.2.1) 3 m0).trans (by rw [doSd_eq]),by have h1:=hb0.size; have h2:=H0.out.2.2.1; rw [Q2]; simp [World.setCell]; omega,(J2 _ 3 (by omega) m0).trans ((hb0.block _ (zJ H0.out.2.2.2).1).trans H0.out.2.2.2),(Copied.off (m:=d.sd) hl0 hs0 H0.out.2.2.1).set 3 m0,J1 ht0⟩
 clear hl0 ht0 hs0 ho0 hb0 c0 H0
 generalize World.setCells _ _ _ _=v0 at H1 ⊢
 have c1:=KI d.qt v0 (HH.out.1.2.1.on H1.out.1) HH.out.2.2.1
 go_upto_region 3 with (first | (refine wpList_load_mid rfl 48 _ rfl w§ 11 rfl d.qt.vals.toList _ (Qy H1.out.2.1 11 d.qt (do_qt (⟨d.k,d.o,d.x,m0,d.qt,d.pr,d.vl,d.p⟩:DoM))) Tryz.underlying48 rfl (Qx d.qt) ?_; rw [QJ]) | (go_at_call 49; refine c1.mono ?_; rintro e u1 ⟨m1,rfl,hl1,ht1,hs1,ho1,hb1⟩) | (refine wpList_store_mid rfl 48 _ _ rfl w§ 11 m1.vals rfl rfl (there_of ((hb1.block _ (zJ H1.out.2.1).1).trans H1.out.2.1) 11 8 (by show 11+8≤36; omega)) QN (all8 m1) ?_))
 have H2:Hid (yD w (u1.setCells w§ 11 m1.vals.toList)∧(u1.setCells w§ 11 m1.vals.toList).heap[w§]? = (zC (doA d.k d.o d.x m0 m1 (d.pr) (d.vl) d.p) 105)∧w§+1 < (u1.setCells w§ 11 m1.vals.toList)§∧(u1.setCells w§ 11 m1.vals.toList).heap[w§+1]? = (zC Z 105)∧Off (u1.setCells w§ 11 m1.vals.toList) w§ m0∧bare m0=bare d.sd∧Off (u1.setCells w§ 11 m1.vals.toList) w§ m1∧bare m1=bare d.qt) :=
  ⟨JU (Qe H1.out.1 hb1) (Nat.le_refl _) 11 m1,(Kr ((hb1.block _ (zJ H1.out.2.1).1).trans H1.out.2.1) 11 m1).trans (by rw [doQt_eq]),by have h1:=hb1.size; have h2:=H1.out.2.2.1; rw [Q2]; simp [World.setCell]; omega,(J2 _ 11 (by omega) m1).trans ((hb1.block _ (zJ H1.out.2.2.2.1).1).trans H1.out.2.2.2.1),((H1.out.2.2.2.2.1).on hb1).set 11 m1,H1.out.2.2.2.2.2,(Copied.off (m:=d.qt) hl1 hs1 H1.out.2.2.1).set 11 m1,J1 ht1⟩
 clear hl1 ht1 hs1 ho1 hb1 c1 H1
 generalize World.setCells _ _ _ _=v1 at H2 ⊢
 have c2:=KI d.pr v1 (HH.out.1.2.2.1.on H2.out.1) HH.out.2.2.2.1
 go_upto_region 4 with (first | (refine wpList_load_mid rfl 48 _ rfl w§ 19 rfl d.pr.vals.toList _ (Qy H2.out.2.1 19 d.pr (do_pr (⟨d.k,d.o,d.x,m0,m1,d.pr,d.vl,d.p⟩:DoM))) Tryz.underlying48 rfl (Qx d.pr) ?_; rw [QJ]) | (go_at_call 49; refine c2.mono ?_; rintro e u2 ⟨m2,rfl,hl2,ht2,hs2,ho2,hb2⟩) | (refine wpList_store_mid rfl 48 _ _ rfl w§ 19 m2.vals rfl rfl (there_of ((hb2.block _ (zJ H2.out.2.1).1).trans H2.out.2.1) 19 8 (by show 19+8≤36; omega)) QN (all8 m2) ?_))
 have H3:Hid (yD w (u2.setCells w§ 19 m2.vals.toList)∧(u2.setCells w§ 19 m2.vals.toList).heap[w§]? = (zC (doA d.k d.o d.x m0 m1 m2 (d.vl) d.p) 105)∧w§+1 < (u2.setCells w§ 19 m2.vals.toList)§∧(u2.setCells w§ 19 m2.vals.toList).heap[w§+1]? = (zC Z 105)∧Off (u2.setCells w§ 19 m2.vals.toList) w§ m0∧bare m0=bare d.sd∧Off (u2.setCells w§ 19 m2.vals.toList) w§ m1∧bare m1=bare d.qt∧Off (u2.setCells w§ 19 m2.vals.toList) w§ m2∧bare m2=bare d.pr) :=
  ⟨JU (Qe H2.out.1 hb2) (Nat.le_refl _) 19 m2,(Kr ((hb2.block _ (zJ H2.out.2.1).1).trans H2.out.2.1) 19 m2).trans (by rw [doPr_eq]),by have h1:=hb2.size; have h2:=H2.out.2.2.1; rw [Q2]; simp [World.setCell]; omega,(J2 _ 19 (by omega) m2).trans ((hb2.block _ (zJ H2.out.2.2.2.1).1).trans H2.out.2.2.2.1),((H2.out.2.2.2.2.1).on hb2).set 19 m2,H2.out.2.2.2.2.2.1,((H2.out.2.2.2.2.2.2.1).on hb2).set 19 m2,H2.out.2.2.2.2.2.2.2,(Copied.off (m:=d.pr) hl2 hs2 H2.out.2.2.1).set 19 m2,J1 ht2⟩
 clear hl2 ht2 hs2 ho2 hb2 c2 H2
 generalize World.setCells _ _ _ _=v2 at H3 ⊢
 have c3:=KI d.vl v2 (HH.out.1.2.2.2.1.on H3.out.1) HH.out.2.2.2.2
 go_upto_region 5 with (first | (refine wpList_load_mid rfl 48 _ rfl w§ 27 rfl d.vl.vals.toList _ (Qy H3.out.2.1 27 d.vl (do_vl (⟨d.k,d.o,d.x,m0,m1,m2,d.vl,d.p⟩:DoM))) Tryz.underlying48 rfl (Qx d.vl) ?_; rw [QJ]) | (go_at_call 49; refine c3.mono ?_; rintro e u3 ⟨m3,rfl,hl3,ht3,hs3,ho3,hb3⟩) | (refine wpList_store_mid rfl 48 _ _ rfl w§ 27 m3.vals rfl rfl (there_of ((hb3.block _ (zJ H3.out.2.1).1).trans H3.out.2.1) 27 8 (by show 27+8≤36; omega)) QN (all8 m3) ?_))
 have H4:Hid (yD w (u3.setCells w§ 27 m3.vals.toList)∧(u3.setCells w§ 27 m3.vals.toList).heap[w§]? = (zC (doA d.k d.o d.x m0 m1 m2 m3 d.p) 105)∧w§+1 < (u3.setCells w§ 27 m3.vals.toList)§∧(u3.setCells w§ 27 m3.vals.toList).heap[w§+1]? = (zC Z 105)∧Off (u3.setCells w§ 27 m3.vals.toList) w§ m0∧bare m0=bare d.sd∧Off (u3.setCells w§ 27 m3.vals.toList) w§ m1∧bare m1=bare d.qt∧Off (u3.setCells w§ 27 m3.vals.toList) w§ m2∧bare m2=bare d.pr∧Off (u3.setCells w§ 27 m3.vals.toList) w§ m3∧bare m3=bare d.vl) :=
  ⟨JU (Qe H3.out.1 hb3) (Nat.le_refl _) 27 m3,(Kr ((hb3.block _ (zJ H3.out.2.1).1).trans H3.out.2.1) 27 m3).trans (by rw [doVl_eq]),by have h1:=hb3.size; have h2:=H3.out.2.2.1; rw [Q2]; simp [World.setCell]; omega,(J2 _ 27 (by omega) m3).trans ((hb3.block _ (zJ H3.out.2.2.2.1).1).trans H3.out.2.2.2.1),((H3.out.2.2.2.2.1).on hb3).set 27 m3,H3.out.2.2.2.2.2.1,((H3.out.2.2.2.2.2.2.1).on hb3).set 27 m3,H3.out.2.2.2.2.2.2.2.1,((H3.out.2.2.2.2.2.2.2.2.1).on hb3).set 27 m3,H3.out.2.2.2.2.2.2.2.2.2,(Copied.off (m:=d.vl) hl3 hs3 H3.out.2.2.1).set 27 m3,J1 ht3⟩
 clear hl3 ht3 hs3 ho3 hb3 c3 H3
 generalize World.setCells _ _ _ _=v3 at H4 ⊢
 have HF:Hid ((v3.setRow (w§+1) (doA d.k d.o d.x m0 m1 m2 m3 d.p)).heap[w§+1]? = (zC (doA d.k d.o d.x m0 m1 m2 m3 d.p) 105)∧yD w (v3.setRow (w§+1) (doA d.k d.o d.x m0 m1 m2 m3 d.p))):=⟨setRow_heap _ _ _ _ _ _ H4.out.2.2.2.1,Qo H4.out.1 (by omega) _⟩
 go_wp2_with (first | (refine wpList_load_row rfl 105 _ rfl w§ rfl 105 (doA d.k d.o d.x m0 m1 m2 m3 d.p) (0,0) _ H4.out.2.1 Tryz.underlying105 rfl Qk ?_) | (refine wpList_store_row rfl 105 _ _ rfl (w§+1) (doA d.k d.o d.x m0 m1 m2 m3 d.p) rfl rfl 105 Z H4.out.2.2.2.1 Qk (by rw [HZZ.out]; rfl) (JY _ _ _ _ _ _ _ _) ?_))
 have h4:=H4.out.2.2.2.2
 exact bodyPost_ret (results_cell_row rfl _ _ (w§+1) 105 (doA d.k d.o d.x m0 m1 m2 m3 d.p) (0,0) _ rfl HF.out.1 Tryz.underlying105 rfl Qk) rfl ⟨⟨d.k,d.o,d.x,m0,m1,m2,m3,d.p⟩,rfl,⟨h4.1.row _,h4.2.2.1.row _,h4.2.2.2.2.1.row _,h4.2.2.2.2.2.2.1.row _,HH.out.1.2.2.2.2⟩,by simp only [bDo,h4.2.1,h4.2.2.2.1,h4.2.2.2.2.2.1,h4.2.2.2.2.2.2.2],HF.out.2,⟨h4.1.rowb _,h4.2.2.1.rowb _,h4.2.2.2.2.1.rowb _,h4.2.2.2.2.2.2.1.rowb _⟩⟩
def arF (L:List (Array Value)) (n j:Nat):Value:=(L.getD (j / n) #[]).getD (j % n) undef
structure RA (W w:yW) (e:TypeId) (n:Nat) (v:Value) (L:List (Array Value)):Prop where
 row:Row w e n v L.length (arF L n)
 nb:∀ k,v.ownBlock=some k→W§≤k
 B:yD W w
 sz:∀ x ∈ L,x.size=n
theorem RA.nil {W w:yW}(h:yD W w) (e:TypeId) (n:Nat):RA W w e n (.slice none 0 0) []:=⟨Row.nil _ _ _ _,fun k h=>by simp [Value.ownBlock] at h,h,fun x hx=>by cases hx⟩
theorem RA.call {W w w':yW}{e:TypeId}{n:Nat}{v:Value}{L:List (Array Value)}(h:RA W w e n v L) (k:yD w w'):RA W w' e n v L :=
 ⟨h.row.of_block (fun b hb=>k.block b (h.row.lt b hb)),h.nb,h.B.trans (k.mono h.B.size),h.sz⟩
theorem RA.hid {W w:yW}{e:TypeId}{n:Nat}{v:Value}{L:List (Array Value)}(h:RA W w e n v L):Hid (RA W w e n v L):=h
theorem arF_lt {L:List (Array Value)}{y:Array Value}{n j:Nat}(hn:0 < n) (h:j < L.length * n):arF (L ++ [y]) n j=arF L n j:=by
 have:j / n < L.length:=(Nat.div_lt_iff_lt_mul hn).2 h
 unfold arF
 simp [List.getD,List.getElem?_append_left this]
theorem arF_at {L:List (Array Value)}{y:Array Value}{n j:Nat}(hn:0 < n) (h1:L.length * n≤j) (h2:j < (L.length+1) * n):arF (L ++ [y]) n j=y.getD (j - L.length * n) undef:=by
 obtain⟨k,rfl⟩:∃ k,j=L.length * n+k:=⟨j - L.length * n,by omega⟩
 have hk:k < n:=by rw [Nat.add_mul,Nat.one_mul] at h2; omega
 have e1:(L.length * n+k) / n=L.length:=by rw [Nat.mul_comm,Nat.mul_add_div hn,Nat.div_eq_of_lt hk]; omega
 have e2:(L.length * n+k) % n=k:=by rw [Nat.mul_comm,Nat.mul_add_mod,Nat.mod_eq_of_lt hk]
 unfold arF
 rw [e1,e2,Nat.add_sub_cancel_left]
 simp [List.getD]
theorem Kb {W w0:yW}{ops:Array Oper}{rest:List Oper}{o:Oper}{a:Act}{Q:Exit→Act→yW→Prop}(hgd:o.guard=none) (d x:Operand) (t e:TypeId) (n:Nat) (by_:Nat) (z:Value)
  (ho:o.op=.call { callee:=.builtin .append,args:=#[d,x],argTypes:=#[t,t] }) (hu:Tryz.prog.underlying t=some (.slice e)) (hi:(Tryz.prog.info? e).map (fun i=>(i.zero,i.size,i.bytes))=some (some z,n,by_)) (hz:z.cells.size=n) (hb:0 < n) (hn1:n≤100) (hby:by_≤1000)
  (y:Array Value) (hy:y.size=n) (hy1:∀ u ∈ y.toList,u.oneCell'=true) {v:Value}{L:List (Array Value)}(hR:RA W w0 e n v L) (hs:a.eval d=v) (hx:a.eval x=.slice (some w0§¢0) 1 1) (hlen:L.length≤1000000000)
  (h:∀ v' w',RA W w' e n v' (L ++ [y])→w0§≤w'§→(∀ b,b < w0§→v.ownBlock≠some b→w'.heap[b]? = w0.heap[b]?)→(v'.ownBlock=v.ownBlock∨∃ g,v'.ownBlock=some g∧w0§ < g)→wpList Tryz.prog ops Q rest (a.put o.dst v') w') :
  wpList Tryz.prog ops Q (o :: rest) a (w0.alloc (.cells y e)):=by
 obtain⟨i0,hi0,hz0,hz1,hz2⟩:=info_parts hi
 refine wpList_append_lies _ hgd d x t ho 0 e i0 _ n by_ hu hi0 hz0 hz1 hz2 hz hb v L.length _ hs (hR.row.alloc _) w0§¢0 1 1 y.toList hx (by rw [Array.length_toList,hy,Nat.one_mul]) (World.news_of_block (Qd w0 _)) hy1 (by decide) (by unfold maxLen; omega) (Nat.le_trans (Nat.mul_le_mul (show L.length+1≤1000000001 by omega) hby) (by decide)) (Nat.zero_le _) _ rfl ?_
 intro g cap w' h2 h3 h4 h5
 have hsz:=Qf w0 (.cells y e)
 have hB0:=hR.B.alloc hR.B.size (.cells y e)
 refine h _ w' ⟨?_,?_,hB0.grown h3 hB0.size (fun k hk=>hR.nb k hk),?_⟩ ?_ ?_ ?_
 ·have hr:=Row.snoc (x:=fun j=>y.getD j undef) h2 (by rw [Array.length_toList,hy]) (fun j hj=>by rw [Array.getElem?_toList,Array.getElem?_eq_getElem (by omega)]; simp [show j < y.size by omega])
  rw [List.length_append,List.length_singleton]
  refine hr.congr fun j hj=>?_
  by_cases hh:j < L.length * n
  ·simp only [hh,if_true]
   rw [arF_lt hb hh]
  ·simp only [hh,if_false]
   rw [arF_at hb (by omega) hj]
 ·intro k hk
  simp [Value.ownBlock] at hk
  subst hk
  rcases h4 with h4 | h4
  ·exact hR.nb _ h4
  ·have:=hR.B.size; omega
 ·intro q hq
  rcases List.mem_append.1 hq with hq | hq
  ·exact hR.sz q hq
  ·obtain rfl:=List.mem_singleton.1 hq; exact hy
 ·have:=h3.size; omega
 ·intro b hb' hne
  rw [h3.block b (by omega) (fun e=>hne e.symm)]
  exact Below.heap_alloc _ _ _ hb'
 ·rcases h4 with h4 | h4
  ·exact .inl h4.symm
  ·exact .inr ⟨g,rfl,by rw [h4,Qf]; omega⟩
theorem RA.sl {W w:yW}{e:TypeId}{n:Nat}{v:Value}{L:List (Array Value)}(h:RA W w e n v L) (hn:0 < n):∃ a c,v=.slice a L.length c∧SlAt w n a c L∧∀ b o,a=some b¢o→W§≤b:=by
 have h':=h.row
 rcases h.row.2 with ⟨rfl,e0⟩ | ⟨g,cap,cur,rfl,_,_,hc1,hc2,_⟩
 ·have:L = []:=List.length_eq_zero_iff.1 e0
  subst this
  exact⟨none,0,rfl,⟨Nat.le_refl _,by decide,fun i hi=>by simp at hi⟩,fun b o h=>by cases h⟩
 ·refine⟨some g¢0,cap,rfl,⟨hc1,hc2,fun i hi=>⟨g,0,rfl,fun j hj=>?_⟩⟩,fun b o h1=>by cases h1; exact h.nb g rfl⟩
  have hij:i * n+j < L.length * n:=by
   have:(i+1) * n≤L.length * n:=Nat.mul_le_mul_right n hi
   rw [Nat.add_mul,Nat.one_mul] at this; omega
  have hc:=Row.cell h' hij
  rw [Nat.zero_add,hc]
  have hs:=h.sz _ (List.getElem_mem hi)
  unfold arF
  rw [show (i * n+j) / n=i by rw [Nat.mul_comm,Nat.mul_add_div hn,Nat.div_eq_of_lt hj]; omega,show (i * n+j) % n=j by rw [Nat.mul_comm,Nat.mul_add_mod,Nat.mod_eq_of_lt hj]]
  simp [List.getD,hi,show j < L[i].size by omega]
theorem SlAt.bk {P:Nat→Prop}{w w':yW}{n:Nat}{a:Option Addr}{c:Nat}{vs:List (Array Value)}(k:∀ b,b < w§→P b→w'.heap[b]? = w.heap[b]?) (h:SlAt w n a c vs) (hz:∀ x ∈ vs,n≤x.size) (hn:0 < n) (hP:∀ x,a=some x→P x.block):SlAt w' n a c vs:=by
 refine⟨h.1,h.2.1,fun i hi=>?_⟩
 obtain⟨b,o,h1,h2⟩:=h.2.2 i hi
 refine⟨b,o,h1,fun j hj=>?_⟩
 have hs:=hz _ (List.getElem_mem hi)
 have h3:=h2 j hj
 rw [Array.getElem?_eq_getElem (by omega)] at h3
 rw [World.cell?_of_block (k b (World.block_lt_of_cell? w _ h3) (hP _ h1))]
 rw [h3,Array.getElem?_eq_getElem (by omega)]
structure Knd {X Y:Type}(vals:X→Array Value) (LX:yW→X→Prop) (BX:(Nat→Prop)→X→Prop) (f:X→Y) (n:Nat):Prop where
 sz:∀ x,(vals x).size=n
 mono:∀ (P Q:Nat→Prop) x,(∀ b,P b→Q b)→BX P x→BX Q x
 bk:∀ (P:Nat→Prop) (w w':yW) x,(∀ b,b < w§→P b→w'.heap[b]? = w.heap[b]?)→LX w x→BX P x→LX w' x
structure Cpl {X Y:Type}(vals:X→Array Value) (LX:yW→X→Prop) (BX:(Nat→Prop)→X→Prop) (f:X→Y) (e:TypeId) (n:Nat) (W wr:yW) (v:Value) (ks L:List X) (i:Nat):Prop where
 l:L.length=i
 r:RA W wr e n v (L.map vals)
 b:L.map f=(ks.take i).map f
 y:∀ x ∈ L,LX wr x∧BX (fun b=>W§≤b∧b < wr§∧v.ownBlock≠some b) x
theorem Cpl.hid {X Y:Type}{vals:X→Array Value}{LX:yW→X→Prop}{BX:(Nat→Prop)→X→Prop}{f:X→Y}{e:TypeId}{n:Nat}{W wr:yW}{v:Value}{ks L:List X}{i:Nat}(h:Cpl vals LX BX f e n W wr v ks L i):Hid (Cpl vals LX BX f e n W wr v ks L i):=h
theorem Cpl.nil {X Y:Type}(vals:X→Array Value) (LX:yW→X→Prop) (BX:(Nat→Prop)→X→Prop) (f:X→Y) (e:TypeId) (n:Nat) {W w:yW}(h:yD W w) (ks:List X):Cpl vals LX BX f e n W w (.slice none 0 0) ks [] 0 :=
 ⟨rfl,RA.nil h e n,rfl,fun x hx=>by cases hx⟩
theorem Cpl.call {X Y:Type}{vals:X→Array Value}{LX:yW→X→Prop}{BX:(Nat→Prop)→X→Prop}{f:X→Y}{e:TypeId}{n:Nat}{W wr w1:yW}{v:Value}{ks L:List X}{i:Nat}(h:Cpl vals LX BX f e n W wr v ks L i) (K:Knd vals LX BX f n) (k:yD wr w1):Cpl vals LX BX f e n W w1 v ks L i :=
 ⟨h.l,h.r.call k,h.b,fun x hx=>⟨K.bk _ _ _ x (fun b hb _=>k.block b hb) (h.y x hx).1 (h.y x hx).2,K.mono _ _ x (fun b hb=>⟨hb.1,Nat.lt_of_lt_of_le hb.2.1 k.size,hb.2.2⟩) (h.y x hx).2⟩⟩
theorem Cpl.snoc {X Y:Type}{vals:X→Array Value}{LX:yW→X→Prop}{BX:(Nat→Prop)→X→Prop}{f:X→Y}{e:TypeId}{n:Nat}{W w0 w1 w2:yW}{v v':Value}{ks L:List X}{i:Nat}{k':X}(h:Cpl vals LX BX f e n W w0 v ks L i) (K:Knd vals LX BX f n) (hi:i < ks.length) (hb1:yD w0 w1) (hk1:LX w1 k') (hk2:f k'=f ks[i]) (hk3:BX (fun b=>w0§≤b∧b < w1§) k')
  (hr:RA W w2 e n v' (L.map vals ++ [vals k'])) (hs:w1§≤w2§) (hk:∀ b,b < w1§→v.ownBlock≠some b→w2.heap[b]? = w1.heap[b]?) (hq:v'.ownBlock=v.ownBlock∨∃ g,v'.ownBlock=some g∧w1§ < g) :
  Cpl vals LX BX f e n W w2 v' ks (L ++ [k']) (i+1):=by
 have hW:=h.r.B.size
 have hS1:=hb1.size
 have hne:∀ b,b < w1§→v.ownBlock≠some b→v'.ownBlock≠some b:=fun b hb hn e=>by
  rcases hq with e1 | ⟨g,e1,hg⟩
  ·exact hn (e1.symm.trans e)
  ·rw [e1] at e; cases e; omega
 have hv:∀ b,w0§≤b→v.ownBlock≠some b:=fun b hb e=>by have:=h.r.row.lt b e; omega
 refine⟨by rw [List.length_append,h.l]; rfl,by rw [List.map_append]; exact hr,?_,fun x hx=>?_⟩
 ·rw [List.map_append,h.b,List.map_singleton,hk2,List.take_succ_eq_append_getElem hi,List.map_append,List.map_singleton]
 ·rcases List.mem_append.1 hx with hx | hx
  ·obtain⟨y1,y2⟩:=(h.call K hb1).y x hx
   exact⟨K.bk _ _ _ x (fun b hb hp=>hk b hb hp.2.2) y1 y2,K.mono _ _ x (fun b hp=>⟨hp.1,by omega,hne b hp.2.1 hp.2.2⟩) y2⟩
  ·obtain rfl:=List.mem_singleton.1 hx
   exact⟨K.bk _ _ _ _ (fun b hb hp=>hk b hb (hv b hp.1)) hk1 hk3,K.mono _ _ _ (fun b hp=>⟨by omega,by omega,hne b hp.2 (hv b hp.1)⟩) hk3⟩
theorem Cpl.all {X Y:Type}{vals:X→Array Value}{LX:yW→X→Prop}{BX:(Nat→Prop)→X→Prop}{f:X→Y}{e:TypeId}{n:Nat}{W wr:yW}{v:Value}{ks L:List X}(h:Cpl vals LX BX f e n W wr v ks L ks.length) (K:Knd vals LX BX f n) (hn:0 < n) :
  ∃ a c,v=.slice a L.length c∧SlAt wr n a c (L.map vals)∧(∀ x,a=some x→W§≤x.block∧x.block < wr§)∧L.map f=ks.map f∧∀ x ∈ L,LX wr x∧BX (fun b=>W§≤b∧b < wr§) x:=by
 have hrow:=h.r.row
 obtain⟨a,c,e1,e2,e3⟩:=h.r.sl hn
 have hb:=h.b
 rw [List.take_length] at hb
 rw [List.length_map] at e1
 refine⟨a,c,e1,e2,fun x hx=>?_,hb,fun x hx=>⟨(h.y x hx).1,K.mono _ _ x (fun b hp=>⟨hp.1,hp.2.1⟩) (h.y x hx).2⟩⟩
 subst e1 hx
 rcases h.r.row.2 with ⟨h1,_⟩ | ⟨g,cap,cur,h1,_⟩
 ·cases h1
 ·simp only [Value.slice.injEq,Option.some.injEq] at h1
  obtain⟨rfl,-,-⟩:=h1
  exact⟨h.r.nb g rfl,h.r.row.lt g rfl⟩
def RuleB (P:Nat→Prop) (r:Qr):Prop:=Bk P r.m∧(∀ x,r.a=some x→P x.block)∧∀ d ∈ r.ds,DoB P d
def JR (P:Nat→Prop) (s:Qj):Prop:=(∀ x,s.a=some x→P x.block)∧∀ r ∈ s.rs,RuleB P r
def RegB (P:Nat→Prop) (r:RegM):Prop:=Bk P r.m
theorem RuleB.mono {P Q:Nat→Prop}(h:∀ b,P b→Q b) {r:Qr}(k:RuleB P r):RuleB Q r:=⟨k.1.mono h,fun x e=>h _ (k.2.1 x e),fun d hd=>(k.2.2 d hd).mono h⟩
theorem JR.mono {P Q:Nat→Prop}(h:∀ b,P b→Q b) {r:Qj}(k:JR P r):JR Q r:=⟨fun x e=>h _ (k.1 x e),fun d hd=>(k.2 d hd).mono h⟩
theorem Jk.bk {P:Nat→Prop}{w w':yW}(k:∀ b,b < w§→P b→w'.heap[b]? = w.heap[b]?) {r:Qr}(h:Jk w r) (hb:RuleB P r):Jk w' r :=
 ⟨h.1.bk k hb.1,h.2.1.bk k (mapz DoM.sz _) (by decide) hb.2.1,fun d hd=>(h.2.2.1 d hd).bk k (hb.2.2 d hd),h.2.2.2⟩
theorem QP.bk {P:Nat→Prop}{w w':yW}(k:∀ b,b < w§→P b→w'.heap[b]? = w.heap[b]?) {r:Qj}(h:QP w r) (hb:JR P r):QP w' r :=
 ⟨h.1.bk k (mapz Qr.sz _) (by decide) hb.1,fun d hd=>(h.2.1 d hd).bk k (hb.2 d hd),h.2.2⟩
theorem kndDo:Knd DoM.vals DoL DoB bDo 36:=⟨DoM.sz,fun P Q x h k=>k.mono h,fun P w w' x k h hb=>h.bk k hb⟩
theorem kndRule:Knd Qr.vals Jk RuleB JH 10:=⟨Qr.sz,fun P Q x h k=>k.mono h,fun P w w' x k h hb=>h.bk k hb⟩
theorem Kx:Knd Qj.vals QP JR Q1 3:=⟨Qj.sz,fun P Q x h k=>k.mono h,fun P w w' x k h hb=>h.bk k hb⟩
theorem kndReg:Knd RegM.vals RegL RegB bReg 11:=⟨RegM.sz,fun P Q x h k=>Bk.mono h k,fun P w w' x k h hb=>⟨h.1.bk k hb,h.2⟩⟩
end Go.Proofs.YtoogodlnnijikaaGreatDoor
