import Derived.Test.YtoogodlnnijikaaGreatDoorA0
import Derived.Test.YtoogodlnnijikaaGreatDoorA20
import Derived.Test.YtoogodlnnijikaaGreatDoorA26
import Derived.Deep.MidRow
import Derived.WalkKit
import Derived.Below
import Derived.Test.YtoogodlnnijikaaGreatDoorA1
import Derived.Deep.Upon
import Derived.Maps.AppendAt
import Derived.Laws.StructEq
namespace Go.Proofs.YtoogodlnnijikaaGreatDoor
open Go.RowKit
set_option linter.unusedVariables false
set_option linter.unusedSimpArgs false
theorem same_id (m k:Nd) (w:World) (hm:Lies w m) (hk:Lies w k) (h:treeOf m=treeOf k):Calls zG 48 #[.agg m.vals,.agg k.vals] w fun e w'=>e=.returned (.bool true)∧Below w§ w w':=by
 have:=some_any m k w hm hk
 unfold Smd at this
 rw [tree_id m k h] at this
 exact this
set_option maxRecDepth 100000 in
set_option maxHeartbeats 8000000 in
theorem sameDo_any (d y:DoM) (w:World) (hd:DoL w d) (hy:DoL w y) (h:d.tr=y.tr):Calls zG 124 #[.agg d.vals,.agg y.vals] w fun e w'=>e=.returned (.bool true)∧Below w§ w w':=by
 obtain⟨k,o,x,s0,s1,s2,s3,p⟩:=d
 obtain⟨k',o',x',t0,t1,t2,t3,p'⟩:=y
 simp only [DoM.tr,DoT.mk.injEq] at h
 obtain⟨rfl,rfl,rfl,h0,h1,h2,h3,rfl⟩:=h
 obtain⟨V,eV⟩:∃ V,(w.alloc (.cells (DoM.mk k o x s0 s1 s2 s3 p).vals 105)).alloc (.cells (DoM.mk k o x t0 t1 t2 t3 p).vals 105)=V:=⟨_,rfl⟩
 have HV:Hid ((w.alloc (.cells (DoM.mk k o x s0 s1 s2 s3 p).vals 105)).alloc (.cells (DoM.mk k o x t0 t1 t2 t3 p).vals 105)=V):=eV
 have HBV:Hid (Below w§ w V):=by show Below _ _ _; rw [← eV]; exact below_two _ _ _
 have HD:Hid (V.heap[w§]? = some (.cells (DoM.mk k o x s0 s1 s2 s3 p).vals 105 (0,0))):=by show _=_; rw [← eV]; exact heap_old (heap_new _ _) (by rw [size_alloc]; omega)
 have HY:Hid (V.heap[w§+1]? = some (.cells (DoM.mk k o x t0 t1 t2 t3 p).vals 105 (0,0))):=by show _=_; rw [← eV,← size_alloc w (.cells (DoM.mk k o x s0 s1 s2 s3 p).vals 105)]; exact heap_new _ _
 have HLL:Hid (DoL w (DoM.mk k o x s0 s1 s2 s3 p)∧DoL w (DoM.mk k o x t0 t1 t2 t3 p)):=⟨hd,hy⟩
 have HT:Hid (treeOf s0=treeOf t0∧treeOf s1=treeOf t1∧treeOf s2=treeOf t2∧treeOf s3=treeOf t3):=⟨h0,h1,h2,h3⟩
 clear hd hy h0 h1 h2 h3 eV
 go_enter Tryz.func124,Tryz.ntmps124
 go_upto_region 1 with fail
 rw [HV.out]
 clear HV
 have c0:=same_id s0 t0 V (HLL.out.1.1.on HBV.out) (HLL.out.2.1.on HBV.out) HT.out.1
 go_upto_region 2 with (first | (refine wpList_load_mid rfl 48 _ rfl w§ 3 rfl s0.vals.toList _ (nd_rng HD.out 3 s0 (do_sd (DoM.mk k o x s0 s1 s2 s3 p))) Tryz.underlying48 rfl (size38 s0) ?_; rw [toArr]) | (refine wpList_load_mid rfl 48 _ rfl (w§+1) 3 rfl t0.vals.toList _ (nd_rng HY.out 3 t0 (do_sd (DoM.mk k o x t0 t1 t2 t3 p))) Tryz.underlying48 rfl (size38 t0) ?_; rw [toArr]) | (go_at_call 48; refine c0.mono ?_; rintro _ v0 ⟨rfl,hb0⟩))
 have HBv0:Hid (Below w§ w v0):=below2 HBV.out hb0
 have HD':Hid (v0.heap[w§]? = some (.cells (DoM.mk k o x s0 s1 s2 s3 p).vals 105 (0,0))):=(hb0.block _ (Array.getElem?_eq_some_iff.1 HD.out).1).trans HD.out
 have HY':Hid (v0.heap[w§+1]? = some (.cells (DoM.mk k o x t0 t1 t2 t3 p).vals 105 (0,0))):=(hb0.block _ (Array.getElem?_eq_some_iff.1 HY.out).1).trans HY.out
 clear c0 hb0 HBV HD HY
 have HD:=HD'
 have HY:=HY'
 clear HD' HY'
 have c1:=same_id s1 t1 v0 (HLL.out.1.2.1.on HBv0.out) (HLL.out.2.2.1.on HBv0.out) HT.out.2.1
 go_upto_region 3 with (first | (refine wpList_load_mid rfl 48 _ rfl w§ 11 rfl s1.vals.toList _ (nd_rng HD.out 11 s1 (do_qt (DoM.mk k o x s0 s1 s2 s3 p))) Tryz.underlying48 rfl (size38 s1) ?_; rw [toArr]) | (refine wpList_load_mid rfl 48 _ rfl (w§+1) 11 rfl t1.vals.toList _ (nd_rng HY.out 11 t1 (do_qt (DoM.mk k o x t0 t1 t2 t3 p))) Tryz.underlying48 rfl (size38 t1) ?_; rw [toArr]) | (go_at_call 48; refine c1.mono ?_; rintro _ v1 ⟨rfl,hb1⟩))
 have HBv1:Hid (Below w§ w v1):=below2 HBv0.out hb1
 have HD':Hid (v1.heap[w§]? = some (.cells (DoM.mk k o x s0 s1 s2 s3 p).vals 105 (0,0))):=(hb1.block _ (Array.getElem?_eq_some_iff.1 HD.out).1).trans HD.out
 have HY':Hid (v1.heap[w§+1]? = some (.cells (DoM.mk k o x t0 t1 t2 t3 p).vals 105 (0,0))):=(hb1.block _ (Array.getElem?_eq_some_iff.1 HY.out).1).trans HY.out
 clear c1 hb1 HBv0 HD HY
 have HD:=HD'
 have HY:=HY'
 clear HD' HY'
 have c2:=same_id s2 t2 v1 (HLL.out.1.2.2.1.on HBv1.out) (HLL.out.2.2.2.1.on HBv1.out) HT.out.2.2.1
 go_upto_region 4 with (first | (refine wpList_load_mid rfl 48 _ rfl w§ 19 rfl s2.vals.toList _ (nd_rng HD.out 19 s2 (do_pr (DoM.mk k o x s0 s1 s2 s3 p))) Tryz.underlying48 rfl (size38 s2) ?_; rw [toArr]) | (refine wpList_load_mid rfl 48 _ rfl (w§+1) 19 rfl t2.vals.toList _ (nd_rng HY.out 19 t2 (do_pr (DoM.mk k o x t0 t1 t2 t3 p))) Tryz.underlying48 rfl (size38 t2) ?_; rw [toArr]) | (go_at_call 48; refine c2.mono ?_; rintro _ v2 ⟨rfl,hb2⟩))
 have HBv2:Hid (Below w§ w v2):=below2 HBv1.out hb2
 have HD':Hid (v2.heap[w§]? = some (.cells (DoM.mk k o x s0 s1 s2 s3 p).vals 105 (0,0))):=(hb2.block _ (Array.getElem?_eq_some_iff.1 HD.out).1).trans HD.out
 have HY':Hid (v2.heap[w§+1]? = some (.cells (DoM.mk k o x t0 t1 t2 t3 p).vals 105 (0,0))):=(hb2.block _ (Array.getElem?_eq_some_iff.1 HY.out).1).trans HY.out
 clear c2 hb2 HBv1 HD HY
 have HD:=HD'
 have HY:=HY'
 clear HD' HY'
 have c3:=same_id s3 t3 v2 (HLL.out.1.2.2.2.1.on HBv2.out) (HLL.out.2.2.2.2.1.on HBv2.out) HT.out.2.2.2
 go_upto_region 5 with (first | (refine wpList_load_mid rfl 48 _ rfl w§ 27 rfl s3.vals.toList _ (nd_rng HD.out 27 s3 (do_vl (DoM.mk k o x s0 s1 s2 s3 p))) Tryz.underlying48 rfl (size38 s3) ?_; rw [toArr]) | (refine wpList_load_mid rfl 48 _ rfl (w§+1) 27 rfl t3.vals.toList _ (nd_rng HY.out 27 t3 (do_vl (DoM.mk k o x t0 t1 t2 t3 p))) Tryz.underlying48 rfl (size38 t3) ?_; rw [toArr]) | (go_at_call 48; refine c3.mono ?_; rintro _ v3 ⟨rfl,hb3⟩))
 have HBv3:Hid (Below w§ w v3):=below2 HBv2.out hb3
 have HD':Hid (v3.heap[w§]? = some (.cells (DoM.mk k o x s0 s1 s2 s3 p).vals 105 (0,0))):=(hb3.block _ (Array.getElem?_eq_some_iff.1 HD.out).1).trans HD.out
 have HY':Hid (v3.heap[w§+1]? = some (.cells (DoM.mk k o x t0 t1 t2 t3 p).vals 105 (0,0))):=(hb3.block _ (Array.getElem?_eq_some_iff.1 HY.out).1).trans HY.out
 clear c3 hb3 HBv2 HD HY
 have HD:=HD'
 have HY:=HY'
 clear HD' HY'
 have a0:v3.cell? ⟨w§,0,none⟩=some (zU k):=cell_of HD.out 0
 have a1:v3.cell? ⟨w§,1,none⟩=some (zU o):=cell_of HD.out 1
 have a2:v3.cell? ⟨w§,2,none⟩=some (.string x):=cell_of HD.out 2
 have a35:v3.cell? ⟨w§,35,none⟩=some (zI p):=cell_of HD.out 35
 have b0:v3.cell? ⟨w§+1,0,none⟩=some (zU k):=cell_of HY.out 0
 have b1:v3.cell? ⟨w§+1,1,none⟩=some (zU o):=cell_of HY.out 1
 have b2:v3.cell? ⟨w§+1,2,none⟩=some (.string x):=cell_of HY.out 2
 have b35:v3.cell? ⟨w§+1,35,none⟩=some (zI p):=cell_of HY.out 35
 go_wp2
 go_ret
 exact⟨rfl,HBv3.out⟩
variable {P : Program}
theorem run_alloc_row (w:World) (ty:TypeId) (C:Array Value) (hz:(P.info? ty).map (·.zero)=some (some (.agg C))) :
  (Instr.alloc ty true (.tuple #[])).run P w=.ok (zP w§) (w.alloc (.cells C ty)):=by
 cases hq:P.info? ty with
 | none=>simp [hq] at hz
 | some i =>
  have hs:i.zero=some (.agg C):=by simpa [hq] using hz
  simp [Instr.alloc,zeroValue,typeInfo,hq,hs,newVar,newRow,Value.cells,go_sem]
theorem wp_alloc_row {op:Oper}{a:Act}{w:World}{K:Act→World→Prop}{Q:Exit→Act→World→Prop}(ty:TypeId) (ho:op.op=.alloc ty) (C:Array Value) (hz:(P.info? ty).map (·.zero)=some (some (.agg C)))
  (h:K (a.put op.dst (zP w§)) (w.alloc (.cells C ty))):op.wp P a w K Q:=by
 unfold Oper.wp execOp
 simp only [ho,Sem.run_bind,run_alloc_row w ty C hz,Result.andThen_ok,Sem.run_pure]
 exact h
theorem mk_any {st et:TypeId}{z:Array Value}{n by_:Nat}(hu:Tryz.prog.underlying st=some (.slice et)) (hi:(Tryz.prog.info? et).map (fun i=>(i.zero,i.size,i.bytes))=some (some (.agg z),n,by_)) (hb:by_≤1000) {m:Nat}(hm:m≤900000000) {M:Int}(hM:(m:Int)+2=M) (W:World) :
  (Instr.makeSlice st (zI M) (zI M)).run Tryz.prog W=.ok (.slice (some ⟨W§,0,none⟩) (m+2) (m+2)) (W.alloc (.cells (madeCells z ((m+2) * n)) et)):=by
 obtain⟨i0,hi0,hz0,hz1,hz2⟩:=info_parts hi
 have hbb:(i0.bytes:Int) * M≤281474976710656:=by
  rw [hz2]
  have h1:(by_:Int) * M≤1000 * M:=Int.mul_le_mul_of_nonneg_right (by omega) (by omega)
  omega
 have:=run_make (P:=Tryz.prog) W st et i0 _ hu hi0 hz0 .i64 .i64 M M (by omega) (Int.le_refl _) hbb (by omega)
 rw [this,hz1,show M.toNat=m+2 by omega]
 rfl
theorem Lrr.put {α:Type}{K:Lkd α}{V:World}{G m:Nat}{L:List α}(h:Lrr K V G m L) (hl:L.length < m) {x:α}(hp:K.P V (G+1) x):Lrr K (V.setCells G (L.length * K.n) (K.f x).toList) G m (L ++ [x]):=by
 have h1:=h.keep (o:=L.length * K.n) (Nat.le_refl _) (K.f x).toList
 have hth:V.there G (L.length * K.n) (K.f x).toList.length:=fun j hj=>by
  have:=h.there hl (o:=0) (n:=K.n) (by omega) j (by rw [Array.length_toList,K.fs] at hj; exact hj)
  simpa using this
 exact h1.snoc (World.rangeAt_setCells_same V G (L.length * K.n) _ hth) (K.blk hp fun b h4 _=>heap_cells _ _ _ _ _ (by omega))
theorem Lrr.fin {α:Type}{K:Lkd α}{V:World}{G m lo:Nat}{L:List α}(h:Lrr K V G m L) (he:L.length=m) (hlo:lo≤G) {mk:Nat}(hm:mk < K.n) (hl:m≤1000000000000):Lrw K (V.setCell ⟨G,m * K.n+mk,none⟩ (zI (-771))) lo (some ⟨G,0,none⟩) (m+2) L mk:=by
 subst he
 exact h.done hlo hm hl
theorem map_take_snoc {α β:Type}{f:α→β}{ks L:List α}{i:Nat}{k:α}(h:L.map f=(ks.map f).take i) (hi:i < ks.length) (hk:f k=f ks[i]):(L ++ [k]).map f=(ks.map f).take (i+1):=by
 rw [List.map_append,h,List.take_add_one,List.getElem?_map,List.getElem?_eq_getElem hi]
 simp [hk]
theorem wpList_new_rowB {P:Program}{ops:Array Oper}{rest:List Oper}{o1 o2:Oper}{a:Act}{w:World}{Q:Exit→Act→World→Prop}(hg1:o1.guard=none) (hg2:o2.guard=none) (ty:TypeId) (h1:o1.op=.alloc ty) (x y:Operand) (h2:o2.op=.store ty x y)
  (C:Array Value) (hz:(P.info? ty).map (·.zero)=some (some (.agg C))) (cells:Array Value) (hi:(P.info? ty).map (·.size)=some cells.size) (hs:C.size=cells.size)
  (hx:(a.put o1.dst (zP w§)).eval x=zP w§) (hy:(a.put o1.dst (zP w§)).eval y=.agg cells) (hc:cells.all (·.oneCell')=true)
  (h:∀ Y,Below w§ w Y∧Y.heap[w§]? = some (.cells cells ty (0,0))∧Y§=w§+1→wpList P ops Q rest ((a.put o1.dst (zP w§)).put o2.dst undef) Y):wpList P ops Q (o1 :: o2 :: rest) a w:=by
 have hb:(w.alloc (.cells C ty)).heap[w§]? = some (.cells C ty (0,0)):=heap_new _ _
 refine wpList_plain hg1 fun _ hK=>wp_alloc_row ty h1 C hz (hK _ _ ?_)
 refine wpList_store_row hg2 ty x y h2 w§ cells hx hy ty C hb hi hs hc (h _ ⟨below_row (below_new _ _) (Nat.le_refl _) _,setRow_heap _ _ _ _ _ _ hb,?_⟩)
 rw [sz_row,size_alloc]
theorem step_store_mid {P:Program}{ops:Array Oper}{o:Oper}{a:Act}{w:World}{K:Act→World→Prop}{Q:Exit→Act→World→Prop}{E:Prop}(hgd:o.guard=none) (ty:TypeId) (x y:Operand) (ho:o.op=.store ty x y)
  (b o':Nat) (cells:Array Value) (hx:a.eval x=.pointer (some ⟨b,o',none⟩)) (hy:a.eval y=.agg cells) (ht:w.there b o' cells.size) (hi:(P.info? ty).map (·.size)=some cells.size) (h1:cells.all (·.oneCell')=true)
  (h:K (a.put o.dst undef) (w.setCells b o' cells.toList)):if Region.wanted o (yielded ops a.tmps)=true then Oper.wp P o a w K Q else E:=by
 have hw:Region.wanted o (yielded ops a.tmps)=true:=by unfold Region.wanted; rw [hgd]
 rw [if_pos hw]
 exact wp_store_mid ty x y ho b o' cells hx hy ht hi h1 h
theorem step_store_row {P:Program}{ops:Array Oper}{o:Oper}{a:Act}{w:World}{K:Act→World→Prop}{Q:Exit→Act→World→Prop}{E:Prop}(hgd:o.guard=none) (ty:TypeId) (x y:Operand) (ho:o.op=.store ty x y)
  (g:Nat) (cells:Array Value) (hx:a.eval x=zP g) (hy:a.eval y=.agg cells) (t:TypeId) (old:Array Value) (hg:w.heap[g]? = some (.cells old t (0,0))) (hi:(P.info? ty).map (·.size)=some cells.size)
  (hold:old.size=cells.size) (h1:cells.all (·.oneCell')=true)
  (h:K (a.put o.dst undef) (w.setRow g cells)):if Region.wanted o (yielded ops a.tmps)=true then Oper.wp P o a w K Q else E:=by
 have hw:Region.wanted o (yielded ops a.tmps)=true:=by unfold Region.wanted; rw [hgd]
 rw [if_pos hw]
 exact wp_store_row ty x y ho g cells hx hy t old hg hi hold h1 h
theorem zero105q:(Tryz.prog.info? 105).map (·.zero)=some (some (.agg (doA 0 0 ⟨#[]⟩ nd0T nd0T nd0T nd0T 0))):=by kernel_rfl
theorem map_at {α β:Type}{f:α→β}{l l':List α}(h:l.map f=l'.map f) {i:Nat}(h1:i < l.length) (h2:i < l'.length):f l[i]=f l'[i]:=by
 have e:(l.map f)[i]? = (l'.map f)[i]?:=by rw [h]
 rw [List.getElem?_map,List.getElem?_map,List.getElem?_eq_getElem h1,List.getElem?_eq_getElem h2] at e
 exact Option.some.inj e
theorem rng_at {α:Type}{f:α→Array Value}{n:Nat}(hf:∀ x,(f x).size=n) {w:World}{b o:Nat}{c:Nat}{l:List α}(h:SlAt w n (some ⟨b,o,none⟩) c (l.map f)) {i:Nat}(hi:i < l.length):w.rangeAt b (o+i * n) (f l[i]).toList:=by
 obtain⟨b',o',e,hat⟩:=h.2.2 i (by rw [List.length_map]; exact hi)
 cases e
 intro j v hv
 have hj:j < n:=by have:=(List.getElem?_eq_some_iff.1 hv).1; rw [Array.length_toList,hf] at this; exact this
 have:=hat j hj
 rw [List.getElem_map] at this
 rw [this,← hv]; simp
theorem sl_addr {w:World}{n c:Nat}{a:Option Addr}{vs:List (Array Value)}(h:SlAt w n a c vs) {i:Nat}(hi:i < vs.length):∃ b o,a=some ⟨b,o,none⟩:=by
 obtain⟨b,o,e,_⟩:=h.2.2 i hi
 exact⟨b,o,e⟩
set_option maxRecDepth 100000 in
set_option maxHeartbeats 16000000 in
theorem sameState_any (s y:StateM) (w:World) (hs:StateL w s) (hy:StateL w y) (h:s.tr=y.tr) (hn:s.rs.length≤900000000) (hnd:∀ r ∈ s.rs,r.ds.length≤900000000):Calls zG 86 #[.agg s.vals,.agg y.vals] w fun e w'=>e=.returned (.bool true)∧Below w§ w w':=by
 obtain⟨x,a,c,rs,p⟩:=s
 obtain⟨x',a',c',rs',p'⟩:=y
 simp only [StateM.tr,StateT.mk.injEq] at h
 obtain⟨rfl,hrs,rfl⟩:=h
 have hlen:rs.length=rs'.length:=by have:=congrArg List.length hrs; simpa using this
 obtain⟨V,eV⟩:∃ V,(w.alloc (.cells #[.string x,.slice a rs.length c,zI p] 68)).alloc (.cells #[.string x,.slice a' rs.length c',zI p] 68)=V:=⟨_,rfl⟩
 have HV:Hid ((w.alloc (.cells #[.string x,.slice a rs.length c,zI p] 68)).alloc (.cells #[.string x,.slice a' rs.length c',zI p] 68)=V):=eV
 have HBV:Hid (Below w§ w V):=by show Below _ _ _; rw [← eV]; exact below_two _ _ _
 have HD:Hid (V.heap[w§]? = some (.cells #[.string x,.slice a rs.length c,zI p] 68 (0,0))):=by show _=_; rw [← eV]; exact heap_old (heap_new _ _) (by rw [size_alloc]; omega)
 have HY:Hid (V.heap[w§+1]? = some (.cells #[.string x,.slice a' rs.length c',zI p] 68 (0,0))):=by show _=_; rw [← eV,← size_alloc w (.cells #[.string x,.slice a rs.length c,zI p] 68)]; exact heap_new _ _
 have HSL:Hid (SlAt V 10 a c (rs.map RuleM.vals)∧SlAt V 10 a' c' (rs'.map RuleM.vals)):=⟨hs.1.on (mapz RuleM.sz _) HBV.out,hy.1.on (mapz RuleM.sz _) HBV.out⟩
 have HRL:Hid ((∀ r ∈ rs,RuleL V r)∧∀ r ∈ rs',RuleL V r):=⟨fun r hr=>(hs.2.1 r hr).on HBV.out,fun r hr=>(hy.2.1 r hr).on HBV.out⟩
 have HLE:Hid (rs.length=rs'.length∧rs.map RuleM.tr=rs'.map RuleM.tr):=⟨hlen,hrs⟩
 have HN:Hid (rs.length≤900000000∧∀ r ∈ rs,r.ds.length≤900000000):=⟨hn,hnd⟩
 have a0:V.cell? ⟨w§,0,none⟩=some (.string x):=cell_of HD.out 0
 have a1:V.cell? ⟨w§,1,none⟩=some (.slice a rs.length c):=cell_of HD.out 1
 have a2:V.cell? ⟨w§,2,none⟩=some (zI p):=cell_of HD.out 2
 have b0:V.cell? ⟨w§+1,0,none⟩=some (.string x):=cell_of HY.out 0
 have b1:V.cell? ⟨w§+1,1,none⟩=some (.slice a' rs.length c'):=cell_of HY.out 1
 have b2:V.cell? ⟨w§+1,2,none⟩=some (zI p):=cell_of HY.out 2
 show Calls zG 86 #[.agg #[.string x,.slice a rs.length c,zI p],.agg #[.string x,.slice a' rs'.length c',zI p]] w _
 rw [← hlen]
 clear hs hy hn hnd eV hrs hlen
 go_enter Tryz.func86,Tryz.ntmps86
 go_upto_region 1 with fail
 rw [HV.out]
 clear HV
 go_upto_region 3 with fail
 clear a0 a1 a2 b0 b1 b2
 go_wp2_with fail
 go_loopw [5] (fun t wr=>∃ i:Nat,i≤rs.length∧t=zI i∧Hid (Below V§ V wr)) (fun t _=>rs.length - (intOf t).toNat)
 case atStart=>exact⟨0,by omega,rfl,Below.refl _ _⟩
 case round =>
  obtain⟨i,hi,rfl,HBR⟩:=hrel
  have HDr:Hid (wr.heap[w§]? = some (.cells #[.string x,.slice a rs.length c,zI p] 68 (0,0))):=(HBR.out.block _ (Array.getElem?_eq_some_iff.1 HD.out).1).trans HD.out
  have HYr:Hid (wr.heap[w§+1]? = some (.cells #[.string x,.slice a' rs.length c',zI p] 68 (0,0))):=(HBR.out.block _ (Array.getElem?_eq_some_iff.1 HY.out).1).trans HY.out
  have a1:wr.cell? ⟨w§,1,none⟩=some (.slice a rs.length c):=cell_of HDr.out 1
  have b1:wr.cell? ⟨w§+1,1,none⟩=some (.slice a' rs.length c'):=cell_of HYr.out 1
  by_cases hlt:i < rs.length
  ·have hlt':(i:Int) < (rs.length:Int):=by omega
   have hlt2:i < rs'.length:=by rw [← HLE.out.1]; exact hlt
   obtain⟨b,o,ea⟩:=sl_addr HSL.out.1 (i:=i) (by rw [List.length_map]; exact hlt)
   obtain⟨b',o',ea'⟩:=sl_addr HSL.out.2 (i:=i) (by rw [List.length_map]; exact hlt2)
   subst ea ea'
   have hR:=rng_at RuleM.sz (HSL.out.1.on (mapz RuleM.sz _) HBR.out) hlt
   have hR':=rng_at RuleM.sz (HSL.out.2.on (mapz RuleM.sz _) HBR.out) hlt2
   have hTR:=map_at HLE.out.2 hlt hlt2
   have hDL:=(HRL.out.1 _ (List.getElem_mem hlt)).on HBR.out
   have hYL:=(HRL.out.2 _ (List.getElem_mem hlt2)).on HBR.out
   have hND:=HN.out.2 _ (List.getElem_mem hlt)
   obtain⟨d,ed⟩:∃ d,rs[i]=d:=⟨_,rfl⟩
   obtain⟨y,ey⟩:∃ d,rs'[i]=d:=⟨_,rfl⟩
   rw [ed] at hR hTR hDL hND
   rw [ey] at hR' hTR hYL
   have HR:Hid (wr.rangeAt b (o+i * 10) d.vals.toList∧wr.rangeAt b' (o'+i * 10) y.vals.toList):=⟨hR,hR'⟩
   have HTR:Hid (treeOf d.m=treeOf y.m∧d.ds.map DoM.tr=y.ds.map DoM.tr∧d.p=y.p):=by
    simp only [RuleM.tr,RuleT.mk.injEq] at hTR
    exact⟨hTR.1,hTR.2.1,hTR.2.2⟩
   have HRR:Hid (RuleL wr d∧RuleL wr y∧d.ds.length≤900000000):=⟨hDL,hYL,hND⟩
   clear hR hR' hTR hDL hYL hND ed ey
   have HZ0:Hid ((wr.alloc (.cells #[zU 0,zU 0,zU 0,zI 0,zU 0,.string ⟨#[]⟩,.slice none 0 0,zI 0,.slice none 0 0,zI 0] 92)).heap[wr§]? = some (.cells #[zU 0,zU 0,zU 0,zI 0,zU 0,.string ⟨#[]⟩,.slice none 0 0,zI 0,.slice none 0 0,zI 0] 92 (0,0))):=heap_new _ _
   have HU0:Hid (Below wr§ wr ((wr.alloc (.cells #[zU 0,zU 0,zU 0,zI 0,zU 0,.string ⟨#[]⟩,.slice none 0 0,zI 0,.slice none 0 0,zI 0] 92)).setRow wr§ d.vals)∧((wr.alloc (.cells #[zU 0,zU 0,zU 0,zI 0,zU 0,.string ⟨#[]⟩,.slice none 0 0,zI 0,.slice none 0 0,zI 0] 92)).setRow wr§ d.vals).heap[wr§]? = some (.cells d.vals 92 (0,0))∧((wr.alloc (.cells #[zU 0,zU 0,zU 0,zI 0,zU 0,.string ⟨#[]⟩,.slice none 0 0,zI 0,.slice none 0 0,zI 0] 92)).setRow wr§ d.vals)§=wr§+1):=⟨below_row (below_new _ _) (Nat.le_refl _) _,setRow_heap _ _ _ _ _ _ HZ0.out,by rw [sz_row,size_alloc]⟩
   go_upto_region 7 with (first | (refine wpList_load_mid rfl 92 (.tmp 42) rfl b (o+i * 10) rfl d.vals.toList _ HR.out.1 Tryz.underlying92 rfl (by show _=some 10; exact size106') ?_; rw [Array.toArray_toList]) | (refine wpList_store_row rfl 92 (.tmp 6) (.tmp 43) rfl wr§ d.vals rfl rfl 92 #[zU 0,zU 0,zU 0,zI 0,zU 0,.string ⟨#[]⟩,.slice none 0 0,zI 0,.slice none 0 0,zI 0] HZ0.out size106' rfl (all10' d) ?_))
   generalize World.setRow _ _ _=U0 at HU0 ⊢
   clear HZ0
   have hu0:=HU0.out
   have HYu:Hid (U0.heap[w§+1]? = some (.cells #[.string x,.slice (some ⟨b',o',none⟩) rs.length c',zI p] 68 (0,0))):=(hu0.1.block _ (Array.getElem?_eq_some_iff.1 HYr.out).1).trans HYr.out
   have HR2:Hid (U0.rangeAt b' (o'+i * 10) y.vals.toList):=fun j v hv=>by
    have h2:=HR.out.2 j v hv
    rw [World.cell?_of_block (hu0.1.block b' (World.block_lt_of_cell? wr _ h2))]; exact h2
   clear hu0 a1 b1
   have b1:U0.cell? ⟨w§+1,1,none⟩=some (.slice (some ⟨b',o',none⟩) rs.length c'):=cell_of HYu.out 1
   have HZ1:Hid ((U0.alloc (.cells #[zU 0,zU 0,zU 0,zI 0,zU 0,.string ⟨#[]⟩,.slice none 0 0,zI 0,.slice none 0 0,zI 0] 92)).heap[U0§]? = some (.cells #[zU 0,zU 0,zU 0,zI 0,zU 0,.string ⟨#[]⟩,.slice none 0 0,zI 0,.slice none 0 0,zI 0] 92 (0,0))):=heap_new _ _
   have HU1:Hid (Below U0§ U0 ((U0.alloc (.cells #[zU 0,zU 0,zU 0,zI 0,zU 0,.string ⟨#[]⟩,.slice none 0 0,zI 0,.slice none 0 0,zI 0] 92)).setRow U0§ y.vals)∧((U0.alloc (.cells #[zU 0,zU 0,zU 0,zI 0,zU 0,.string ⟨#[]⟩,.slice none 0 0,zI 0,.slice none 0 0,zI 0] 92)).setRow U0§ y.vals).heap[U0§]? = some (.cells y.vals 92 (0,0))):=⟨below_row (below_new _ _) (Nat.le_refl _) _,setRow_heap _ _ _ _ _ _ HZ1.out⟩
   go_upto_region 8 with (first | (refine wpList_load_mid rfl 92 (.tmp 47) rfl b' (o'+i * 10) rfl y.vals.toList _ HR2.out Tryz.underlying92 rfl (by show _=some 10; exact size106') ?_; rw [Array.toArray_toList]) | (refine wpList_store_row rfl 92 (.tmp 7) (.tmp 48) rfl U0§ y.vals rfl rfl 92 #[zU 0,zU 0,zU 0,zI 0,zU 0,.string ⟨#[]⟩,.slice none 0 0,zI 0,.slice none 0 0,zI 0] HZ1.out size106' rfl (all10' y) ?_))
   generalize World.setRow _ _ _=U1 at HU1 ⊢
   clear HZ1
   have hu1:=HU1.out
   have HBU:Hid (Below wr§ wr U1):=below2 HU0.out.1 hu1.1
   have HB1:Hid (U1.heap[wr§]? = some (.cells d.vals 92 (0,0))∧U1.heap[wr§+1]? = some (.cells y.vals 92 (0,0))):=⟨(hu1.1.block _ (Array.getElem?_eq_some_iff.1 HU0.out.2.1).1).trans HU0.out.2.1,by rw [← HU0.out.2.2]; exact hu1.2⟩
   rw [HU0.out.2.2]
   clear hu1 HU1 b1 HR HR2 HYu
   obtain⟨N,eN⟩:∃ q,wr§=q:=⟨_,rfl⟩
   rw [eN] at HB1 ⊢
   have HEN:Hid (wr§=N):=eN
   clear eN
   have cN:=same_id d.m y.m U1 (HRR.out.1.1.on HBU.out) (HRR.out.2.1.1.on HBU.out) HTR.out.1
   go_upto_region 9 with (first | (refine wpList_load_mid rfl 48 (.tmp 49) rfl N 0 rfl d.m.vals.toList _ (nd_rng HB1.out.1 0 d.m (rule_m d)) Tryz.underlying48 rfl (size38 d.m) ?_; rw [toArr]) | (refine wpList_load_mid rfl 48 (.tmp 51) rfl (N+1) 0 rfl y.m.vals.toList _ (nd_rng HB1.out.2 0 y.m (rule_m y)) Tryz.underlying48 rfl (size38 y.m) ?_; rw [toArr]) | (go_at_call 48; refine cN.mono ?_; rintro _ U2 ⟨rfl,hb2⟩))
   have HBU2:Hid (Below wr§ wr U2):=below2 HBU.out hb2
   have HB2:Hid (U2.heap[N]? = some (.cells d.vals 92 (0,0))∧U2.heap[N+1]? = some (.cells y.vals 92 (0,0))):=⟨(hb2.block _ (Array.getElem?_eq_some_iff.1 HB1.out.1).1).trans HB1.out.1,(hb2.block _ (Array.getElem?_eq_some_iff.1 HB1.out.2).1).trans HB1.out.2⟩
   clear cN hb2 HB1 HBU HU0
   have hl9:d.ds.length=y.ds.length:=by have:=congrArg List.length HTR.out.2.1; simpa using this
   have a8:U2.cell? ⟨N,8,none⟩=some (.slice d.a d.ds.length d.c):=cell_of HB2.out.1 8
   have a9:U2.cell? ⟨N,9,none⟩=some (zI d.p):=cell_of HB2.out.1 9
   have b8:U2.cell? ⟨N+1,8,none⟩=some (.slice y.a d.ds.length y.c):=by rw [hl9]; exact cell_of HB2.out.2 8
   have b9:U2.cell? ⟨N+1,9,none⟩=some (zI d.p):=by rw [HTR.out.2.2]; exact cell_of HB2.out.2 9
   have HL9:Hid (d.ds.length=y.ds.length):=hl9
   clear hl9
   go_upto_region 11 with fail
   clear a8 a9 b8 b9
   have HBRo:=HBR
   go_upto_region 12 with fail
   go_loopw [9] (fun t wr2=>∃ k:Nat,k≤d.ds.length∧t=zI k∧Hid (Below U2§ U2 wr2)) (fun t _=>d.ds.length - (intOf t).toNat)
   case atStart=>exact⟨0,by omega,rfl,Below.refl _ _⟩
   case round =>
    obtain⟨k,hk,rfl,HBK⟩:=hrel
    have HBk:Hid (wr.heap[N]? = some (.cells d.vals 92 (0,0))∧wr.heap[N+1]? = some (.cells y.vals 92 (0,0))):=⟨(HBK.out.block _ (Array.getElem?_eq_some_iff.1 HB2.out.1).1).trans HB2.out.1,(HBK.out.block _ (Array.getElem?_eq_some_iff.1 HB2.out.2).1).trans HB2.out.2⟩
    have a8:wr.cell? ⟨N,8,none⟩=some (.slice d.a d.ds.length d.c):=cell_of HBk.out.1 8
    by_cases hltk:k < d.ds.length
    ·have hltk':(k:Int) < (d.ds.length:Int):=by omega
     have hlt2:k < y.ds.length:=by rw [← HL9.out]; exact hltk
     have hlt2':(k:Int) < (y.ds.length:Int):=by omega
     obtain⟨b3,o3,ea⟩:=sl_addr HRR.out.1.2.1 (i:=k) (by rw [List.length_map]; exact hltk)
     obtain⟨b4,o4,ea'⟩:=sl_addr HRR.out.2.1.2.1 (i:=k) (by rw [List.length_map]; exact hlt2)
     have hBW:=below2 HBU2.out HBK.out
     have hsl:=HRR.out.1.2.1.on (mapz DoM.sz _) hBW
     have hsl':=HRR.out.2.1.2.1.on (mapz DoM.sz _) hBW
     rw [ea] at hsl
     rw [ea'] at hsl'
     have HR:Hid (wr.rangeAt b3 (o3+k * 36) d.ds[k].vals.toList∧wr.rangeAt b4 (o4+k * 36) y.ds[k].vals.toList):=⟨rng_at DoM.sz hsl hltk,rng_at DoM.sz hsl' hlt2⟩
     have hTD:=map_at HTR.out.2.1 hltk hlt2
     have cS:=sameDo_any d.ds[k] y.ds[k] wr.drew (((HRR.out.1.2.2.1 _ (List.getElem_mem hltk)).on hBW).on ⟨rfl,rfl,rfl,Nat.le_refl _,fun _ _=>rfl⟩) (((HRR.out.2.1.2.2.1 _ (List.getElem_mem hlt2)).on hBW).on ⟨rfl,rfl,rfl,Nat.le_refl _,fun _ _=>rfl⟩) hTD
     have HEA:Hid (d.a=some ⟨b3,o3,none⟩∧y.a=some ⟨b4,o4,none⟩):=⟨ea,ea'⟩
     obtain⟨q,eq⟩:∃ q,d.ds[k]=q:=⟨_,rfl⟩
     obtain⟨r,er⟩:∃ q,y.ds[k]=q:=⟨_,rfl⟩
     rw [eq] at HR cS
     rw [er] at HR cS
     rw [ea] at a8
     have HN1:Hid (wr.cell? ⟨N,8,none⟩=some (.slice (some ⟨b3,o3,none⟩) d.ds.length d.c)∧wr.cell? ⟨N+1,8,none⟩=some (.slice (some ⟨b4,o4,none⟩) y.ds.length y.c)):=⟨a8,by rw [← ea']; exact cell_of HBk.out.2 8⟩
     have HSK:Hid (∀ v,Below wr§ wr v→v.cell? ⟨N,8,none⟩=some (.slice (some ⟨b3,o3,none⟩) d.ds.length d.c)∧v.cell? ⟨N+1,8,none⟩=some (.slice (some ⟨b4,o4,none⟩) y.ds.length y.c)∧v.rangeAt b3 (o3+k * 36) q.vals.toList∧v.rangeAt b4 (o4+k * 36) r.vals.toList):=fun v hv=>by
      have e1:=hv.block N (World.block_lt_of_cell? wr _ HN1.out.1)
      have e2:=hv.block (N+1) (World.block_lt_of_cell? wr _ HN1.out.2)
      refine⟨(World.cell?_of_block e1).trans HN1.out.1,(World.cell?_of_block e2).trans HN1.out.2,fun j u hj=>?_,fun j u hj=>?_⟩
      ·have h:=HR.out.1 j u hj
       exact (World.cell?_of_block (hv.block _ (World.block_lt_of_cell? wr _ h))).trans h
      ·have h:=HR.out.2 j u hj
       exact (World.cell?_of_block (hv.block _ (World.block_lt_of_cell? wr _ h))).trans h
     clear hTD hBW hsl hsl' ea ea' eq er
     go_upto_region 14 with fail
     clear a8
     refine (?_:∀ Q',Hid (Q'=_)→Code.wp _ _ Q' _ _) _ rfl
     intro Q' HQ'
     have HPn:Hid (∀ p (d:Nat) v a w,Q' (.panic p) (Act.put a (some d) v) w→Q' (.panic p) a w):=by rw [HQ'.out]; exact fun _ _ _ _ _ h=>h
     refine wp_region_held_drew (S:=fun v=>Below wr§ wr v) zK ⟨rfl,rfl,rfl,Nat.le_refl _,fun _ _=>rfl⟩ (fun hHeld=>?_)
     refine wpAnyH_take (i:=0) (v:=?_) rfl zK zK zK (fun c a w h=>HPn.out c _ _ a w h) (Or.inl ⟨by rfl,?_⟩) (by assumption) ?_
     rotate_left
     ·(intro v hv; go_simp; try (with_reducible rfl))
     try simp [Act.put]
     refine wpAnyH_take (i:=1) (v:=?_) rfl zK zK zK (fun c a w h=>HPn.out c _ _ a w h) (Or.inl ⟨by rfl,?_⟩) (by assumption) ?_
     rotate_left
     ·(intro v hv; have t1:=(HSK.out v hv).1; go_simp; try (with_reducible rfl))
     try simp [Act.put]
     refine wpAnyH_take (i:=2) (v:=?_) rfl zK zK zK (fun c a w h=>HPn.out c _ _ a w h) (Or.inl ⟨by rfl,?_⟩) (by assumption) ?_
     rotate_left
     ·(intro v hv; go_simp; try (with_reducible rfl))
     try simp [Act.put]
     refine wpAnyH_take (i:=3) (v:=?_) rfl zK zK zK (fun c a w h=>HPn.out c _ _ a w h) (Or.inl ⟨by rfl,?_⟩) (by assumption) ?_
     rotate_left
     ·(intro v hv; go_simp; try (with_reducible rfl))
     try simp [Act.put]
     refine wpAnyH_take (i:=4) (v:=.agg q.vals.toList.toArray) rfl zK zK zK (fun c a w h=>HPn.out c _ _ a w h) (yieldsIf_load_mid (by rfl) 105 (.tmp 82) rfl b3 (o3+k * 36) rfl q.vals.toList _ (fun v hv=>(HSK.out v hv).2.2.1) Tryz.underlying105 rfl size110') (by assumption) ?_
     rw [show (q.vals.toList.toArray:Array Value)=q.vals from by simp]
     try simp [Act.put]
     refine wpAnyH_take (i:=5) (v:=?_) rfl zK zK zK (fun c a w h=>HPn.out c _ _ a w h) (Or.inl ⟨by rfl,?_⟩) (by assumption) ?_
     rotate_left
     ·(intro v hv; go_simp; try (with_reducible rfl))
     try simp [Act.put]
     refine wpAnyH_take (i:=6) (v:=?_) rfl zK zK zK (fun c a w h=>HPn.out c _ _ a w h) (Or.inl ⟨by rfl,?_⟩) (by assumption) ?_
     rotate_left
     ·(intro v hv; have t1:=(HSK.out v hv).2.1; go_simp; try (with_reducible rfl))
     try simp [Act.put]
     refine wpAnyH_take (i:=7) (v:=?_) rfl zK zK zK (fun c a w h=>HPn.out c _ _ a w h) (Or.inl ⟨by rfl,?_⟩) (by assumption) ?_
     rotate_left
     ·(intro v hv; go_simp; try (with_reducible rfl))
     try simp [Act.put]
     refine wpAnyH_take (i:=8) (v:=?_) rfl zK zK zK (fun c a w h=>HPn.out c _ _ a w h) (Or.inl ⟨by rfl,?_⟩) (by assumption) ?_
     rotate_left
     ·(intro v hv; go_simp; try (with_reducible rfl))
     try simp [Act.put]
     refine wpAnyH_take (i:=9) (v:=.agg r.vals.toList.toArray) rfl zK zK zK (fun c a w h=>HPn.out c _ _ a w h) (yieldsIf_load_mid (by rfl) 105 (.tmp 87) rfl b4 (o4+k * 36) rfl r.vals.toList _ (fun v hv=>(HSK.out v hv).2.2.2) Tryz.underlying105 rfl size110') (by assumption) ?_
     rw [show (r.vals.toList.toArray:Array Value)=r.vals from by simp]
     try simp [Act.put]
     refine wpAnyH_ready (rs:=[10]) zK (by simp) ?_
     refine AllReadyH.cons rfl (fun Kx hK=>?_) AllReadyH.nil
     go_simp
     refine cS.mono ?_
     rintro _ w1 ⟨rfl,hb1⟩
     have HB9:Hid (Below wr§ wr w1):=below2 (show Below wr§ wr wr.drew from ⟨rfl,rfl,rfl,Nat.le_refl _,fun _ _=>rfl⟩) hb1
     refine hK.out _ _ HB9.out (fun hHeld=>?_)
     clear hK Kx hb1 cS
     try simp [Act.put]
     refine wpAnyH_take (i:=11) (v:=?_) rfl zK zK zK (fun c a w h=>HPn.out c _ _ a w h) (Or.inl ⟨by rfl,?_⟩) (by assumption) ?_
     rotate_left
     ·(intro v hv; go_simp; try (with_reducible rfl))
     try simp [Act.put]
     refine wpAnyH_done zK ?_ _
     rw [HQ'.out]
     clear HQ' HPn Q'
     have HBZ:Hid (Below U2§ U2 w1):=below2 HBK.out HB9.out
     clear HSK HN1 HR HEA
     have hmx:(k:Int)+1≤9223372036854775807:=by have:=HRR.out.2.2; omega
     go_wp2_with fail
     exact⟨⟨k+1,hltk,rfl,HBZ⟩,by simp only [intOf]; omega⟩
    ·obtain rfl:k=d.ds.length:=by omega
     have hnotk:¬ (d.ds.length:Int) < (d.ds.length:Int):=by omega
     have HBZ:Hid (Below V§ V wr):=below2 HBRo.out (below2 HBU2.out HBK.out)
     have hmx:(i:Int)+1≤9223372036854775807:=by have:=HN.out.1; omega
     go_wp2_with fail
     exact⟨⟨i+1,hlt,rfl,HBZ⟩,by simp only [intOf]; omega⟩
  ·obtain rfl:i=rs.length:=by omega
   have hnot:¬ (rs.length:Int) < (rs.length:Int):=by omega
   go_wp2_with fail
   go_ret
   exact⟨rfl,below2 HBV.out HBR.out⟩
def StratZ9 (S:StratM):Prop:=S.rs.length≤900000000∧(∀ r ∈ S.rs,size r.m≤900000000)∧S.ss.length≤900000000∧S.ts.length≤900000000∧∀ s ∈ S.ts,StateZ9 s
theorem size27s:(Tryz.prog.info? 27).map (·.size)=some 4:=by kernel_rfl
theorem size62s:(Tryz.prog.info? 62).map (·.size)=some 11:=by kernel_rfl
theorem eqF_cons {w : World} {d : Nat} {xs ys : Array Value} {f : Field} {fs : List Field} {a b : Value} {r : Bool} (hn : f.name ≠ "_") (ha : (part f.type xs f.offset).run Tryz.prog w = .ok a w) (hb : (part f.type ys f.offset).run Tryz.prog w = .ok b w) (hr : (Op.equalIn d f.type a b).run Tryz.prog w = .ok r w) : (Op.eqFields d xs ys (f :: fs)).run Tryz.prog w = if r then (Op.eqFields d xs ys fs).run Tryz.prog w else .ok false w := by
 have e : Op.eqFields d xs ys (f :: fs) = (if f.name ≠ "_" then do
   let a ← part f.type xs f.offset
   let b ← part f.type ys f.offset
   let r ← Op.equalIn d f.type a b
   if (!r)=true then pure false else Op.eqFields d xs ys fs
  else Op.eqFields d xs ys fs):=rfl
 rw [e,if_pos hn]
 clear e
 simp only [Sem.run_bind,ha,hb,hr,Result.andThen_ok,Sem.run_ite,Sem.run_pure]
 cases r <;> simp
theorem size65s:(Tryz.prog.info? 65).map (·.size)=some 2:=by kernel_rfl
set_option maxRecDepth 100000 in
theorem eq65s (x:ByteArray) (p:Int) (w:World):(Op.equalIn 10000 65 (.agg #[.string x,zI p]) (.agg #[.string x,zI p])).run Tryz.prog w=.ok true w:=by
 rw [run_equalIn_struct _ 9999 65 _ _ zK zK]
 simp only [Program.fieldsOf,Tryz.underlying65]
 have e1:(Op.equalIn 9999 9 (.string x) (.string x)).run Tryz.prog w=.ok true w:=by
  rw [run_equalIn_string w 9998 9 x x Tryz.underlying9]; simp
 have e2:(Op.equalIn 9999 3 (zI p) (zI p)).run Tryz.prog w=.ok true w:=by
  rw [run_equalIn_int w 9998 3 .i64 .i64 p p Tryz.underlying3]; simp
 rw [eqF_cons (a:=.string x) (b:=.string x) (r:=true) (by decide) zK zK e1]
 rw [eqF_cons (a:=zI p) (b:=zI p) (r:=true) (by decide) zK zK e2]
 rfl
end Go.Proofs.YtoogodlnnijikaaGreatDoor
