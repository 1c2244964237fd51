import Derived.Test.YtkfabnchhjfjjaaGreatDoorA0
import Derived.Test.YtkfabnchhjfjjaaGreatDoorA3
import Derived.Test.YtkfabnchhjfjjaaGreatDoorA2
import Derived.Laws.EntriesVeiled
namespace Go.Proofs.YtkfabnchhjfjjaaGreatDoor
set_option maxRecDepth 1000000
set_option maxHeartbeats 8000000
open Go.RowKit Go.Shelf
set_option linter.unusedVariables false
attribute [local go_sem] Oper.semAt_some
theorem Mv.toBelow {w w':World}(h:Mv w w' (fun _=>False)):Below w§ w w':=h.below (Nat.le_refl _) (fun _ e=>e.elim)
def dmark (D:Nat):Deferred:={ target:=.collected D,args:=#[] }
theorem leaves_marks {fn:Func}{tmps:Array Value}{R:Ending→World→Prop}{v:Value}(Ds:List Nat):∀ (W:World),Ds.Nodup→(∀ D,D ∈ Ds→W.heap[D]? = some (.deferred (some []))) →
  (∀ W',Mv W W' (fun k=>k ∈ Ds)→(results fn tmps).run Tryz.prog W'=.ok v W'∧R (.returned v) W')→LeavesInM Fence.wide 3 Tryz.prog fn tmps R (Ds.map dmark) .returning W:=by
 induction Ds with
 | nil=>intro W _ _ h; exact⟨v,(h W (Mv.refl _ _)).1,(h W (Mv.refl _ _)).2⟩
 | cons D Ds ih =>
  intro W hnd hD h
  rw [List.nodup_cons] at hnd
  have h0:=hD D (by simp)
  refine⟨by simp,.inl ⟨D,_,rfl,run_takeDeferred h0,?_⟩⟩
  have hput:Mv W (W.putObj D (.deferred none)) (fun k=>k=D):=⟨rfl,rfl,rfl,by simp,fun k _ hk=>World.putObj_heap_other (fun e=>hk e)⟩
  refine ih _ hnd.2 (fun D' hD'=>?_) (fun W' m=>h W' ?_)
  ·rw [World.putObj_heap_other (fun e=>hnd.1 (by rw [← e]; exact hD'))]
   exact hD D' (by simp [hD'])
  ·exact (hput.mono (F':=fun k=>k ∈ D :: Ds) (fun b e=>by rw [e]; simp)).trans m (fun b e=>.inl (by simp [e]))
theorem append_tokenIn {F:Fence}{n:Nat}{W w0:World}{ops:Array Oper}{rest:List Oper}{o:Oper}{a:Act}{Q:Exit→Act→World→Prop}(hgd:o.guard=none) (d x:Operand)
  (ho:o.op=.call { callee:=.builtin .append,args:=#[d,x],argTypes:=#[94,94] }) (y:Tk) {v:Value}{L:List Tk}(hR:RL W w0 v L) (hs:a.eval d=v) (hx:a.eval x=.slice (some ⟨w0§,0,none⟩) 1 1) (hlen:L.length≤1000000000)
  (h:∀ v' w',RL W w' v' (L ++ [y])→w0§≤w'§→(∀ b,b < w0§→v.ownBlock≠some b→w'.heap[b]? = w0.heap[b]?)→wpListIn F n Tryz.prog ops Q rest (a.put o.dst v') w') :
  wpListIn F n Tryz.prog ops Q (o :: rest) a (w0.alloc (.cells (tkA y) 82)):=by
 obtain⟨i0,hi,hz0,hz1,hz2⟩:=info_parts Tryz.info82
 refine wpListIn_plain hgd fun K hK=>?_
 obtain⟨g,cap,w',hr,h2,h3,h4,h5⟩:=run_append_lies (P:=Tryz.prog) (w0.alloc (.cells (tkA y) 82)) 94 o.type 0 82 i0 _ 5 48 Tryz.underlying94 hi hz0 hz1 hz2 rfl (by decide) v L.length _ (hR.row.alloc _) ⟨w0§,0,none⟩ 1 1 (tkA y).toList rfl (news_core w0 y) (one_core y) (by decide) (by unfold maxLen; omega) (by omega) (Nat.zero_le _) _ rfl
 obtain⟨q1,q2,q3⟩:=app_core hR h2 h3 h4
 unfold Oper.wpIn
 refine⟨?_,?_⟩
 ·simp [Oper.about,ho,resolve,Target.leads,Sem.run_pure]
 ·rw [Oper.semAt_plain F _ _ (by rw [ho]; intro c hc'; cases hc')]
  simp [execOp,ho,resolve,invoke,builtin,hs,hx,hr,Result.andThen]
  exact hK _ _ (h _ w' q1 q2 q3)
theorem RL.sl {W w:World}{v:Value}{L:List Tk}(h:RL W w v L):∃ ao cap,v=.slice ao L.length cap:=by
 obtain⟨ao,c,e,_,_⟩:=Row.form h.row
 exact⟨ao,c,e⟩
theorem RL.own {w W W':World}{v:Value}{M:List Tk}{row:Option Nat}(h:RL w W v M) (hg:W.grownBy W' row) (hr:∀ r,row=some r→w§≤r∧∃ o:Obj,W.heap[r]? = some o∧o.isCells=false):RL w W' v M:=by
 refine⟨h.row.kept hg ?_,h.nb,h.B.grown hg h.B.size (fun k hk=>(hr k hk).1)⟩
 cases hv:v.ownBlock with
 | none=>exact .inl rfl
 | some k =>
  right
  intro e
  obtain⟨_,o,ho,hc⟩:=hr k e.symm
  obtain⟨c,fz,hk⟩:=h.row.kind k hv
  rw [hk] at ho
  cases ho
  cases hc
theorem rl_set {w W:World}{v u:Value}{M:List Tk}{B:Nat}(h:RL w W v M) (hb:some B≠v.ownBlock) (hB:w§≤B):RL w (W.setCell ⟨B,0,none⟩ u) v M :=
 ⟨h.row.of_block (fun k hk=>Below.heap_setCell _ _ _ _ (fun e=>hb (by rw [hk]; exact congrArg some e.symm))),h.nb,((Mv.ofBelow h.B).setCell (a:=⟨B,0,none⟩) (.inr hB) u).toBelow⟩
theorem results_t1 {P:Program}{fn:Func}{p:Tmp}(h:fn.results=#[.tmp p]) (tmps:Array Value) (w:World):(results fn tmps).run P w=.ok (tmps.getD p undef) w:=by
 simp [results,h]
def Sm (w:World) (B0:Nat) (L:List Tk) (pre:List Nat) (W:World):Prop:=∃ v,Boxed W B0 94 v∧RL w W v (pre.map (lsF L))
theorem sm_own (w:World) (B0:Nat) (L:List Tk) {B:Nat}(hB:w§≤B):OwnFrom B (Sm w B0 L):=by
 intro pre W W' row h hg hr
 obtain⟨v,hv,hl⟩:=h
 exact⟨v,boxed_own _ _ (fun (_:Unit)=>_) () W W' row hv hg (fun x e=>(hr x e).2),hl.own hg (fun r e=>⟨Nat.le_trans hB (hr r e).1,(hr r e).2⟩)⟩
theorem tkh_own {β:Type}(B:Nat) (b:Nat) (T:Tk) (p:Prop):OwnFrom B (fun (_:β) W=>p∧TkH W b T):=by
 intro _ W W' row h hg hr
 refine⟨h.1,(hg.block b h.2.lt (fun e=>?_)).trans h.2⟩
 obtain⟨_,o,ho,hc⟩:=hr b e.symm
 rw [show W.heap[b]? = _ from h.2] at ho
 cases ho
 cases hc
theorem keeps_kps {W W':World}{K:Nat→Prop}(m:Kps K W W') (B:Nat) (hF:∀ k,¬ K k→∀ o,W.heap[k]? = some o→o.isCells=true):KeepsFrom B W W' :=
 ⟨m.size,fun k o _ hk ho=>(m.block k (Classical.byContradiction fun e=>by rw [hF k e o hk] at ho; cases ho)).trans hk⟩
theorem map_range_lsF (L:List Tk):(List.range L.length).map (lsF L)=L:=by
 refine List.ext_getElem (by simp) (fun i h1 h2=>?_)
 simp [lsF,h2]
theorem seq_any (s:ByteArray) (hs:s.size≤4194304) (L:List Tk) (hL:L=allL s) (Bs:Nat) (w:World) (ht:Tab w) (hBs:Boxed w Bs 9 (.string s)) :
  Calls zG 126 #[.slice none 0 0,.func (.func 127) #[] #[zP Bs]] w fun e w'=>∃ v,e=.returned v∧RL w w' v L:=by
 have hll:L.length≤s.size:=by rw [hL]; exact allL_len s
 have HL:Hid (L=allL s):=hL
 clear hL
 refine (callsIn_wide (n:=3)).1 (callsIn_of_wp_marks Tryz.func126 rfl trivial ?_ rfl)
 refine wpIn_wide.2 ?_
 simp only [Tryz.ntmps126,List.size_toArray,List.length_cons,List.length_nil,Nat.reduceAdd,Nat.reduceSub,Array.replicate_succ,Array.replicate_zero,List.push_toArray,List.append_toArray,List.nil_append,List.cons_append]
 obtain⟨B0,hB0⟩:∃ x,w§=x:=⟨_,rfl⟩
 obtain⟨W0,hW0⟩:∃ V,w.alloc (.cells #[.slice none 0 0] 94)=V:=⟨_,rfl⟩
 have s0:W0§=B0+1:=by rw [← hW0]; simp [hB0]
 have hbl:Below w§ w W0:=by rw [← hW0]; exact Bn _ _
 have z1:Boxed W0 B0 94 (.slice none 0 0):=by rw [← hW0,← hB0]; exact Boxed.new w 94 _
 have lBs:Bs < B0:=by rw [← hB0]; exact hBs.lt
 have z2:Boxed W0 Bs 9 (.string s):=(hbl.block _ hBs.lt).trans hBs
 have hT0:Tab W0:=ht.on hbl
 have hpos:1 < B0:=by rw [← hB0]; exact ht.pos
 have HW0:=hd hW0
 clear hW0
 go_wp2_with fail
 rw [HW0.out]
 have hKK:∀ k,(k=1∨k=Bs)→k < B0:=fun k hk=>by omega
 refine (wpIn_wide (n:=12)).1 ?_
 refine wpIn_rangeFunc_ownH rfl (by omega) (gf:=127) (lb:=#[zP Bs]) rfl trivial (enters_of Tryz.func127 zK rfl)
  (all_stops 11 (by omega) Bs s L HL.out W0 z2.cell hT0)
  (fun h k=>h.trans k) ?hKb (Below.refl _ _) (fun _=>rfl)
  (Sm w B0 L)
  (fun _ pre _=>False)
  (sm_own w B0 L hbl.size) (fun c=>ownFrom_pure _ _) ⟨_,z1,Row.nil _ _ _ _,fun k h=>by simp [Value.ownBlock] at h,hbl⟩
  (fun x a' W=>∃ Bt,a' = { tmps:=#[.slice none 0 0,.func (.func 127) #[] #[zP Bs],zP B0,undef,.slice none 0 0,zP Bt,.func (.func 127) #[] #[zP Bs],.agg (tkA (lsF L x)),undef,undef,undef,undef,undef],defers:=[] }∧TkH W Bt (lsF L x))
  ?hAx ?assign ?body ?done ?stop
 case hKb =>
  intro W b o o' hb _ _ _
  exact⟨by simp,fun k hk=>World.putObj_heap_other (by have:=hKK k hk; omega)⟩
 case hAx =>
  intro x a' u W W' row hs hg hr
  obtain⟨Bt,e⟩:=hs
  exact⟨Bt,tkh_own _ _ _ _ u W W' row e hg hr⟩
 case assign =>
  rintro lo pre x W K hi hK
  unfold encT
  obtain⟨T,eT⟩:∃ T,lsF L x=T:=⟨_,rfl⟩
  rw [eT] at hK ⊢
  have hWs:B0 < W§:=by obtain⟨v,hv,_⟩:=hi; exact hv.lt
  have HK:Hid (∀ a',(∃ Bt,a'=_∧TkH (W.alloc (.cells (tkA T) 82)) Bt T)→K a' (W.alloc (.cells (tkA T) 82))):=fun a' hA=>hK a' _ (keeps_kps (K:=fun k=>k < W§) ⟨by simp,fun k hk=>Below.heap_alloc _ _ _ hk⟩ _ (fun k hk o ho=>absurd (Array.getElem?_eq_some_iff.1 ho).1 hk)) ⟨by simp,fun k hk=>Below.heap_alloc _ _ _ (by have:=hKK k hk; omega)⟩ ((sm_own w B0 L hbl.size).alloc _ hi) hA
  clear hK hi
  unfold tkA
  gi_wp2
  exact HK.out _ ⟨W§,rfl,Hn _ _⟩
 case body =>
  rintro lo pre x a' W hl _ ⟨v,b1,hr⟩ ⟨Bt,rfl,hTk⟩ hlen
  obtain⟨T,eT⟩:∃ T,lsF L x=T:=⟨_,rfl⟩
  rw [eT] at hTk ⊢
  obtain⟨M,hM⟩:∃ M,pre.map (lsF L)=M:=⟨_,rfl⟩
  have hMl:M.length=pre.length:=by rw [← hM]; simp
  rw [hM] at hr
  obtain⟨ao,cap,rfl⟩:=hr.sl
  obtain⟨y0,y1,y2,y3,y4⟩:=hTk.cells
  have c1:=b1.cell
  have f1:=b1.frozen
  have HR:=hr.hid
  have HB1:=hd b1
  have HN:=hd (b1.not_row (by decide) hr.row)
  have HM:Hid ((pre ++ [x]).map (lsF L)=M ++ [T]):=by show _=_; rw [List.map_append,hM,List.map_singleton,eT]
  have hMlt:M.length < L.length:=by omega
  clear hr b1 hTk hM hMl hlen
  gi_wp2_with (gi_at_builtin; refine append_tokenIn rfl (.tmp 8) (.tmp 10) rfl T HR.out rfl rfl (by omega) ?_; intro v1 w1 hr1 hs1 hk1; obtain⟨ao1,cap1,ev1⟩:=hr1.sl; rw [List.length_append,List.length_singleton] at ev1; subst ev1; have X1:Boxed w1 B0 94 (.slice ao M.length cap):=(hk1 _ HB1.out.lt (fun e=>HN.out e.symm)).trans HB1.out; have g1:=X1.cell; have k1:=X1.frozen; have HX1:Hid (Boxed w1 B0 94 (.slice ao M.length cap)):=X1; have HR1:=hr1.hid; have HS1:Hid (W§≤w1§):=hs1; have HK1:Hid (∀ b,b < W§→(Value.slice ao M.length cap).ownBlock≠some b→w1.heap[b]? = W.heap[b]?):=hk1; clear hr1 hs1 hk1 X1)
  have HXN:=HX1.out.not_row (by decide) HR1.out.row
  have hF:Kps (fun k=>k < W§∧k≠B0∧(Value.slice ao M.length cap).ownBlock≠some k) W (w1.setCell ⟨B0,0,none⟩ (.slice ao1 (M.length+1) cap1)):=⟨by have:=HS1.out; simpa [World.setCell] using this,fun k hk=>(Below.heap_setCell _ _ _ _ hk.2.1).trans (HK1.out k hk.1 hk.2.2)⟩
  refine⟨keeps_kps hF _ (fun k hk o ho=>?_),⟨hF.size,fun k hk=>hF.block k ⟨?_,by have:=hKK k hk; omega,fun e=>?_⟩⟩,.slice ao1 (M.length+1) cap1,?_,?_⟩
  ·by_cases e1:k=B0
   ·rw [e1,show W.heap[B0]? = _ from HB1.out] at ho; cases ho; rfl
   ·by_cases e2:(Value.slice ao M.length cap).ownBlock=some k
    ·obtain⟨c,fz,hk⟩:=HR.out.row.kind k e2
     rw [hk] at ho; cases ho; rfl
    ·exact absurd ⟨(Array.getElem?_eq_some_iff.1 ho).1,e1,e2⟩ hk
  ·have:=hKK k hk; have:=HB1.out.lt; omega
  ·have:=HR.out.nb _ e; have:=hKK k hk; omega
  ·exact HX1.out.set _
  ·rw [HM.out]; exact rl_set HR1.out HXN (by omega)
 case done =>
  rintro D xs W hD rfl ⟨v,b1,hr⟩ hK
  rw [map_range_lsF] at hr
  have c1:=b1.cell
  obtain⟨ao,cap,rfl⟩:=hr.sl
  have HR:=hr.hid
  have HD:=hd hK
  clear hK hr
  go_wp2_with fail
  refine leaves_marks (v:=.slice ao L.length cap) [D] W (by simp) (fun D' hD'=>by simp at hD'; rw [hD']; exact HD.out) (fun W' m=>⟨results_t1 (p:=4) rfl _ _,_,rfl,?_⟩)
  have hDl:=(Array.getElem?_eq_some_iff.1 HD.out).1
  refine⟨m.row HR.out.row (fun k hk e=>?_),HR.out.nb,((Mv.ofBelow HR.out.B).trans m (fun b e=>.inr (by simp at e; have:=hbl.size; omega))).toBelow⟩
  simp at e
  obtain⟨c,fz,hk'⟩:=HR.out.row.kind k hk
  rw [e,HD.out] at hk'
  cases hk'
 case stop =>
  intro D c pre W _ h1 h2 _
  exact absurd h2 (by simp)
theorem collect_any (s:ByteArray) (hs:s.size≤4194304) (Bs:Nat) (w:World) (ht:Tab w) (hBs:Boxed w Bs 9 (.string s)) :
  Calls zG 102 #[.func (.func 127) #[] #[zP Bs]] w fun e w'=>∃ v,e=.returned v∧RL w w' v (allL s):=by
 have c:=seq_any s hs _ rfl Bs w ht hBs
 go_enter Tryz.func102,Tryz.ntmps102
 go_wp2_with fail
 refine c.mono ?_
 rintro e w1 ⟨v,rfl,hr⟩
 go_wp2_with fail
 go_ret
 exact⟨_,rfl,hr⟩
def OutK (b G:Nat) (fa:Int) (fe:Value) (d:Nat) (w:World) (r:Except Ft (Tk × List Tk)) (e:Ending) (w':World):Prop :=
 match r with
 | .ok (t,ts)=>e=.returned (.agg (tkA t))∧(∃ a c,Rdr w' b G ts fa fe d a c)∧Mv w w' (fun k=>k=b)
 | .error f=>e=pan (ftV fa fe f)∧Mv w w' (fun k=>k=b)
theorem put_rdr {w:World}{b G r:Nat}{ts:List Tk}{fa:Int}{fe:Value}{d:Nat}{a:Option Addr}{c:Nat}(h:Rdr w b G ts fa fe d a c) (hr:b≠r) (hg:G≠r) (v0 v1 v2 v3 v4:Value) :
  Rdr (((((w.setCell ⟨r,0,none⟩ v0).setCell ⟨r,1,none⟩ v1).setCell ⟨r,2,none⟩ v2).setCell ⟨r,3,none⟩ v3).setCell ⟨r,4,none⟩ v4) b G ts fa fe d a c :=
 ⟨(oth5 _ hr _ _ _ _ _).trans h.h,h.l,h.m,h.n,h.gb,by have:=h.gl; simp [World.setCell]; exact this,fun i hi=>by
  obtain⟨o,e,ht⟩:=h.r i hi
  exact⟨o,e,ht.blk (oth5 _ hg _ _ _ _ _)⟩⟩
theorem step_no {w:World}{b G:Nat}{fa:Int}{fe:Value}{d:Nat}{a:Option Addr}{c:Nat}(h:Rdr w b G [] fa fe d a c) :
  Calls zG 105 #[zP b] w fun e w'=>e=pan (ftV fa fe .lex)∧Below w§ w w':=by
 have cL:=look_no (h.on (Bn w (.cells zA10 82)))
 clear h
 go_enter Tryz.func105,Tryz.ntmps105
 go_wp2_with fail
 refine cL.mono ?_
 rintro e w1 ⟨rfl,hb⟩
 exact⟨rfl,rfl,B2 (Bn _ _) hb⟩
theorem take_any {w:World}{b G:Nat}{ts:List Tk}{fa:Int}{fe:Value}{d:Nat}{a:Option Addr}{c:Nat}(h:Rdr w b G ts fa fe d a c) (x:ByteArray):Calls zG 64 #[zP b,.string x] w (OutK b G fa fe d w (gTake x ts)):=by
 have HBL:Hid (b < w§):=h.lt
 have HGL:Hid (G < w§):=h.gl
 have hb0:=Bn w (.cells zA10 82)
 have h0:=h.on hb0
 have k0:(w.alloc (.cells zA10 82)).heap[w§]? = some (.cells zA10 82 (0,0)):=Hn _ _
 have HB0:=hd hb0
 have HK0:=hd k0
 clear h hb0 k0
 cases ts with
 | nil =>
  have cI:=is_no h0 x
  clear h0
  go_enter Tryz.func64,Tryz.ntmps64
  go_wp2_with fail
  refine cI.mono ?_
  rintro e w1 ⟨rfl,hb⟩
  exact⟨rfl,rfl,Mv.ofBelow (B2 HB0.out hb)⟩
 | cons t ts =>
  have cI:=is_ok h0 x
  by_cases e:t.x=x
  ·have eT:gTake x (t :: ts)=.ok (t,ts):=by subst e; simp [gTake,gIs,gLook,gNeed,gStep,Except.map,bind,Except.bind]
   rw [eT]
   rw [decide_eq_true e] at cI
   have HH0:=h0.hid
   clear h0 eT e
   go_enter Tryz.func64,Tryz.ntmps64
   go_wp2_with fail
   refine cI.mono ?_
   rintro e w1 ⟨rfl,hb⟩
   have HB:=hd (B2 HB0.out hb)
   have HZ:Hid (w1.heap[w§]? = some (.cells zA10 82 (0,0))):=(hb.block _ (Array.getElem?_eq_some_iff.1 HK0.out).1).trans HK0.out
   have cS:=step_ok (HH0.out.on hb)
   have cN:=need_ok w1 b 130
   clear hb cI
   go_wp2_with (go_at_call 72; refine cN.mono ?_; rintro e w3 ⟨rfl,e4⟩; obtain rfl:=e4.symm)
   refine cS.mono ?_
   rintro e w2 ⟨rfl,⟨a2,c2,hr2⟩,hm2⟩
   have HR2:=hr2.hid
   have HM2:=hd ((Mv.ofBelow HB.out).trans hm2 (fun k e=>.inl e))
   have HK:Hid (w2.heap[w§]? = some (.cells zA10 82 (0,0))):=(hm2.block _ (Array.getElem?_eq_some_iff.1 HZ.out).1 (fun e=>by have:=HBL.out; omega)).trans HZ.out
   obtain⟨z0,z1,z2,z3,z4⟩:=cl5 HK.out
   obtain⟨q0,q1,q2,q3,q4⟩:=fz5 HK.out
   clear cS hr2 hm2
   unfold tkA
   go_wp2_with fail
   exact bodyPost_ret (results_cell_row rfl _ _ w§ 82 (tkA t) (0,0) _ rfl (put5 HK.out _ _ _ _ _) Tryz.underlying82 rfl zK) rfl ⟨rfl,⟨a2,c2,put_rdr HR2.out (by have:=HBL.out; omega) (by have:=HGL.out; omega) _ _ _ _ _⟩,mv5 HM2.out (Nat.le_refl _) _ _ _ _ _⟩
  ·have eT:gTake x (t :: ts)=.error (.tok 130 t.p):=by simp [gTake,gIs,gLook,gNeed,Except.map,bind,Except.bind,e]
   rw [eT]
   rw [decide_eq_false e] at cI
   have HH0:=h0.hid
   clear h0 eT e
   go_enter Tryz.func64,Tryz.ntmps64
   go_wp2_with fail
   refine cI.mono ?_
   rintro e w1 ⟨rfl,hb⟩
   have HB:=hd (B2 HB0.out hb)
   have cN:=need_tok (HH0.out.on hb) 130
   clear hb cI
   go_wp2_with fail
   refine cN.mono ?_
   rintro e w2 ⟨rfl,hb2⟩
   exact⟨rfl,rfl,Mv.ofBelow (B2 HB.out hb2)⟩
theorem open_any {w:World}{b G:Nat}{ts:List Tk}{fa:Int}{fe:Value}{d:Nat}{a:Option Addr}{c:Nat}(h:Rdr w b G ts fa fe d a c):Calls zG 88 #[zP b] w (OutK b G fa fe d w (gOpn d ts)):=by
 have HBL:Hid (b < w§):=h.lt
 have HGL:Hid (G < w§):=h.gl
 have hb0:=Bn w (.cells zA10 82)
 have h0:=h.on hb0
 have k0:(w.alloc (.cells zA10 82)).heap[w§]? = some (.cells zA10 82 (0,0)):=Hn _ _
 have HB:=hd hb0
 have HZ:=hd k0
 have c3:w.cell? ⟨b,3,none⟩=some (zI d):=Co h.h 3
 have hbl:=h.lt
 clear h hb0 k0
 by_cases hd:d < 24
 ·have hd':(d:Int) < 24:=by omega
  cases ts with
  | nil =>
   have eT:gOpn d []=.error .lex:=by simp [gOpn,gNeed,gStep,hd,bind,Except.bind]
   rw [eT]
   have cS:=step_no h0
   have cN:=need_ok (w.alloc (.cells zA10 82)) b 132
   clear h0 eT hd
   go_enter Tryz.func88,Tryz.ntmps88
   go_wp2_with (go_at_call 72; refine cN.mono ?_; rintro e w3 ⟨rfl,e4⟩; obtain rfl:=e4.symm)
   refine cS.mono ?_
   rintro e w2 ⟨rfl,hb2⟩
   exact⟨rfl,rfl,Mv.ofBelow (B2 HB.out hb2)⟩
  | cons t ts =>
   have eT:gOpn d (t :: ts)=.ok (t,ts):=by simp [gOpn,gNeed,gStep,hd,bind,Except.bind]
   rw [eT]
   have cS:=step_ok h0
   have cN:=need_ok (w.alloc (.cells zA10 82)) b 132
   clear h0 eT hd
   go_enter Tryz.func88,Tryz.ntmps88
   go_wp2_with (go_at_call 72; refine cN.mono ?_; rintro e w3 ⟨rfl,e4⟩; obtain rfl:=e4.symm)
   refine cS.mono ?_
   rintro e w2 ⟨rfl,⟨a2,c2,hr2⟩,hm2⟩
   have HR2:=hr2.hid
   have HM2:=hd ((Mv.ofBelow HB.out).trans hm2 (fun k e=>.inl e))
   have HK:Hid (w2.heap[w§]? = some (.cells zA10 82 (0,0))):=(hm2.block _ (Array.getElem?_eq_some_iff.1 HZ.out).1 (fun e=>by have:=HBL.out; omega)).trans HZ.out
   obtain⟨z0,z1,z2,z3,z4⟩:=cl5 HK.out
   obtain⟨q0,q1,q2,q3,q4⟩:=fz5 HK.out
   clear cS hr2 hm2
   unfold tkA
   go_wp2_with fail
   exact bodyPost_ret (results_cell_row rfl _ _ w§ 82 (tkA t) (0,0) _ rfl (put5 HK.out _ _ _ _ _) Tryz.underlying82 rfl zK) rfl ⟨rfl,⟨a2,c2,put_rdr HR2.out (by have:=HBL.out; omega) (by have:=HGL.out; omega) _ _ _ _ _⟩,mv5 HM2.out (Nat.le_refl _) _ _ _ _ _⟩
 ·have hd':¬ (d:Int) < 24:=by omega
  have hd2:decide ((d:Int) < 24)=false:=decide_eq_false hd'
  cases ts with
  | nil =>
   have eT:gOpn d []=.error .lex:=by simp [gOpn,gNeed,gLook,hd,bind,Except.bind]
   rw [eT]
   have cN:=need_lex h0 132
   clear h0 eT hd
   go_enter Tryz.func88,Tryz.ntmps88
   go_wp2_with fail
   refine cN.mono ?_
   rintro e w2 ⟨rfl,hb2⟩
   exact⟨rfl,rfl,Mv.ofBelow (B2 HB.out hb2)⟩
  | cons t ts =>
   have eT:gOpn d (t :: ts)=.error (.tok 132 t.p):=by simp [gOpn,gNeed,gLook,hd,bind,Except.bind]
   rw [eT]
   have cN:=need_tok h0 132
   clear h0 eT hd
   go_enter Tryz.func88,Tryz.ntmps88
   go_wp2_with fail
   refine cN.mono ?_
   rintro e w2 ⟨rfl,hb2⟩
   exact⟨rfl,rfl,Mv.ofBelow (B2 HB.out hb2)⟩
theorem typeOf_any (t:Tk) (w:World):Calls zG 129 #[.agg (tkA t)] w fun e w'=>e=.returned (zU (tyX t.x))∧Below w§ w w':=by
 unfold tkA
 unfold tyX eqX
 go_enter Tryz.func129,Tryz.ntmps129
 go_wp2_with fail
 all_goals (go_ret; exact⟨by simp [*],Bn _ _⟩)
theorem fieldOf_any (t:Tk) (w:World):Calls zG 192 #[.agg (tkA t)] w fun e w'=>e=.returned (zU (fieldX t.x))∧Below w§ w w':=by
 unfold tkA
 unfold fieldX eqX
 go_enter Tryz.func192,Tryz.ntmps192
 go_wp2_with fail
 all_goals (go_ret; exact⟨by simp [*],Bn _ _⟩)
theorem callOf_any (t:Tk) (w:World):Calls zG 188 #[.agg (tkA t)] w fun e w'=>e=.returned (zU (callX t.x))∧Below w§ w w':=by
 unfold tkA
 unfold callX eqX
 go_enter Tryz.func188,Tryz.ntmps188
 go_wp2_with fail
 all_goals (go_ret; exact⟨by simp [*],Bn _ _⟩)
theorem cmpO_ok {w:World}{b G:Nat}{t:Tk}{ts:List Tk}{fa:Int}{fe:Value}{d:Nat}{a:Option Addr}{c:Nat}(h:Rdr w b G (t :: ts) fa fe d a c) :
  Calls zG 154 #[zP b] w fun e w'=>e=.returned (zU (cmpX t.x))∧Below w§ w w':=by
 have cL:=look_ok h
 have hf:=fun v=>field82_1 t v
 clear h
 unfold cmpX eqX
 go_enter Tryz.func154,Tryz.ntmps154
 go_wp2_with fail
 refine cL.mono ?_
 rintro e w1 ⟨rfl,hb⟩
 have HB:=hd hb
 clear hb cL
 go_wp2_with fail
 all_goals (go_ret; exact⟨by simp [*],HB.out⟩)
theorem cmpO_no {w:World}{b G:Nat}{fa:Int}{fe:Value}{d:Nat}{a:Option Addr}{c:Nat}(h:Rdr w b G [] fa fe d a c) :
  Calls zG 154 #[zP b] w fun e w'=>e=pan (ftV fa fe .lex)∧Below w§ w w':=by
 have cL:=look_no h
 clear h
 go_enter Tryz.func154,Tryz.ntmps154
 go_wp2_with fail
 refine cL.mono ?_
 rintro e w1 ⟨rfl,hb⟩
 exact⟨rfl,rfl,hb⟩
theorem sumO_ok {w:World}{b G:Nat}{t:Tk}{ts:List Tk}{fa:Int}{fe:Value}{d:Nat}{a:Option Addr}{c:Nat}(h:Rdr w b G (t :: ts) fa fe d a c) :
  Calls zG 172 #[zP b] w fun e w'=>e=.returned (zU (sumX t.x))∧Below w§ w w':=by
 have cL:=look_ok h
 have hf:=fun v=>field82_1 t v
 clear h
 unfold sumX eqX
 go_enter Tryz.func172,Tryz.ntmps172
 go_wp2_with fail
 refine cL.mono ?_
 rintro e w1 ⟨rfl,hb⟩
 have HB:=hd hb
 clear hb cL
 go_wp2_with fail
 all_goals (go_ret; exact⟨by simp [*],HB.out⟩)
theorem sumO_no {w:World}{b G:Nat}{fa:Int}{fe:Value}{d:Nat}{a:Option Addr}{c:Nat}(h:Rdr w b G [] fa fe d a c) :
  Calls zG 172 #[zP b] w fun e w'=>e=pan (ftV fa fe .lex)∧Below w§ w w':=by
 have cL:=look_no h
 clear h
 go_enter Tryz.func172,Tryz.ntmps172
 go_wp2_with fail
 refine cL.mono ?_
 rintro e w1 ⟨rfl,hb⟩
 exact⟨rfl,rfl,hb⟩
theorem proO_ok {w:World}{b G:Nat}{t:Tk}{ts:List Tk}{fa:Int}{fe:Value}{d:Nat}{a:Option Addr}{c:Nat}(h:Rdr w b G (t :: ts) fa fe d a c) :
  Calls zG 179 #[zP b] w fun e w'=>e=.returned (zU (proX t.x))∧Below w§ w w':=by
 have cL:=look_ok h
 have hf:=fun v=>field82_1 t v
 clear h
 unfold proX eqX
 go_enter Tryz.func179,Tryz.ntmps179
 go_wp2_with fail
 refine cL.mono ?_
 rintro e w1 ⟨rfl,hb⟩
 have HB:=hd hb
 clear hb cL
 go_wp2_with fail
 all_goals (go_ret; exact⟨by simp [*],HB.out⟩)
theorem proO_no {w:World}{b G:Nat}{fa:Int}{fe:Value}{d:Nat}{a:Option Addr}{c:Nat}(h:Rdr w b G [] fa fe d a c) :
  Calls zG 179 #[zP b] w fun e w'=>e=pan (ftV fa fe .lex)∧Below w§ w w':=by
 have cL:=look_no h
 clear h
 go_enter Tryz.func179,Tryz.ntmps179
 go_wp2_with fail
 refine cL.mono ?_
 rintro e w1 ⟨rfl,hb⟩
 exact⟨rfl,rfl,hb⟩
theorem unO_ok {w:World}{b G:Nat}{t:Tk}{ts:List Tk}{fa:Int}{fe:Value}{d:Nat}{a:Option Addr}{c:Nat}(h:Rdr w b G (t :: ts) fa fe d a c) :
  Calls zG 183 #[zP b] w fun e w'=>e=.returned (zU (unX t.x))∧Below w§ w w':=by
 have cL:=look_ok h
 have hf:=fun v=>field82_1 t v
 clear h
 unfold unX eqX
 go_enter Tryz.func183,Tryz.ntmps183
 go_wp2_with fail
 refine cL.mono ?_
 rintro e w1 ⟨rfl,hb⟩
 have HB:=hd hb
 clear hb cL
 go_wp2_with fail
 all_goals (go_ret; exact⟨by simp [*],HB.out⟩)
theorem unO_no {w:World}{b G:Nat}{fa:Int}{fe:Value}{d:Nat}{a:Option Addr}{c:Nat}(h:Rdr w b G [] fa fe d a c) :
  Calls zG 183 #[zP b] w fun e w'=>e=pan (ftV fa fe .lex)∧Below w§ w w':=by
 have cL:=look_no h
 clear h
 go_enter Tryz.func183,Tryz.ntmps183
 go_wp2_with fail
 refine cL.mono ?_
 rintro e w1 ⟨rfl,hb⟩
 exact⟨rfl,rfl,hb⟩
theorem orO_ok {w:World}{b G:Nat}{t:Tk}{ts:List Tk}{fa:Int}{fe:Value}{d:Nat}{a:Option Addr}{c:Nat}(h:Rdr w b G (t :: ts) fa fe d a c) :
  Calls zG 114 #[zP b] w fun e w'=>e=.returned (zU (orX t.x))∧Below w§ w w':=by
 have cL:=is_ok h Z03
 clear h
 unfold orX gB
 by_cases e:t.x=Z03
 ·rw [decide_eq_true e] at cL
  rw [if_pos e]
  clear e
  go_enter Tryz.func114,Tryz.ntmps114
  go_wp2_with fail
  refine cL.mono ?_
  rintro e w1 ⟨rfl,hb⟩
  go_wp2_with fail
  go_ret
  exact⟨rfl,hb⟩
 ·rw [decide_eq_false e] at cL
  rw [if_neg e]
  clear e
  go_enter Tryz.func114,Tryz.ntmps114
  go_wp2_with fail
  refine cL.mono ?_
  rintro e w1 ⟨rfl,hb⟩
  go_wp2_with fail
  go_ret
  exact⟨rfl,hb⟩
theorem orO_no {w:World}{b G:Nat}{fa:Int}{fe:Value}{d:Nat}{a:Option Addr}{c:Nat}(h:Rdr w b G [] fa fe d a c) :
  Calls zG 114 #[zP b] w fun e w'=>e=pan (ftV fa fe .lex)∧Below w§ w w':=by
 have cL:=is_no h Z03
 clear h
 go_enter Tryz.func114,Tryz.ntmps114
 go_wp2_with fail
 refine cL.mono ?_
 rintro e w1 ⟨rfl,hb⟩
 exact⟨rfl,rfl,hb⟩
theorem andO_ok {w:World}{b G:Nat}{t:Tk}{ts:List Tk}{fa:Int}{fe:Value}{d:Nat}{a:Option Addr}{c:Nat}(h:Rdr w b G (t :: ts) fa fe d a c) :
  Calls zG 135 #[zP b] w fun e w'=>e=.returned (zU (andX t.x))∧Below w§ w w':=by
 have cL:=is_ok h Z02
 clear h
 unfold andX gB
 by_cases e:t.x=Z02
 ·rw [decide_eq_true e] at cL
  rw [if_pos e]
  clear e
  go_enter Tryz.func135,Tryz.ntmps135
  go_wp2_with fail
  refine cL.mono ?_
  rintro e w1 ⟨rfl,hb⟩
  go_wp2_with fail
  go_ret
  exact⟨rfl,hb⟩
 ·rw [decide_eq_false e] at cL
  rw [if_neg e]
  clear e
  go_enter Tryz.func135,Tryz.ntmps135
  go_wp2_with fail
  refine cL.mono ?_
  rintro e w1 ⟨rfl,hb⟩
  go_wp2_with fail
  go_ret
  exact⟨rfl,hb⟩
theorem andO_no {w:World}{b G:Nat}{fa:Int}{fe:Value}{d:Nat}{a:Option Addr}{c:Nat}(h:Rdr w b G [] fa fe d a c) :
  Calls zG 135 #[zP b] w fun e w'=>e=pan (ftV fa fe .lex)∧Below w§ w w':=by
 have cL:=is_no h Z02
 clear h
 go_enter Tryz.func135,Tryz.ntmps135
 go_wp2_with fail
 refine cL.mono ?_
 rintro e w1 ⟨rfl,hb⟩
 exact⟨rfl,rfl,hb⟩
theorem valueOf_any (t:Tk) (w:World):Calls zG 148 #[.agg (tkA t)] w fun e w'=>e=.returned (.tuple #[zU (valT t).1,zI (valT t).2])∧Below w§ w w':=by
 unfold tkA
 by_cases c0:(t.x.toList == [116,114,117,101])=true
 ·have eV:valT t=(5,1):=by unfold valT eqX; simp only [c0,if_true]
  rw [eV]
  clear eV
  go_enter Tryz.func148,Tryz.ntmps148
  go_wp2_with fail
  all_goals (go_ret2; exact⟨rfl,Bn _ _⟩)
 have n0:(t.x.toList == [116,114,117,101])=false:=by simpa using c0
 clear c0
 by_cases c1:(t.x.toList == [102,97,108,115,101])=true
 ·have eV:valT t=(5,0):=by unfold valT eqX; simp only [c1,n0,if_true,if_false,Bool.false_eq_true]
  rw [eV]
  clear eV
  go_enter Tryz.func148,Tryz.ntmps148
  go_wp2_with fail
  all_goals (go_ret2; exact⟨rfl,Bn _ _⟩)
 have n1:(t.x.toList == [102,97,108,115,101])=false:=by simpa using c1
 clear c1
 by_cases c2:(t.x.toList == [98,117,121])=true
 ·have eV:valT t=(6,1):=by unfold valT eqX; simp only [c2,n0,n1,if_true,if_false,Bool.false_eq_true]
  rw [eV]
  clear eV
  go_enter Tryz.func148,Tryz.ntmps148
  go_wp2_with fail
  all_goals (go_ret2; exact⟨rfl,Bn _ _⟩)
 have n2:(t.x.toList == [98,117,121])=false:=by simpa using c2
 clear c2
 by_cases c3:(t.x.toList == [115,101,108,108])=true
 ·have eV:valT t=(6,2):=by unfold valT eqX; simp only [c3,n0,n1,n2,if_true,if_false,Bool.false_eq_true]
  rw [eV]
  clear eV
  go_enter Tryz.func148,Tryz.ntmps148
  go_wp2_with fail
  all_goals (go_ret2; exact⟨rfl,Bn _ _⟩)
 have n3:(t.x.toList == [115,101,108,108])=false:=by simpa using c3
 clear c3
 have eV:valT t=(t.ty,t.n):=by unfold valT eqX; simp only [n0,n1,n2,n3,if_false,Bool.false_eq_true]
 rw [eV]
 clear eV
 go_enter Tryz.func148,Tryz.ntmps148
 go_upto_region 10 with fail
 obtain⟨V,eV⟩:∃ V,w.alloc (.cells (zT t) 82)=V:=⟨_,rfl⟩
 have hk:V.heap[w§]? = some (.cells (zT t) 82 (0,0)):=by rw [← eV]; exact Hn _ _
 have HB:Hid (Below w§ w V):=by rw [← eV]; exact Bn _ _
 have y2:V.cell? ⟨w§,2,none⟩=some (zU t.ty):=Co hk 2
 have y3:V.cell? ⟨w§,3,none⟩=some (zI t.n):=Co hk 3
 rw [eV]
 clear eV hk
 go_quiet (fail)
 have HB2:=hd (below_drew HB.out nq)
 go_wp2_with fail
 go_ret2
 exact⟨rfl,HB2.out⟩
theorem lack_any (f:Int) (w:World):Calls zG 195 #[zU f] w fun e w'=>e=.returned (.bool (decide (1≤f∧f≤3)))∧w'=w:=by
 by_cases a:1≤f
 ·by_cases b:f≤3
  ·rw [decide_eq_true ⟨a,b⟩]
   go_enter Tryz.func195,Tryz.ntmps195
   go_wp2_with fail
   go_ret
   exact⟨rfl,rfl⟩
  ·rw [decide_eq_false fun x=>b x.2]
   go_enter Tryz.func195,Tryz.ntmps195
   go_wp2_with fail
   go_ret
   exact⟨rfl,rfl⟩
 ·rw [decide_eq_false fun x=>a x.1]
  go_enter Tryz.func195,Tryz.ntmps195
  go_wp2_with fail
  go_ret
  exact⟨rfl,rfl⟩
theorem number_any (f:Int) (w:World):Calls zG 190 #[zU f] w fun e w'=>e=.returned (.bool (decide (1≤f∧f≤4)))∧w'=w:=by
 by_cases a:1≤f
 ·by_cases b:f≤4
  ·rw [decide_eq_true ⟨a,b⟩]
   go_enter Tryz.func190,Tryz.ntmps190
   go_wp2_with fail
   go_ret
   exact⟨rfl,rfl⟩
  ·rw [decide_eq_false fun x=>b x.2]
   go_enter Tryz.func190,Tryz.ntmps190
   go_wp2_with fail
   go_ret
   exact⟨rfl,rfl⟩
 ·rw [decide_eq_false fun x=>a x.1]
  go_enter Tryz.func190,Tryz.ntmps190
  go_wp2_with fail
  go_ret
  exact⟨rfl,rfl⟩
mutual
/-- The expression that a node is, wherever it lies. -/
def treeOf:Nd→Tr
 | .mk h _ _ ks=>.mk h (treesOf ks)
def treesOf:List Nd→List Tr
 | []=>[]
 | k :: ks=>treeOf k :: treesOf ks
end
inductive Bkn (P:Nat→Prop):Nd→Prop
 | mk (h:Hd) (a:Option Addr) (c:Nat) (ks:List Nd) (hk:∀ b o,a=some ⟨b,o,none⟩→P b) (hs:∀ k ∈ ks,Bkn P k):Bkn P (.mk h a c ks)
theorem Bkn.mono {P Q:Nat→Prop}{m:Nd}(h:Bkn P m) (k:∀ b,P b→Q b):Bkn Q m:=by
 induction h with
 | mk h a c ks hk hs ih=>exact .mk h a c ks (fun b o e=>k b (hk b o e)) ih
def OutN (b G:Nat) (fa:Int) (fe:Value) (d:Nat) (w:World) (r:Except Ft (Tr × List Tk)) (e:Ending) (w':World):Prop :=
 match r with
 | .ok (t,ts)=>(∃ m,e=.returned (.agg m.vals)∧treeOf m=t∧Lies w' m∧Bkn (fun k=>w§≤k∧k < w'§) m)∧(∃ a c,Rdr w' b G ts fa fe d a c)∧Mv w w' (fun k=>k=b)
 | .error f=>e=pan (ftV fa fe f)∧Mv w w' (fun k=>k=b)
theorem put8 {w:World}{b:Nat}{a0 a1 a2 a3 a4 a5 a6 a7:Value}(h:w.heap[b]? = some (.cells #[a0,a1,a2,a3,a4,a5,a6,a7] 64 (0,0))) (v0 v1 v2 v3 v4 v5 v6 v7:Value) :
  ((((((((w.setCell ⟨b,0,none⟩ v0).setCell ⟨b,1,none⟩ v1).setCell ⟨b,2,none⟩ v2).setCell ⟨b,3,none⟩ v3).setCell ⟨b,4,none⟩ v4).setCell ⟨b,5,none⟩ v5).setCell ⟨b,6,none⟩ v6).setCell ⟨b,7,none⟩ v7).heap[b]? = some (.cells #[v0,v1,v2,v3,v4,v5,v6,v7] 64 (0,0)):=by
 have h1:(w.setCell ⟨b,0,none⟩ v0).heap[b]? = some (.cells #[v0,a1,a2,a3,a4,a5,a6,a7] 64 (0,0)):=Hs0 v0 h
 have h2:((w.setCell ⟨b,0,none⟩ v0).setCell ⟨b,1,none⟩ v1).heap[b]? = some (.cells #[v0,v1,a2,a3,a4,a5,a6,a7] 64 (0,0)):=Hs0 v1 h1
 have h3:(((w.setCell ⟨b,0,none⟩ v0).setCell ⟨b,1,none⟩ v1).setCell ⟨b,2,none⟩ v2).heap[b]? = some (.cells #[v0,v1,v2,a3,a4,a5,a6,a7] 64 (0,0)):=Hs0 v2 h2
 have h4:((((w.setCell ⟨b,0,none⟩ v0).setCell ⟨b,1,none⟩ v1).setCell ⟨b,2,none⟩ v2).setCell ⟨b,3,none⟩ v3).heap[b]? = some (.cells #[v0,v1,v2,v3,a4,a5,a6,a7] 64 (0,0)):=Hs0 v3 h3
 have h5:(((((w.setCell ⟨b,0,none⟩ v0).setCell ⟨b,1,none⟩ v1).setCell ⟨b,2,none⟩ v2).setCell ⟨b,3,none⟩ v3).setCell ⟨b,4,none⟩ v4).heap[b]? = some (.cells #[v0,v1,v2,v3,v4,a5,a6,a7] 64 (0,0)):=Hs0 v4 h4
 have h6:((((((w.setCell ⟨b,0,none⟩ v0).setCell ⟨b,1,none⟩ v1).setCell ⟨b,2,none⟩ v2).setCell ⟨b,3,none⟩ v3).setCell ⟨b,4,none⟩ v4).setCell ⟨b,5,none⟩ v5).heap[b]? = some (.cells #[v0,v1,v2,v3,v4,v5,a6,a7] 64 (0,0)):=Hs0 v5 h5
 have h7:(((((((w.setCell ⟨b,0,none⟩ v0).setCell ⟨b,1,none⟩ v1).setCell ⟨b,2,none⟩ v2).setCell ⟨b,3,none⟩ v3).setCell ⟨b,4,none⟩ v4).setCell ⟨b,5,none⟩ v5).setCell ⟨b,6,none⟩ v6).heap[b]? = some (.cells #[v0,v1,v2,v3,v4,v5,v6,a7] 64 (0,0)):=Hs0 v6 h6
 have h8:((((((((w.setCell ⟨b,0,none⟩ v0).setCell ⟨b,1,none⟩ v1).setCell ⟨b,2,none⟩ v2).setCell ⟨b,3,none⟩ v3).setCell ⟨b,4,none⟩ v4).setCell ⟨b,5,none⟩ v5).setCell ⟨b,6,none⟩ v6).setCell ⟨b,7,none⟩ v7).heap[b]? = some (.cells #[v0,v1,v2,v3,v4,v5,v6,v7] 64 (0,0)):=Hs0 v7 h7
 exact h8
theorem oth8 (w:World) {b c:Nat}(h:c≠b) (v0 v1 v2 v3 v4 v5 v6 v7:Value):((((((((w.setCell ⟨b,0,none⟩ v0).setCell ⟨b,1,none⟩ v1).setCell ⟨b,2,none⟩ v2).setCell ⟨b,3,none⟩ v3).setCell ⟨b,4,none⟩ v4).setCell ⟨b,5,none⟩ v5).setCell ⟨b,6,none⟩ v6).setCell ⟨b,7,none⟩ v7).heap[c]? = w.heap[c]?:=by
 iterate 8 (refine (Below.heap_setCell _ _ _ _ (show c≠b from h)).trans ?_)
 rfl
theorem fin8 {U:World}{b:Nat}{a0 a1 a2 a3 a4 a5 a6 a7:Value}(h:U.heap[b]? = some (.cells #[a0,a1,a2,a3,a4,a5,a6,a7] 64 (0,0))) (v0 v1 v2 v3 v4 v5 v6 v7:Value) :
  ∃ Y,((((((((U.setCell ⟨b,0,none⟩ v0).setCell ⟨b,1,none⟩ v1).setCell ⟨b,2,none⟩ v2).setCell ⟨b,3,none⟩ v3).setCell ⟨b,4,none⟩ v4).setCell ⟨b,5,none⟩ v5).setCell ⟨b,6,none⟩ v6).setCell ⟨b,7,none⟩ v7)=Y∧Y.heap[b]? = some (.cells #[v0,v1,v2,v3,v4,v5,v6,v7] 64 (0,0))∧Y§=U§∧(∀ k,k≠b→Y.heap[k]? = U.heap[k]?)∧(∀ (w:World) (F:Nat→Prop),Mv w U F→w§≤b→Mv w Y F):=by
 refine⟨_,rfl,put8 h _ _ _ _ _ _ _ _,?_,fun k hk=>oth8 _ hk _ _ _ _ _ _ _ _,fun w F m hb=>?_⟩
 ·simp [World.setCell]
 ·exact (((((((m.setCell (a:=⟨b,0,none⟩) (.inr hb) v0).setCell (a:=⟨b,1,none⟩) (.inr hb) v1).setCell (a:=⟨b,2,none⟩) (.inr hb) v2).setCell (a:=⟨b,3,none⟩) (.inr hb) v3).setCell (a:=⟨b,4,none⟩) (.inr hb) v4).setCell (a:=⟨b,5,none⟩) (.inr hb) v5).setCell (a:=⟨b,6,none⟩) (.inr hb) v6).setCell (a:=⟨b,7,none⟩) (.inr hb) v7
theorem Rdr.blk {w w':World}{b G:Nat}{ts:List Tk}{fa:Int}{fe:Value}{d:Nat}{a:Option Addr}{c:Nat}(h:Rdr w b G ts fa fe d a c) (h1:w'.heap[b]? = w.heap[b]?) (h2:w'.heap[G]? = w.heap[G]?) (hs:w§≤w'§):Rdr w' b G ts fa fe d a c :=
 ⟨h1.trans h.h,h.l,h.m,h.n,h.gb,Nat.lt_of_lt_of_le h.gl hs,fun i hi=>by
  obtain⟨o,e,ht⟩:=h.r i hi
  exact⟨o,e,ht.blk h2⟩⟩
theorem lies0 (w:World) {h:Hd}(hr:Rg h):Lies w (.mk h none 0 []):=.mk h none 0 [] hr (by simp) (by simp) (fun i hi=>by simp at hi) (fun k hk=>by simp at hk)
theorem bkn0 (P:Nat→Prop) (h:Hd):Bkn P (.mk h none 0 []):=.mk h none 0 [] (fun _ _ e=>by cases e) (fun k hk=>by simp at hk)
theorem Lies.bkn {w w':World}{P:Nat→Prop}:∀ {m:Nd},Lies w m→Bkn P m→(∀ b,P b→w'.heap[b]? = w.heap[b]?)→Lies w' m:=by
 intro m h hb k
 induction h with
 | mk h a c ks hr hc hm hk hs ih =>
  cases hb with
  | mk _ _ _ _ hp hq =>
  refine .mk h a c ks hr hc hm (fun i hi=>?_) (fun x hx=>ih x hx (hq x hx))
  obtain⟨b,o,e,hat⟩:=hk i hi
  exact⟨b,o,e,hat.blk (k b (hp b o e))⟩
theorem Rdr.nest {w:World}{b G:Nat}{ts:List Tk}{fa:Int}{fe:Value}{d d':Nat}{a:Option Addr}{c:Nat}(h:Rdr w b G ts fa fe d a c) (hd:d'≤1000):Rdr (w.setCell ⟨b,3,none⟩ (zI d')) b G ts fa fe d' a c :=
 ⟨Hs0 (j:=3) (zI (d':Int)) h.h,h.l,h.m,hd,h.gb,by have:=h.gl; simp [World.setCell]; exact this,fun i hi=>by
  obtain⟨o,e,ht⟩:=h.r i hi
  exact⟨o,e,ht.blk (Below.heap_setCell _ _ _ _ h.gb)⟩⟩
theorem within_any (F:Nat) (hE:∀ args v,Sem.run Tryz.prog (callFunc F args) v=.ok (.enter F args) v) {w:World}{b G:Nat}{ts:List Tk}{fa:Int}{fe:Value}{d:Nat}{a:Option Addr}{c:Nat}(h:Rdr w b G ts fa fe d a c) (hd:d < 1000) (r:Except Ft (Tr × List Tk))
  (cF:∀ v a c,Rdr v b G ts fa fe (d+1) a c→Calls zG F #[zP b] v (OutN b G fa fe (d+1) v r)) :
  Calls zG 89 #[zP b,.func (.func F) #[zP b] #[]] w (OutN b G fa fe d w r):=by
 have hb0:=Bn w (.cells zA7 64)
 have h0:=h.on hb0
 have HBL:Hid (b < w§):=h.lt
 have HGL:Hid (G < w§):=h.gl
 obtain⟨V,eV⟩:∃ V,(w.alloc (.cells zA7 64)).setCell ⟨b,3,none⟩ (zI (d+1))=V:=⟨_,rfl⟩
 have hV:Rdr V b G ts fa fe (d+1) a c:=by rw [← eV]; exact h0.nest (d':=d+1) (by omega)
 have HKV:Hid (V.heap[w§]? = some (.cells zA7 64 (0,0))):=by
  rw [← eV]; exact (Below.heap_setCell _ _ _ _ (show w§≠b by have:=HBL.out; omega)).trans (Hn _ _)
 have HMV:Hid (Mv w V (fun k=>k=b)):=by
  rw [← eV]
  have hm:Mv w (w.alloc (.cells zA7 64)) (fun k=>k=b):=Mv.ofBelow hb0
  exact hm.setCell (a:=⟨b,3,none⟩) (.inl rfl) _
 have c3:w.cell? ⟨b,3,none⟩=some (zI d):=Co h.h 3
 have hbl:=h.lt
 have f3:=Fo h.h 3
 have hd':(d:Int)+1≤1000:=by omega
 have hd0:(0:Int)≤d:=by omega
 have cC:=cF V a c hV
 clear h h0 hb0 hV cF
 cases r with
 | error f =>
  go_enter Tryz.func89,Tryz.ntmps89
  go_wp2_with fail
  refine cC.mono ?_
  rintro e w1 ⟨rfl,hm⟩
  exact⟨rfl,rfl,HMV.out.trans hm (fun k e=>.inl e)⟩
 | ok q =>
  obtain⟨t,ts'⟩:=q
  go_enter Tryz.func89,Tryz.ntmps89
  go_wp2_with fail
  refine cC.mono ?_
  rintro e w1 ⟨⟨m,rfl,rfl,hl,hk⟩,⟨a',c',hr⟩,hm⟩
  obtain⟨⟨k,o,ty,n,f,x,p⟩,am,cm,ks⟩:=m
  have hsz:V§≤w1§:=hm.size
  have hVs:w§ < V§:=(Array.getElem?_eq_some_iff.1 HKV.out).1
  have HK1:Hid (w1.heap[w§]? = some (.cells zA7 64 (0,0))):=(hm.block _ hVs (fun e=>by have:=HBL.out; omega)).trans HKV.out
  have HM1:Hid (Mv w w1 (fun k=>k=b)):=HMV.out.trans hm (fun k e=>.inl e)
  have HR1:=hr.hid
  have HL1:=hl.hid
  have HP1:Hid (Bkn (fun k=>V§≤k∧k < w1§) (.mk ⟨k,o,ty,n,f,x,p⟩ am cm ks)):=hk
  have n3:w1.cell? ⟨b,3,none⟩=some (zI (d+1)):=Co hr.h 3
  have g3:=Fo hr.h 3
  have hb1:b < w1§:=by omega
  obtain⟨W,eW⟩:∃ W,(w1.alloc (.cells (zN k o ty n f x am ks cm p) 64)).setCell ⟨b,3,none⟩ (zI d)=W:=⟨_,rfl⟩
  have hWn:W.heap[w1§]? = some (.cells (zN k o ty n f x am ks cm p) 64 (0,0)):=by rw [← eW]; exact (Below.heap_setCell _ _ _ _ (show w1§≠b by omega)).trans (Hn _ _)
  have hWo:∀ j,j≠b→j < w1§→W.heap[j]? = w1.heap[j]?:=fun j hj hl=>by rw [← eW]; exact (Below.heap_setCell _ _ _ _ hj).trans ((Bn w1 _).block _ hl)
  have hWz:W.heap[w§]? = some (.cells zA7 64 (0,0)):=(hWo _ (by omega) (by omega)).trans HK1.out
  have hWr:Rdr W b G ts' fa fe d a' c':=by rw [← eW]; exact (hr.on (Bn w1 _)).nest (d':=d) (by omega)
  have hWm:Mv w W (fun k=>k=b):=by
   rw [← eW]
   have hm:Mv w (w1.alloc (.cells (zN k o ty n f x am ks cm p) 64)) (fun k=>k=b):=HM1.out.trans (Mv.ofBelow (Bn _ _)) (fun k e=>.inl e)
   exact hm.setCell (a:=⟨b,3,none⟩) (.inl rfl) _
  have hWs:w1§ < W§:=(Array.getElem?_eq_some_iff.1 hWn).1
  have y0:W.cell? ⟨w1§,0,none⟩=some (zU k):=Co hWn 0
  have z0:W.cell? ⟨w§,0,none⟩=some (zU 0):=Co hWz 0
  have q0:=Fo hWz 0
  have y1:W.cell? ⟨w1§,1,none⟩=some (zU o):=Co hWn 1
  have z1:W.cell? ⟨w§,1,none⟩=some (zU 0):=Co hWz 1
  have q1:=Fo hWz 1
  have y2:W.cell? ⟨w1§,2,none⟩=some (zU ty):=Co hWn 2
  have z2:W.cell? ⟨w§,2,none⟩=some (zU 0):=Co hWz 2
  have q2:=Fo hWz 2
  have y3:W.cell? ⟨w1§,3,none⟩=some (zI n):=Co hWn 3
  have z3:W.cell? ⟨w§,3,none⟩=some (zI 0):=Co hWz 3
  have q3:=Fo hWz 3
  have y4:W.cell? ⟨w1§,4,none⟩=some (zU f):=Co hWn 4
  have z4:W.cell? ⟨w§,4,none⟩=some (zU 0):=Co hWz 4
  have q4:=Fo hWz 4
  have y5:W.cell? ⟨w1§,5,none⟩=some (.string x):=Co hWn 5
  have z5:W.cell? ⟨w§,5,none⟩=some (.string ⟨#[]⟩):=Co hWz 5
  have q5:=Fo hWz 5
  have y6:W.cell? ⟨w1§,6,none⟩=some (.slice am ks.length cm):=Co hWn 6
  have z6:W.cell? ⟨w§,6,none⟩=some (.slice none 0 0):=Co hWz 6
  have q6:=Fo hWz 6
  have y7:W.cell? ⟨w1§,7,none⟩=some (zI p):=Co hWn 7
  have z7:W.cell? ⟨w§,7,none⟩=some (zI 0):=Co hWz 7
  have q7:=Fo hWz 7
  obtain⟨Y,eY,hY1,hY2,hY3,hY4⟩:=fin8 hWz (zU k) (zU o) (zU ty) (zI n) (zU f) (.string x) (.slice am ks.length cm) (zI p)
  have HY1:Hid (Y.heap[w§]? = some (.cells (Nd.mk ⟨k,o,ty,n,f,x,p⟩ am cm ks).vals 64 (0,0))):=hY1
  have HEY:Hid (_=Y):=eY
  have HRY:Hid (∃ a c,Rdr Y b G ts' fa fe d a c):=⟨a',c',hWr.blk (hY3 _ (by have:=HBL.out; omega)) (hY3 _ (by have:=HGL.out; omega)) (by omega)⟩
  have HMY:Hid (Mv w Y (fun k=>k=b)):=hY4 _ _ hWm (Nat.le_refl _)
  have HLY:Hid (Lies Y (.mk ⟨k,o,ty,n,f,x,p⟩ am cm ks)):=HL1.out.bkn HP1.out fun j hj=>(hY3 j (by omega)).trans (hWo j (by omega) hj.2)
  have HPY:Hid (Bkn (fun k=>w§≤k∧k < Y§) (.mk ⟨k,o,ty,n,f,x,p⟩ am cm ks)):=HP1.out.mono fun j hj=>by omega
  clear cC hr hm hl hk hWn hWo hWz hWr hWm hY1 hY2 hY3 hY4 eY eV c3 f3
  simp only [Nd.vals,Nd.h,Nd.a,Nd.c,Nd.ks,hdA]
  go_wp2_with fail
  rw [HEY.out]
  exact bodyPost_ret (results_cell_row rfl _ _ w§ 64 (Nd.mk ⟨k, o, ty, n, f, x, p⟩ am cm ks).vals (0, 0) _ rfl HY1.out Tryz.underlying64 rfl zK) rfl ⟨⟨_, rfl, rfl, HLY.out, HPY.out⟩, HRY.out, HMY.out⟩
theorem enter46 (args:Array Value) (v:World):Sem.run Tryz.prog (callFunc 46 args) v=.ok (.enter 46 args) v:=by kernel_rfl
theorem enter180 (args:Array Value) (v:World):Sem.run Tryz.prog (callFunc 180 args) v=.ok (.enter 180 args) v:=by kernel_rfl
def gIn (r:Except Ft (Tr × List Tk)):Except Ft (Tr × List Tk):=do
 let (n,r) ← r
 let (_,r) ← gTake (gB [41]) r
 .ok (n,r)
theorem inBr_any {w:World}{b G:Nat}{ts:List Tk}{fa:Int}{fe:Value}{d:Nat}{a:Option Addr}{c:Nat}(h:Rdr w b G ts fa fe d a c) (hd:d < 1000) (r:Except Ft (Tr × List Tk))
  (cF:∀ v a c,Rdr v b G ts fa fe (d+1) a c→Calls zG 46 #[zP b] v (OutN b G fa fe (d+1) v r)) :
  Calls zG 186 #[.pointer (some ⟨b, 0, none⟩)] w (OutN b G fa fe d w (gIn r)) := by
 have hmf:∀ (fn:Fn) (first cap:Array Value) (w:World),(Instr.makeFunc fn first cap).run Tryz.prog w=.ok (.func fn first cap) w:=fun _ _ _ _=>rfl
 have hb0:=Bn w (.cells zA7 64)
 have h0:=h.on hb0
 have HBL:Hid (b < w§):=h.lt
 have HGL:Hid (G < w§):=h.gl
 have HK0:Hid ((w.alloc (.cells zA7 64)).heap[w§]? = some (.cells zA7 64 (0,0))):=Hn _ _
 have HM0:Hid (Mv w (w.alloc (.cells #[zU 0,zU 0,zU 0,zI 0,zU 0,.string ⟨#[]⟩,.slice none 0 0,zI 0] 64)) (fun k=>k=b)):=Mv.ofBelow hb0
 have cC:=within_any 46 enter46 h0 hd r cF
 clear h h0 hb0 cF hd
 cases r with
 | error f =>
  go_enter Tryz.func186,Tryz.ntmps186
  go_wp2_with fail
  refine cC.mono ?_
  rintro e w1 ⟨rfl,hm⟩
  exact⟨rfl,rfl,HM0.out.trans hm (fun k e=>.inl e)⟩
 | ok q =>
  obtain⟨t,ts'⟩:=q
  have eG:gIn (.ok (t,ts'))=match gTake (gB [41]) ts' with | .error e=>.error e | .ok q=>.ok (t,q.2):=by
   simp only [gIn,bind,Except.bind]
   cases gTake (gB [41]) ts' with
   | error e=>rfl
   | ok q=>rfl
  rw [eG]
  clear eG
  obtain⟨T,eT⟩:∃ T,gTake (gB [41]) ts'=T:=⟨_,rfl⟩
  rw [eT]
  have HET:Hid (gTake (gB [41]) ts'=T):=eT
  clear eT
  go_enter Tryz.func186,Tryz.ntmps186
  go_wp2_with fail
  refine cC.mono ?_
  rintro e w1 ⟨⟨m,rfl,rfl,hl,hk⟩,⟨a',c',hr⟩,hm⟩
  obtain⟨⟨k,o,ty,n,f,x,p⟩,am,cm,ks⟩:=m
  have hWs:w§ < (w.alloc (.cells zA7 64))§:=(Array.getElem?_eq_some_iff.1 HK0.out).1
  have hsz:=hm.size
  have HK1:Hid (w1.heap[w§]? = some (.cells zA7 64 (0,0))):=(hm.block _ hWs (fun e=>by have:=HBL.out; omega)).trans HK0.out
  have HM1:Hid (Mv w w1 (fun k=>k=b)):=HM0.out.trans hm (fun k e=>.inl e)
  have HL1:=hl.hid
  have HP1:Hid (Bkn (fun k=>w§ < k∧k < w1§) (.mk ⟨k,o,ty,n,f,x,p⟩ am cm ks)):=hk.mono fun j hj=>⟨by omega,hj.2⟩
  have hbN:=Bn w1 (.cells (zN k o ty n f x am ks cm p) 64)
  have HKN:Hid ((w1.alloc (.cells (zN k o ty n f x am ks cm p) 64)).heap[w1§]? = some (.cells (zN k o ty n f x am ks cm p) 64 (0,0))):=Hn _ _
  have HKZ:Hid ((w1.alloc (.cells (zN k o ty n f x am ks cm p) 64)).heap[w§]? = some (.cells zA7 64 (0,0))):=(hbN.block _ (by omega)).trans HK1.out
  have HBN:Hid (Below w1§ w1 (w1.alloc (.cells (zN k o ty n f x am ks cm p) 64))):=hbN
  have hRR:Hid (w§ < w1§):=Nat.lt_of_lt_of_le hWs hsz
  have cT:Calls zG 64 #[zP b,.string ZA] (w1.alloc (.cells (zN k o ty n f x am ks cm p) 64)) (OutK b G fa fe d (w1.alloc (.cells (zN k o ty n f x am ks cm p) 64)) T):=by rw [← HET.out]; exact take_any (hr.on hbN) (gB [41])
  clear cC hr hm hl hk hbN hsz hWs
  simp only [Nd.vals,Nd.h,Nd.a,Nd.c,Nd.ks,hdA]
  clear HET
  cases T with
  | error f =>
   go_wp2_with fail
   refine cT.mono ?_
   rintro e w2 ⟨rfl,hm⟩
   exact⟨rfl,rfl,(HM1.out.trans (Mv.ofBelow HBN.out) (fun k e=>.inl e)).trans hm (fun k e=>.inl e)⟩
  | ok q =>
   obtain⟨u,ts2⟩:=q
   go_wp2_with fail
   refine cT.mono ?_
   rintro e w2 ⟨rfl,⟨a2,c2,hr2⟩,hm2⟩
   have hN2:=(Array.getElem?_eq_some_iff.1 HKN.out).1
   have h2N:w2.heap[w1§]? = some (.cells (zN k o ty n f x am ks cm p) 64 (0,0)):=(hm2.block _ hN2 (fun e=>by have:=HBL.out; have:=hRR.out; omega)).trans HKN.out
   have h2Z:w2.heap[w§]? = some (.cells zA7 64 (0,0)):=(hm2.block _ (Nat.lt_trans hRR.out hN2) (fun e=>by have:=HBL.out; omega)).trans HKZ.out
   have h2s:=hm2.size
   have y0:w2.cell? ⟨w1§,0,none⟩=some (zU k):=Co h2N 0
   have z0:w2.cell? ⟨w§,0,none⟩=some (zU 0):=Co h2Z 0
   have q0:=Fo h2Z 0
   have y1:w2.cell? ⟨w1§,1,none⟩=some (zU o):=Co h2N 1
   have z1:w2.cell? ⟨w§,1,none⟩=some (zU 0):=Co h2Z 1
   have q1:=Fo h2Z 1
   have y2:w2.cell? ⟨w1§,2,none⟩=some (zU ty):=Co h2N 2
   have z2:w2.cell? ⟨w§,2,none⟩=some (zU 0):=Co h2Z 2
   have q2:=Fo h2Z 2
   have y3:w2.cell? ⟨w1§,3,none⟩=some (zI n):=Co h2N 3
   have z3:w2.cell? ⟨w§,3,none⟩=some (zI 0):=Co h2Z 3
   have q3:=Fo h2Z 3
   have y4:w2.cell? ⟨w1§,4,none⟩=some (zU f):=Co h2N 4
   have z4:w2.cell? ⟨w§,4,none⟩=some (zU 0):=Co h2Z 4
   have q4:=Fo h2Z 4
   have y5:w2.cell? ⟨w1§,5,none⟩=some (.string x):=Co h2N 5
   have z5:w2.cell? ⟨w§,5,none⟩=some (.string ⟨#[]⟩):=Co h2Z 5
   have q5:=Fo h2Z 5
   have y6:w2.cell? ⟨w1§,6,none⟩=some (.slice am ks.length cm):=Co h2N 6
   have z6:w2.cell? ⟨w§,6,none⟩=some (.slice none 0 0):=Co h2Z 6
   have q6:=Fo h2Z 6
   have y7:w2.cell? ⟨w1§,7,none⟩=some (zI p):=Co h2N 7
   have z7:w2.cell? ⟨w§,7,none⟩=some (zI 0):=Co h2Z 7
   have q7:=Fo h2Z 7
   obtain⟨Y,eY,hY1,hY2,hY3,hY4⟩:=fin8 h2Z (zU k) (zU o) (zU ty) (zI n) (zU f) (.string x) (.slice am ks.length cm) (zI p)
   have HY1:Hid (Y.heap[w§]? = some (.cells (Nd.mk ⟨k,o,ty,n,f,x,p⟩ am cm ks).vals 64 (0,0))):=hY1
   have HEY:Hid (_=Y):=eY
   have HRY:Hid (∃ a c,Rdr Y b G ts2 fa fe d a c):=⟨a2,c2,hr2.blk (hY3 _ (by have:=HBL.out; omega)) (hY3 _ (by have:=HGL.out; omega)) (by omega)⟩
   have HMY:Hid (Mv w Y (fun k=>k=b)):=hY4 _ _ ((HM1.out.trans (Mv.ofBelow HBN.out) (fun k e=>.inl e)).trans hm2 (fun k e=>.inl e)) (Nat.le_refl _)
   have HLY:Hid (Lies Y (.mk ⟨k,o,ty,n,f,x,p⟩ am cm ks)):=HL1.out.bkn HP1.out fun j hj=>((hY3 j (by omega)).trans (hm2.block j (Nat.lt_of_lt_of_le hj.2 HBN.out.size) (fun e=>by have:=HBL.out; omega))).trans (HBN.out.block j hj.2)
   have HPY:Hid (Bkn (fun k=>w§≤k∧k < Y§) (.mk ⟨k,o,ty,n,f,x,p⟩ am cm ks)):=HP1.out.mono fun j hj=>by omega
   clear cT hr2 hm2 h2N h2Z h2s hN2 hY1 hY2 hY3 hY4 eY
   go_wp2_with fail
   rw [HEY.out]
   exact bodyPost_ret (results_cell_row rfl _ _ w§ 64 (Nd.mk ⟨k,o,ty,n,f,x,p⟩ am cm ks).vals (0,0) _ rfl HY1.out Tryz.underlying64 rfl zK) rfl ⟨⟨_,rfl,rfl,HLY.out,HPY.out⟩,HRY.out,HMY.out⟩
theorem lit_no {w:World}{b G:Nat}{fa:Int}{fe:Value}{d:Nat}{a:Option Addr}{c:Nat}(h:Rdr w b G [] fa fe d a c):Calls zG 130 #[zP b] w (OutN b G fa fe d w (gLit [])):=by
 have hb0:=Bn w (.cells zA7 64)
 have cL:=look_no (h.on hb0)
 have HB0:=hd hb0
 clear h hb0
 go_enter Tryz.func130,Tryz.ntmps130
 go_wp2_with fail
 refine cL.mono ?_
 rintro e w1 ⟨rfl,hb⟩
 exact⟨rfl,rfl,Mv.ofBelow (B2 HB0.out hb)⟩
structure RgT (t:Tk):Prop where
 x1:t.x.size≤140737488355328
 y0:0≤t.ty
 y1:t.ty≤255
 n0:-9223372036854775808≤t.n
 n1:t.n≤9223372036854775807
 p0:-9223372036854775808≤t.p
 p1:t.p≤9223372036854775807
theorem RgT.val {t:Tk}(h:RgT t):Rg ⟨1,0,(valT t).1,(valT t).2,0,gE,t.p⟩:=by
 have:=h.y0; have:=h.y1; have:=h.n0; have:=h.n1; have:=h.p0; have:=h.p1
 have hv:0≤(valT t).1∧(valT t).1≤255∧-9223372036854775808≤(valT t).2∧(valT t).2≤9223372036854775807:=by
  unfold valT
  split
  ·simp
  split
  ·simp
  split
  ·simp
  split
  ·simp
  exact⟨h.y0,h.y1,h.n0,h.n1⟩
 constructor <;> first | omega | (show (0:Nat)≤_; omega) | (simp only; omega) | simp
theorem below_tk {w w1:World}(t:Tk) (h:Below w§ w w1):Below w§ w (w1.alloc (.cells (zT t) 82)):=B2 h (Bn _ _)
theorem lit_ok {w:World}{b G:Nat}{t:Tk}{ts:List Tk}{fa:Int}{fe:Value}{d:Nat}{a:Option Addr}{c:Nat}(h:Rdr w b G (t :: ts) fa fe d a c) (ht:RgT t):Calls zG 130 #[zP b] w (OutN b G fa fe d w (gLit (t :: ts))):=by
 have hb0:=Bn w (.cells zA7 64)
 have h0:=h.on hb0
 have cL:=look_ok h0
 have HB0:=hd hb0
 have HH0:=h0.hid
 have HBL:Hid (b < w§):=h.lt
 have HGL:Hid (G < w§):=h.gl
 have HT:=hd ht.val
 obtain⟨ty,ety⟩:∃ v,(valT t).1=v:=⟨_,rfl⟩
 obtain⟨n,en⟩:∃ v,(valT t).2=v:=⟨_,rfl⟩
 have cV:=fun v=>valueOf_any t v
 have eG:gLit (t :: ts)=if ty=0 then .error (.tok 130 t.p) else .ok (.mk ⟨1,0,ty,n,0,gE,t.p⟩ [],ts):=by
  rw [← ety,← en]
  by_cases e:(valT t).1=0
  ·simp [gLit,gLook,gNeed,bind,Except.bind,e]
  ·simp [gLit,gLook,gNeed,gStep,bind,Except.bind,e]
 rw [eG]
 rw [ety,en] at HT cV
 unfold tkA at cL cV
 clear h hb0 h0 eG ety en ht
 by_cases e:ty=0
 ·rw [if_pos e]
  subst e
  go_enter Tryz.func130,Tryz.ntmps130
  go_wp2_with fail
  refine cL.mono ?_
  rintro e w1 ⟨rfl,hb⟩
  have HB:=hd (B2 HB0.out hb)
  have HH:=(HH0.out.on hb).hid
  clear hb cL
  go_wp2_with fail
  refine (cV _).mono ?_
  rintro e w2 ⟨rfl,hb⟩
  have HB2:=hd (B2 (below_tk t HB.out) hb)
  have cN:=need_tok ((HH.out.on (Bn _ _)).on hb) 130
  clear hb cV
  go_wp2_with fail
  refine cN.mono ?_
  rintro e w3 ⟨rfl,hb3⟩
  exact⟨rfl,rfl,Mv.ofBelow (B2 HB2.out hb3)⟩
 ·rw [if_neg e]
  have e2:decide (ty=0)=false:=decide_eq_false e
  have e3:(ty == 0)=false:=by simpa using e
  have e4:(ty != 0)=true:=by simpa using e
  go_enter Tryz.func130,Tryz.ntmps130
  go_wp2_with fail
  refine cL.mono ?_
  rintro e w1 ⟨rfl,hb⟩
  have HB:=hd (B2 HB0.out hb)
  have HH:=(HH0.out.on hb).hid
  have HR:Hid (w1.heap[w§]? = some (.cells zA7 64 (0,0))):=(hb.block _ (by rw [Sa]; omega)).trans (Hn _ _)
  clear hb cL
  go_wp2_with fail
  refine (cV _).mono ?_
  rintro e w2 ⟨rfl,hb⟩
  have HB2:=hd (B2 (below_tk t HB.out) hb)
  have cS:=step_ok ((HH.out.on (Bn _ _)).on hb)
  have HX:Hid (w2.heap[w1§]? = some (.cells (zT t) 82 (0,0))):=(hb.block _ (by rw [Sa]; omega)).trans (Hn _ _)
  have hlt:w§ < w1§:=(Array.getElem?_eq_some_iff.1 HR.out).1
  have HR2:Hid (w2.heap[w§]? = some (.cells zA7 64 (0,0))):=((hb.block _ (by rw [Sa]; omega)).trans ((Bn w1 _).block _ hlt)).trans HR.out
  have cN:=need_ok w2 b 130
  clear hb cV
  go_wp2_with (go_at_call 72; refine cN.mono ?_; rintro e w3 ⟨rfl,e4⟩; obtain rfl:=e4.symm)
  refine cS.mono ?_
  rintro e w3 ⟨rfl,⟨a3,c3,hr3⟩,hm3⟩
  have HM3:=hd ((Mv.ofBelow HB2.out).trans hm3 (fun k e=>.inl e))
  have HR3:Hid (w3.heap[w§]? = some (.cells zA7 64 (0,0))):=(hm3.block _ (Array.getElem?_eq_some_iff.1 HR2.out).1 (fun e=>by have:=HBL.out; omega)).trans HR2.out
  have hX3:w3.heap[w1§]? = some (.cells (zT t) 82 (0,0)):=(hm3.block _ (Array.getElem?_eq_some_iff.1 HX.out).1 (fun e=>by have:=HBL.out; omega)).trans HX.out
  have HRD:=hr3.hid
  have x4:w3.cell? ⟨w1§,4,none⟩=some (zI t.p):=Co hX3 4
  obtain⟨z0,z1,z2,z3,z4,z5,z6,z7⟩:=cl8 HR3.out
  obtain⟨q0,q1,q2,q3,q4,q5,q6,q7⟩:=fz8 HR3.out
  obtain⟨Y,eY,hY1,hY2,hY3,hY4⟩:=fin8 HR3.out (zU 1) (zU 0) (zU ty) (zI n) (zU 0) (.string ⟨#[]⟩) (.slice none 0 0) (zI t.p)
  have HY1:=hd hY1
  have HEY:Hid (_=Y):=eY
  have HRY:Hid (∃ a c,Rdr Y b G ts fa fe d a c):=⟨a3,c3,HRD.out.blk (hY3 _ (by have:=HBL.out; omega)) (hY3 _ (by have:=HGL.out; omega)) (by omega)⟩
  have HMY:Hid (Mv w Y (fun k=>k=b)):=hY4 _ _ HM3.out (Nat.le_refl _)
  clear cS hr3 hm3 hX3 eY hY1 hY2 hY3 hY4
  go_wp2_with fail
  rw [HEY.out]
  exact bodyPost_ret (results_cell_row rfl _ _ w§ 64 (Nd.mk ⟨1,0,ty,n,0,gE,t.p⟩ none 0 []).vals (0,0) _ rfl HY1.out Tryz.underlying64 rfl zK) rfl ⟨⟨_,rfl,rfl,lies0 _ HT.out,bkn0 _ _⟩,HRY.out,HMY.out⟩
theorem field82_0 (t:Tk) (v:World):(Instr.field 82 (.agg (tkA t)) 0).run Tryz.prog v=.ok (zU t.k) v:=by kernel_rfl
def gName (ts:List Tk):Except Ft (ByteArray × List Tk):=do
 let t ← gLook ts
 gNeed (decide (t.k=2)) 130 ts
 let (u,r) ← gStep ts
 .ok (u.x,r)
def gEnd (ts:List Tk):Except Ft Unit:=do
 let t ← gLook ts
 gNeed (decide (t.k=0)) 130 ts
def OutS (b G:Nat) (fa:Int) (fe:Value) (d:Nat) (w:World) (r:Except Ft (ByteArray × List Tk)) (e:Ending) (w':World):Prop :=
 match r with
 | .ok (x,ts)=>e=.returned (.string x)∧(∃ a c,Rdr w' b G ts fa fe d a c)∧Mv w w' (fun k=>k=b)
 | .error f=>e=pan (ftV fa fe f)∧Mv w w' (fun k=>k=b)
theorem name_any {w:World}{b G:Nat}{ts:List Tk}{fa:Int}{fe:Value}{d:Nat}{a:Option Addr}{c:Nat}(h:Rdr w b G ts fa fe d a c):Calls zG 65 #[zP b] w (OutS b G fa fe d w (gName ts)):=by
 cases ts with
 | nil =>
  have cL:=look_no h
  clear h
  go_enter Tryz.func65,Tryz.ntmps65
  go_wp2_with fail
  refine cL.mono ?_
  rintro e w1 ⟨rfl,hb⟩
  exact⟨rfl,rfl,Mv.ofBelow hb⟩
 | cons t ts =>
  have cL:=look_ok h
  have HH:=h.hid
  have hf:=fun v=>field82_0 t v
  have hf1:=fun v=>field82_1 t v
  clear h
  by_cases e:t.k=2
  ·have eT:gName (t :: ts)=.ok (t.x,ts):=by simp [gName,gLook,gNeed,gStep,bind,Except.bind,e]
   rw [eT]
   clear eT
   go_enter Tryz.func65,Tryz.ntmps65
   go_wp2_with fail
   refine cL.mono ?_
   rintro e w1 ⟨rfl,hb⟩
   have HB:=hd hb
   have cS:=step_ok (HH.out.on hb)
   have cN:=need_ok w1 b 130
   clear hb cL
   go_wp2_with (go_at_call 72; refine cN.mono ?_; rintro e w3 ⟨rfl,e4⟩; obtain rfl:=e4.symm)
   refine cS.mono ?_
   rintro e w2 ⟨rfl,hr2,hm2⟩
   have HR2:=hd hr2
   have HM2:=hd ((Mv.ofBelow HB.out).trans hm2 (fun k e=>.inl e))
   clear cS hr2 hm2
   go_wp2_with fail
   go_ret
   exact⟨rfl,HR2.out,HM2.out⟩
  ·have e2:decide (t.k=2)=false:=decide_eq_false e
   have e3:(t.k == 2)=false:=by simpa using e
   have eT:gName (t :: ts)=.error (.tok 130 t.p):=by simp [gName,gLook,gNeed,bind,Except.bind,e]
   rw [eT]
   clear eT
   go_enter Tryz.func65,Tryz.ntmps65
   go_wp2_with fail
   refine cL.mono ?_
   rintro e w1 ⟨rfl,hb⟩
   have HB:=hd hb
   have cN:=need_tok (HH.out.on hb) 130
   clear hb cL
   go_wp2_with fail
   refine cN.mono ?_
   rintro e w2 ⟨rfl,hb2⟩
   exact⟨rfl,rfl,Mv.ofBelow (B2 HB.out hb2)⟩
def OutU (fa:Int) (fe:Value) (w:World) (r:Except Ft Unit) (e:Ending) (w':World):Prop :=
 (match r with
 | .ok _=>e=.returned (.tuple #[])
 | .error f=>e=pan (ftV fa fe f))∧Below w§ w w'
theorem end_any {w:World}{b G:Nat}{ts:List Tk}{fa:Int}{fe:Value}{d:Nat}{a:Option Addr}{c:Nat}(h:Rdr w b G ts fa fe d a c):Calls zG 63 #[zP b] w (OutU fa fe w (gEnd ts)):=by
 cases ts with
 | nil =>
  have cL:=look_no h
  clear h
  go_enter Tryz.func63,Tryz.ntmps63
  go_wp2_with fail
  refine cL.mono ?_
  rintro e w1 ⟨rfl,hb⟩
  exact⟨rfl,rfl,hb⟩
 | cons t ts =>
  have cL:=look_ok h
  have HH:=h.hid
  have hf:=fun v=>field82_0 t v
  have hf1:=fun v=>field82_1 t v
  clear h
  by_cases e:t.k=0
  ·have e2:decide (t.k=0)=true:=decide_eq_true e
   have e3:(t.k == 0)=true:=by simpa using e
   have eT:gEnd (t :: ts)=.ok ():=by simp [gEnd,gLook,gNeed,bind,Except.bind,e]
   rw [eT]
   clear eT
   go_enter Tryz.func63,Tryz.ntmps63
   go_wp2_with fail
   refine cL.mono ?_
   rintro e w1 ⟨rfl,hb⟩
   have HB:=hd hb
   have cN:=need_ok w1 b 130
   clear hb cL
   go_wp2_with (go_at_call 72; refine cN.mono ?_; rintro e w3 ⟨rfl,e4⟩; obtain rfl:=e4.symm)
   go_end0
   exact⟨rfl,HB.out⟩
  ·have e2:decide (t.k=0)=false:=decide_eq_false e
   have e3:(t.k == 0)=false:=by simpa using e
   have eT:gEnd (t :: ts)=.error (.tok 130 t.p):=by simp [gEnd,gLook,gNeed,bind,Except.bind,e]
   rw [eT]
   clear eT
   go_enter Tryz.func63,Tryz.ntmps63
   go_wp2_with fail
   refine cL.mono ?_
   rintro e w1 ⟨rfl,hb⟩
   have HB:=hd hb
   have cN:=need_tok (HH.out.on hb) 130
   clear hb cL
   go_wp2_with fail
   refine cN.mono ?_
   rintro e w2 ⟨rfl,hb2⟩
   exact⟨rfl,rfl,B2 HB.out hb2⟩
end Go.Proofs.YtkfabnchhjfjjaaGreatDoor
