import Derived.Test.YtoogodlnnijikaaGreatDoorA0
import Derived.Test.YtoogodlnnijikaaGreatDoorA40
import Derived.Deep.Upon
import Derived.Maps.AppendAt
import Derived.Test.YtoogodlnnijikaaGreatDoorA38
namespace Go.Proofs.YtoogodlnnijikaaGreatDoor
set_option maxHeartbeats 8000000
set_option maxRecDepth 100000
open Go.RowKit
set_option linter.unusedVariables false
theorem sz_set (w:yW) (p:Addr) (x:Value):(w.setCell p x)§=w§:=by simp [World.setCell]
theorem set_below {W wr:yW}(h:yD W wr) (p:Addr) (x:Value):Below (W.setCell p x)§ (W.setCell p x) (wr.setCell p x):=by
 refine⟨h.os,h.tape,h.output,by rw [sz_set,sz_set]; exact h.size,fun b hb=>?_⟩
 rw [sz_set] at hb
 have hh:=h.block b hb
 unfold World.setCell
 simp only [Array.getElem?_modify]
 rw [hh]
theorem Cpl.set {X Y:Type}{vals:X→Array Value}{LX:yW→X→Prop}{BX:(Nat→Prop)→X→Prop}{f:X→Y}{e:TypeId}{n:Nat}{W wr:yW}{v:Value}{ks L:List X}{i:Nat}(h:Cpl vals LX BX f e n W wr v ks L i) (K:Knd vals LX BX f n) {p:Addr}(hp:p.block < W§) (x:Value) :
  Cpl vals LX BX f e n (W.setCell p x) (wr.setCell p x) v ks L i:=by
 have hne:∀ b,W§≤b→(wr.setCell p x).heap[b]? = wr.heap[b]?:=fun b hb=>Below.heap_setCell _ _ _ _ (by omega)
 exact⟨h.l,⟨h.r.row.of_block (fun k hk=>hne k (h.r.nb k hk)),fun k hk=>by rw [sz_set]; exact h.r.nb k hk,set_below h.r.B p x,h.r.sz⟩,h.b,fun y hy=>⟨K.bk _ _ _ y (fun b _ hb=>hne b hb.1) (h.y y hy).1 (h.y y hy).2,K.mono _ _ y (fun b hb=>by rw [sz_set,sz_set]; exact hb) (h.y y hy).2⟩⟩
structure BxC (w:yW) (S:StratM) (v1 v2 v3:Value) (W:yW):Prop where
 b:yD w W
 n:w§+3≤W§
 s:W.heap[w§]? = (zC S.vals 27)
 z:W.heap[w§+1]? = (zC ze 27)
 x:W.heap[w§+2]? = (zC #[.string S.x,v1,v2,v3] 27)
theorem BxC.on {w:yW}{S:StratM}{v1 v2 v3:Value}{W W':yW}(h:BxC w S v1 v2 v3 W) (k:yD W W'):BxC w S v1 v2 v3 W' :=
 have hn:=h.n
 ⟨below2 h.b k,Nat.le_trans h.n k.size,(k.block _ (by omega)).trans h.s,(k.block _ (by omega)).trans h.z,(k.block _ (by omega)).trans h.x⟩
theorem BxC.set {w:yW}{S:StratM}{v1 v2 v3:Value}{W:yW}(h:BxC w S v1 v2 v3 W) (j:Nat) (v:Value) {u1 u2 u3:Value}(he:(#[.string S.x,v1,v2,v3]:Array Value).setIfInBounds j v=#[.string S.x,u1,u2,u3]):BxC w S u1 u2 u3 (W.setCell ⟨w§+2,j,none⟩ v):=by
 refine⟨h.b.setCell (p:=⟨w§+2,j,none⟩) (by show w§≤w§+2; omega) v,by rw [sz_set]; exact h.n,?_,?_,?_⟩
 ·exact (Below.heap_setCell _ _ _ _ (by show w§≠w§+2; omega)).trans h.s
 ·exact (Below.heap_setCell _ _ _ _ (by show w§+1≠w§+2; omega)).trans h.z
 ·rw [heap_set _ h.x,he]
structure CpR (w:yW) (S:StratM) (R:List RegM) (v1 v2:Value) (h1 h2:Nat) (W:yW):Prop where
 a:w§+3≤h1
 b:h1≤h2
 c:h2≤W§
 r:Row W 62 11 v1 R.length (arF (R.map RegM.vals) 11)
 rn:∀ k,v1.ownBlock=some k→w§+3≤k∧k < h1
 rb:R.map bReg=S.rs.map bReg
 re:∀ x ∈ R,RegL W x∧RegB (fun b=>w§+3≤b∧b < h1∧v1.ownBlock≠some b) x
 s:Row W 65 2 v2 S.ss.length (arF (S.ss.map SlotM.vals) 2)
 sn:∀ k,v2.ownBlock=some k→h1≤k∧k < h2
theorem CpR.kp {w:yW}{S:StratM}{R:List RegM}{v1 v2:Value}{h1 h2:Nat}{W W':yW}(h:CpR w S R v1 v2 h1 h2 W) (k:∀ b,w§+3≤b→b < h2→W'.heap[b]? = W.heap[b]?) (hc:h2≤W'§):CpR w S R v1 v2 h1 h2 W':=by
 have ha:=h.a
 have hb:=h.b
 refine⟨h.a,h.b,hc,h.r.of_block (fun q hq=>k q (h.rn q hq).1 (by have:=(h.rn q hq).2; omega)),h.rn,h.rb,fun x hx=>⟨kndReg.bk _ _ _ x (fun b _ hp=>k b hp.1 (by omega)) (h.re x hx).1 (h.re x hx).2,(h.re x hx).2⟩,h.s.of_block (fun q hq=>k q (by have:=(h.sn q hq).1; omega) (h.sn q hq).2),h.sn⟩
structure CpF (w:yW) (S:StratM) (R:List RegM) (T:List StateM) (v1 v2 v3:Value) (h1 h2:Nat) (W:yW):Prop where
 p:CpR w S R v1 v2 h1 h2 W
 t:Row W 68 3 v3 T.length (arF (T.map StateM.vals) 3)
 tn:∀ k,v3.ownBlock=some k→h2≤k
 tb:T.map bState=S.ts.map bState
 te:∀ x ∈ T,StateL W x∧StateB (fun b=>h2≤b∧v3.ownBlock≠some b) x
theorem cpr_of {w:yW}{S:StratM}{v v2:Value}{W wr w2:yW}{L:List RegM}(hB:BxC w S v (.slice none 0 0) (.slice none 0 0) W) (h:Cpl RegM.vals RegL RegB bReg 62 11 W wr v S.rs L S.rs.length)
  (hr:Row w2 65 2 v2 S.ss.length (arF (S.ss.map SlotM.vals) 2)) (hb:yD wr w2) (hn:∀ k,v2.ownBlock=some k→wr§≤k∧k < w2§):CpR w S L v v2 wr§ w2§ w2:=by
 have hW:=h.r.B.size
 have hN:=hB.n
 have hrow:=h.r.row
 rw [List.length_map] at hrow
 have hbb:=h.b
 rw [List.take_length] at hbb
 refine⟨by omega,hb.size,Nat.le_refl _,hrow.of_block (fun k hk=>hb.block k (hrow.lt k hk)),fun k hk=>⟨by have:=h.r.nb k hk; omega,hrow.lt k hk⟩,hbb,fun x hx=>?_,hr,hn⟩
 obtain⟨y1,y2⟩:=h.y x hx
 exact⟨y1.on hb,kndReg.mono _ _ x (fun b hp=>⟨by omega,hp.2⟩) y2⟩
theorem run_append_nil_src {P:Program}(w:yW) (t ty e:TypeId) (i:TypeInfo) (ht:P.underlying t=some (.slice e)) (hi:P.info? e=some i) (base:Option Addr) (sLen sCap c:Nat) (hle:sLen≤sCap) :
  (Builtin.append_ #[t,t] ty #[.slice base sLen sCap,.slice none 0 c]).run P w=.ok (.slice base sLen sCap) w:=by
 cases base <;> simp [Builtin.append_,run_underlying ht,sizeOf,typeInfo,hi,Builtin.lenOf,Builtin.firstCells,hle,storeCells]
theorem append_all {W w0:yW}{ops:Array Oper}{rest:List Oper}{o:Oper}{a:Act}{Q:Exit→Act→yW→Prop}(hgd:o.guard=none) (d x:Operand) (t e:TypeId) (n:Nat) (by_:Nat) (z:Value)
  (ho:o.op=.call { callee:=.builtin .append,args:=#[d,x],argTypes:=#[t,t] }) (hu:Tryz.prog.underlying t=some (.slice e)) (hi:(Tryz.prog.info? e).map (fun i=>(i.zero,i.size,i.bytes))=some (some z,n,by_)) (hz:z.cells.size=n) (hb:0 < n) (hn1:n≤100) (hby:by_≤1000)
  (L:List (Array Value)) (sp:Option Addr) (c:Nat) (hsl:SlAt w0 n sp c L) (hL:∀ y ∈ L,y.size=n∧∀ u ∈ y.toList,u.oneCell'=true) (m:Nat) (hm:L.length=m) (hs:a.eval d=.slice none 0 0) (hx:a.eval x=.slice sp m c) (hlen:L.length≤1000000000)
  (h:∀ v' w',Row w' e n v' L.length (arF L n)→yD w0 w'→(∀ k,v'.ownBlock=some k→w0§≤k∧k < w'§)→wpList Tryz.prog ops Q rest (a.put o.dst v') w') :
  wpList Tryz.prog ops Q (o :: rest) a w0:=by
 subst hm
 obtain⟨i0,hi0,hz0,hz1,hz2⟩:=info_parts hi
 refine wpList_plain hgd fun K hK=>?_
 have hnil:Row w0 e n (.slice none 0 0) 0 (arF L n):=Row.nil _ _ _ _
 cases hsp:sp with
 | none =>
  have h0:L = []:=by
   cases L with
   | nil=>rfl
   | cons y l=>obtain⟨b,oo,hab,_⟩:=hsl.2.2 0 (by simp); rw [hsp] at hab; cases hab
  subst h0
  have hr:=run_append_nil_src (P:=Tryz.prog) w0 t o.type e i0 hu hi0 none 0 0 c (Nat.le_refl _)
  unfold Oper.wp execOp
  simp only [ho,resolve,invoke,builtin,Sem.run_bind,Sem.run_pure,Result.andThen_ok,List.map_toArray,List.map_cons,List.map_nil,hs,hx,hsp,List.length_nil,hr]
  exact hK _ _ (h _ w0 hnil (Below.refl _ _) (fun k hk=>by simp [Value.ownBlock] at hk))
 | some ad =>
  obtain⟨v',w',hr,h2,h3,_,h5⟩:=run_append_own_at (P:=Tryz.prog) w0 0 t o.type e i0 z n by_ hu hi0 hz0 hz1 hz2 hz hb (.slice none 0 0) 0 _ hnil ad L.length c ((List.range (L.length * n)).map (arF L n)) (by simp)
   (fun j u hu'=>by
    have hj:j < L.length * n:=by have:=(List.getElem?_eq_some_iff.1 hu').1; simpa using this
    rw [List.getElem?_map,List.getElem?_range hj] at hu'
    have hq:j / n < L.length:=(Nat.div_lt_iff_lt_mul hb).2 hj
    obtain⟨b,oo,e1,e2⟩:=hsl.2.2 (j / n) hq
    rw [hsp] at e1
    simp only [Option.some.injEq] at e1
    subst e1
    have hm:j % n < n:=Nat.mod_lt _ hb
    have e3:=e2 (j % n) hm
    have hd:=Nat.div_add_mod j n
    rw [show oo+j / n * n+j % n=oo+j by rw [Nat.mul_comm] at hd; omega] at e3
    rw [show (Addr.mk b oo none).add j=⟨b,oo+j,none⟩ by unfold Addr.add; by_cases hj0:j=0 <;> simp [hj0]]
    rw [e3,← hu']
    have hs2:=(hL _ (List.getElem_mem hq)).1
    simp [arF,List.getD,hq,show j % n < L[j / n].size by omega])
   (fun u hu'=>by
    obtain⟨j,hj,rfl⟩:=List.mem_map.1 hu'
    have hj':j < L.length * n:=List.mem_range.1 hj
    have hq:j / n < L.length:=(Nat.div_lt_iff_lt_mul hb).2 hj'
    have hm:j % n < n:=Nat.mod_lt _ hb
    have hs2:=hL _ (List.getElem_mem hq)
    refine hs2.2 _ ?_
    simp [arF,List.getD,hq,show j % n < L[j / n].size by omega])
   (by simp only [maxLen]; omega) (by
    have:(0+L.length) * by_≤1000000000 * 1000:=Nat.mul_le_mul (by omega) hby
    omega) (Nat.zero_le _)
  unfold Oper.wp execOp
  simp only [ho,resolve,invoke,builtin,Sem.run_bind,Sem.run_pure,Result.andThen_ok,List.map_toArray,List.map_cons,List.map_nil,hs,hx,hsp,hr]
  refine hK _ _ (h v' w' ?_ ((Below.refl _ w0).grown h3 (Nat.le_refl _) (fun k hk=>by simp [Value.ownBlock] at hk)) (fun k hk=>?_))
  ·unfold Row
   rw [Nat.zero_mul,List.range_zero,List.map_nil,List.nil_append,Nat.zero_add] at h2
   exact h2
  ·have hlt:=(World.ownsRow.lt h2 k hk).2
   rcases h5 with h5 | h5
   ·rw [h5] at hk; simp [Value.ownBlock] at hk
   ·rw [h5] at hk
    simp only [Option.some.injEq] at hk
    omega
theorem rng_on {w u:yW}{b o:Nat}{l:List Value}(h:w.rangeAt b o l) (k:yD w u):u.rangeAt b o l:=fun j v hv =>
 (k.cell (World.block_lt_of_cell? w _ (h j v hv))).trans (h j v hv)
theorem cpf_of {w:yW}{S:StratM}{v v2 v3:Value}{W wr Y:yW}{L:List RegM}{T:List StateM}{h1 h2:Nat}(hB:BxC w S v v2 v3 W) (hR:CpR w S L v v2 h1 h2 W) (h:Cpl StateM.vals StateL StateB bState 68 3 W wr v3 S.ts T S.ts.length)
  (hY:∀ b,w§+3≤b→Y.heap[b]? = wr.heap[b]?) (hs:Y§=wr§):CpF w S L T v v2 v3 h1 h2 Y:=by
 have hN:=hB.n
 have hW:=h.r.B.size
 have hc:=hR.c
 have hrow:=h.r.row
 rw [List.length_map] at hrow
 have hbb:=h.b
 rw [List.take_length] at hbb
 refine⟨hR.kp (fun b hb1 hb2=>(hY b hb1).trans (h.r.B.block b (by omega))) (by omega),hrow.of_block (fun k hk=>hY k (by have:=h.r.nb k hk; omega)),fun k hk=>by have:=h.r.nb k hk; omega,hbb,fun x hx=>?_⟩
 obtain⟨y1,y2⟩:=h.y x hx
 exact⟨kndState.bk _ _ _ x (fun b _ hp=>hY b (by omega)) y1 y2,kndState.mono _ _ x (fun b hp=>⟨by omega,hp.2.2⟩) y2⟩
set_option linter.unusedSimpArgs false
def StratZ9 (S:StratM):Prop:=S.rs.length≤900000000∧(∀ r ∈ S.rs,size r.m≤900000000)∧S.ss.length≤900000000∧S.ts.length≤900000000∧∀ s ∈ S.ts,StateZ9 s
theorem RA.sl3 {W w:yW}{e:TypeId}{n:Nat}{v:Value}{L:List (Array Value)}(h:RA W w e n v L):∃ a k c,v=.slice a k c:=let ⟨a,c,e,_⟩:=h.row.form; ⟨a,_,c,e⟩
theorem size27s:(Tryz.prog.info? 27).map (·.size)=some 4:=by kernel_rfl
theorem size62s:(Tryz.prog.info? 62).map (·.size)=some 11:=by kernel_rfl
theorem one11 (y:RegM):∀ u ∈ y.vals.toList,u.oneCell'=true:=by
 intro u hu
 have h:=all11 y
 rw [← Array.all_toList] at h
 exact List.all_eq_true.1 h u hu
theorem one3 (y:StateM):∀ u ∈ y.vals.toList,u.oneCell'=true:=by
 intro u hu
 simp [StateM.vals] at hu
 rcases hu with rfl | rfl | rfl <;> rfl
theorem one2 (y:SlotM):∀ u ∈ y.vals.toList,u.oneCell'=true:=by
 intro u hu
 simp [SlotM.vals] at hu
 rcases hu with rfl | rfl <;> rfl
theorem infSt:(Tryz.prog.info? 68).map (fun i=>(i.zero,i.size,i.bytes))=some (some (.agg zk),3,48):=by kernel_rfl
abbrev Z4:Array Value:=ze
abbrev Z11:Array Value:=zc
theorem bx_new (w:yW) (S:StratM):BxC w S (.slice none 0 0) (.slice none 0 0) (.slice none 0 0) ((((w.alloc (.cells S.vals 27)).alloc (.cells Z4 27)).alloc (.cells Z4 27)).setRow (w§+2) #[.string S.x,.slice none 0 0,.slice none 0 0,.slice none 0 0]):=by
 have s1:=size_alloc w (.cells S.vals 27)
 have s2:=size_alloc (w.alloc (.cells S.vals 27)) (.cells Z4 27)
 have s3:=size_alloc ((w.alloc (.cells S.vals 27)).alloc (.cells Z4 27)) (.cells Z4 27)
 have k:=below2 (below_two w (.cells S.vals 27) (.cells Z4 27)) (below_new ((w.alloc (.cells S.vals 27)).alloc (.cells Z4 27)) (.cells Z4 27))
 have n0:=heap_new w (.cells S.vals 27)
 have n1:=heap_new (w.alloc (.cells S.vals 27)) (.cells Z4 27)
 have n2:=heap_new ((w.alloc (.cells S.vals 27)).alloc (.cells Z4 27)) (.cells Z4 27)
 refine⟨below_row k (by omega) _,by rw [sz_row]; omega,?_,?_,?_⟩
 ·rw [setRow_oth _ _ _ (by omega)]
  exact heap_old (heap_old n0 (by omega)) (by omega)
 ·rw [setRow_oth _ _ _ (by omega),← s1]
  exact heap_old n1 (by omega)
 ·rw [show w§+2=((w.alloc (.cells S.vals 27)).alloc (.cells Z4 27))§ by omega]
  exact setRow_heap _ _ _ _ _ _ n2
theorem copyStrat_any (S:StratM) (w:yW) (hl:StratL w S) (hz:StratZ9 S):Calls zG 21 #[.agg S.vals] w fun e w'=>∃ R T v1 v2 v3,e=.returned (.agg #[.string S.x,v1,v2,v3])∧(∃ h1 h2,CpF w S R T v1 v2 v3 h1 h2 w')∧yD w w':=by
 have HL:Hid (StratL w S∧StratZ9 S):=⟨hl,hz⟩
 have hbx:=bx_new w S
 obtain⟨W0,eW⟩:∃ W,(((w.alloc (.cells S.vals 27)).alloc (.cells Z4 27)).alloc (.cells Z4 27)).setRow (w§+2) #[.string S.x,.slice none 0 0,.slice none 0 0,.slice none 0 0]=W:=⟨_,rfl⟩
 rw [eW] at hbx
 have HB0:Hid (BxC w S (.slice none 0 0) (.slice none 0 0) (.slice none 0 0) W0):=hbx
 have HEW:Hid ((((w.alloc (.cells S.vals 27)).alloc (.cells Z4 27)).alloc (.cells Z4 27)).setRow (w§+2) #[.string S.x,.slice none 0 0,.slice none 0 0,.slice none 0 0]=W0):=eW
 have HN2:Hid ((((w.alloc (.cells S.vals 27)).alloc (.cells Z4 27)).alloc (.cells Z4 27)).heap[w§+2]? = (zC Z4 27)):=by
  show _=_
  have n2:=heap_new ((w.alloc (.cells S.vals 27)).alloc (.cells Z4 27)) (.cells Z4 27)
  rw [size_alloc,size_alloc] at n2
  exact n2
 clear hl hz hbx eW
 show Calls zG 21 #[.agg #[.string S.x,.slice S.ra S.rs.length S.rc,.slice S.sa S.ss.length S.sc,.slice S.ta S.ts.length S.tc]] w _
 go_enter Tryz.func21,Tryz.ntmps21
 go_upto_region 2 with (refine wpList_store_row rfl 27 (.tmp 3) (.tmp 9) rfl (w§+2) #[.string S.x,.slice none 0 0,.slice none 0 0,.slice none 0 0] rfl rfl 27 Z4 HN2.out size27s rfl (by simp [Value.oneCell']) ?_)
 have HEW':=HEW.out
 unfold StratM.vals Z4 at HEW'
 rw [HEW']
 clear HEW HEW' HN2
 go_wp2_with fail
 go_loopw [4] (fun t wr=>∃ (i:Nat) (L:List RegM) (v:Value) (W:yW),i≤S.rs.length∧t=zI i∧Hid (BxC w S v (.slice none 0 0) (.slice none 0 0) W∧Cpl RegM.vals RegL RegB bReg 62 11 W wr v S.rs L i)) (fun t _=>S.rs.length - (intOf t).toNat)
 case atStart=>exact⟨0,[],_,W0,by omega,rfl,HB0.out,Cpl.nil _ _ _ _ _ _ (Below.refl _ _) S.rs⟩
 case round =>
  obtain⟨i,L,v,W,hi,rfl,HT⟩:=hrel
  have HBR:Hid (yD W wr):=HT.out.2.r.B
  have HX:Hid (BxC w S v (.slice none 0 0) (.slice none 0 0) wr):=HT.out.1.on HBR.out
  have HLR:Hid (StratL wr S):=HL.out.1.on HX.out.b
  have q1:wr.cell? w§¢1=some (.slice S.ra S.rs.length S.rc):=cell_of HX.out.s 1
  by_cases hlt:i < S.rs.length
  ·have hlt':(i:Int) < (S.rs.length:Int):=by omega
   have hmx:(i:Int)+1≤9223372036854775807:=by have:=HL.out.2.1; omega
   obtain⟨b,o,ea,hat⟩:=HLR.out.1.2.2 i (by rw [List.length_map]; exact hlt)
   simp only [List.getElem_map] at hat
   have HMEM:Hid (S.rs[i] ∈ S.rs):=List.getElem_mem hlt
   obtain⟨d,ed⟩:∃ d,S.rs[i]=d:=⟨_,rfl⟩
   have HED:Hid (S.rs[i]=d):=ed
   rw [ed] at hat HMEM
   have HRG:Hid (wr.rangeAt b (o+i * 11) d.vals.toList):=fun j v hv=>by
    have hj:j < 11:=(List.getElem?_eq_some_iff.1 hv).1
    rw [hat j hj,← hv]; simp
   have HZ:Hid ((wr.alloc (.cells Z11 62)).heap[wr§]? = (zC Z11 62)):=heap_new _ _
   have HBX:Hid (yD wr ((wr.alloc (.cells Z11 62)).setRow wr§ d.vals)):=below_row (below_new _ _) (Nat.le_refl _) _
   have HNX:Hid (((wr.alloc (.cells Z11 62)).setRow wr§ d.vals).heap[wr§]? = (zC d.vals 62)):=setRow_heap _ _ _ _ _ _ HZ.out
   have HSX:Hid (((wr.alloc (.cells Z11 62)).setRow wr§ d.vals)§=wr§+1):=by show _=_; rw [sz_row,size_alloc]
   rw [ea] at q1
   clear hat ed ea
   go_upto_region 6 with (first | (refine wpList_load_mid rfl 62 (.tmp 20) rfl b (o+i * 11) rfl d.vals.toList _ HRG.out Tryz.underlying62 rfl (by show _=some 11; exact size62s) ?_; rw [Array.toArray_toList]) | (refine wpList_store_row rfl 62 (.tmp 5) (.tmp 21) rfl wr§ d.vals rfl rfl 62 Z11 HZ.out size62s rfl (all11 d) ?_))
   have HBX':=HBX.out
   have HNX':=HNX.out
   have HSX':=HSX.out
   unfold Z11 at HBX' HNX' HSX'
   generalize hWX:World.setRow _ _ _=WX
   rw [hWX] at HBX' HNX' HSX'
   clear hWX HZ HRG q1 HBX HNX HSX
   have HBX:Hid (yD wr WX):=HBX'
   have HNX:Hid (WX.heap[wr§]? = (zC d.vals 62)):=HNX'
   have HSX:Hid (WX§=wr§+1):=HSX'
   clear HBX' HNX' HSX'
   have HDL:Hid (RegL WX d):=(HLR.out.2.1 d HMEM.out).on HBX.out
   have c0:=copy_any d.m WX HDL.out.1 (HL.out.2.2.1 d HMEM.out)
   go_upto_region 7 with (first | (refine wpList_load_mid rfl 48 _ rfl wr§ 2 rfl d.m.vals.toList _ (nd_rng HNX.out 2 d.m (reg_m d)) Tryz.underlying48 rfl (size38 d.m) ?_; rw [toArr]) | (go_at_call 49; refine c0.mono ?_; rintro e u0 ⟨m0,rfl,hl0,ht0,hs0,ho0,hb0⟩) | (refine wpList_store_mid rfl 48 _ _ rfl wr§ 2 m0.vals rfl rfl (there_of ((hb0.block _ (zJ HNX.out).1).trans HNX.out) 2 8 (by show 2+8≤11; omega)) size64' (all8 m0) ?_))
   have H1:Hid (yD wr (u0.setCells wr§ 2 m0.vals.toList)∧(u0.setCells wr§ 2 m0.vals.toList).heap[wr§]? = (zC (RegM.mk d.x d.t m0 d.p).vals 62)∧RegL (u0.setCells wr§ 2 m0.vals.toList) ⟨d.x,d.t,m0,d.p⟩∧RegB (fun b=>wr§≤b∧b < (u0.setCells wr§ 2 m0.vals.toList)§) ⟨d.x,d.t,m0,d.p⟩∧bReg ⟨d.x,d.t,m0,d.p⟩=bReg d) :=
    ⟨below_cells (below2 HBX.out hb0) (Nat.le_refl _) 2 m0,(put_cells ((hb0.block _ (zJ HNX.out).1).trans HNX.out) 2 m0).trans (congrArg (fun c=>some (Obj.cells c 62 (0,0))) (rgM_eq d.x d.t d.p d.m m0)),⟨Lies.bk (P:=fun b=>WX§≤b) (fun b _ hb=>oth_cells u0 2 (by have:=HSX.out; omega) m0) hl0 (hs0.bk.mono fun b hb=>hb.1),HDL.out.2⟩,hs0.bk.mono (fun b hb=>⟨by have:=HSX.out; omega,by rw [sz_cells8]; exact hb.2⟩),by simp only [bReg,twin_bare ht0]⟩
   clear hl0 ht0 hs0 ho0 hb0 c0
   generalize World.setCells _ _ _ _=V at H1 ⊢
   generalize RegM.mk d.x d.t m0 d.p=r' at H1
   have HR1:Hid (RA W V 62 11 v (L.map RegM.vals)):=(HT.out.2.call kndReg H1.out.1).r
   have HLn:Hid ((L.map RegM.vals).length≤1000000000):=by have h1:=HL.out.2.1; have h2:=HT.out.2.l; show _≤_; rw [List.length_map]; omega
   have HY1:Hid (∀ u ∈ r'.vals.toList,u.oneCell'=true):=one11 r'
   have y3:V.cell? ⟨w§+1+1,1,none⟩=some v:=cell_of (HX.out.on H1.out.1).x 1
   go_wp2_with (first | (refine wpList_load_row rfl 62 (.tmp 5) rfl wr§ rfl 62 r'.vals (0,0) _ H1.out.2.1 Tryz.underlying62 rfl size62s ?_) | (refine wpList_slice1 rfl 23 62 (.tmp 28) rfl r'.vals rfl 11 _ Tryz.underlying23 104 inf100 rfl rfl (by decide) (by decide) ?_) | (at_builtin; refine append_arr rfl (.tmp 27) (.tmp 29) 23 62 11 104 _ rfl Tryz.underlying23 inf100 rfl (by decide) (by decide) (by decide) r'.vals (RegM.sz r') HY1.out HR1.out rfl rfl HLn.out ?_; intro v1 w2 hr2 hs2 hq2 hz2; obtain⟨ao1,n1,c1,rfl⟩:=hr2.sl3; have HX2:Hid (Cpl RegM.vals RegL RegB bReg 62 11 W w2 (.slice ao1 n1 c1) S.rs (L ++ [r']) (i+1)):=HT.out.2.snoc kndReg hlt H1.out.1 H1.out.2.2.1 (by rw [HED.out]; exact H1.out.2.2.2.2) H1.out.2.2.2.1 hr2 hs2 hq2 hz2; have x3:w2.cell? ⟨w§+1+1,1,none⟩=some v:=cell_of (HT.out.1.on HX2.out.r.B).x 1; have f3:w2.frozen? ⟨w§+1+1,1,none⟩=false:=frozen_of (HT.out.1.on HX2.out.r.B).x 1; clear hr2 hs2 hq2 hz2))
   exact⟨⟨i+1,L ++ [r'],.slice ao1 n1 c1,W.setCell ⟨w§+2,1,none⟩ (.slice ao1 n1 c1),hlt,rfl,HT.out.1.set 1 (.slice ao1 n1 c1) rfl,HX2.out.set kndReg (by show w§+2 < _; have:=HT.out.1.n; omega) (.slice ao1 n1 c1)⟩,by simp only [intOf]; omega⟩
  ·obtain rfl:i=S.rs.length:=by omega
   have hnot:¬ (S.rs.length:Int) < (S.rs.length:Int):=by omega
   have y2:wr.cell? ⟨w§+1+1,2,none⟩=some (.slice none 0 0):=cell_of HX.out.x 2
   have q2:wr.cell? w§¢2=some (.slice S.sa S.ss.length S.sc):=cell_of HX.out.s 2
   have HSS:Hid (∀ y ∈ S.ss.map SlotM.vals,y.size=2∧∀ u ∈ y.toList,u.oneCell'=true):=fun y hy=>by
    obtain⟨q,_,rfl⟩:=List.mem_map.1 hy
    exact⟨rfl,one2 q⟩
   have HLS:Hid ((S.ss.map SlotM.vals).length≤1000000000):=by have:=HL.out.2.2.2.1; show _≤_; rw [List.length_map]; omega
   have HLE:Hid ((S.ss.map SlotM.vals).length=S.ss.length):=List.length_map _
   go_upto_region 9 with (at_builtin; refine append_all (W:=wr) rfl (.tmp 33) (.tmp 35) 24 65 2 24 _ rfl Tryz.underlying24 inf102 rfl (by decide) (by decide) (by decide) (S.ss.map SlotM.vals) S.sa S.sc HLR.out.2.2.1 HSS.out S.ss.length HLE.out rfl rfl HLS.out ?_; intro v2 w2 hr2 hb2 hn2; rw [List.length_map] at hr2; obtain⟨ao2,c2,rfl,-⟩:=hr2.form; have x2:w2.cell? ⟨w§+1+1,2,none⟩=some (.slice none 0 0):=cell_of (HX.out.on hb2).x 2; have f2:w2.frozen? ⟨w§+1+1,2,none⟩=false:=frozen_of (HX.out.on hb2).x 2)
   have HBX2:Hid (BxC w S v (.slice ao2 S.ss.length c2) (.slice none 0 0) (w2.setCell ⟨w§+2,2,none⟩ (.slice ao2 S.ss.length c2))):=(HX.out.on hb2).set 2 _ rfl
   have HCR:Hid (CpR w S L v (.slice ao2 S.ss.length c2) wr§ w2§ (w2.setCell ⟨w§+2,2,none⟩ (.slice ao2 S.ss.length c2))):=(cpr_of HT.out.1 HT.out.2 hr2 hb2 hn2).kp (fun q hq _=>Below.heap_setCell _ _ _ _ (by show q≠w§+2; omega)) (by rw [sz_set]; exact Nat.le_refl _)
   clear hr2 hb2 hn2 y2 q2 q1
   generalize Value.slice ao2 S.ss.length c2=v2 at HBX2 HCR ⊢
   clear x2 f2
   generalize hW2:w2.setCell ⟨w§+2,2,none⟩ v2=W2 at HBX2 HCR ⊢
   clear hW2
   generalize wr§=h1 at HCR
   generalize w2§=h2 at HCR
   clear HBR HX HLR HSS HLS HLE hi hlt hnot HT
   go_wp2_with fail
   go_loopw [6] (fun t wr=>∃ (i:Nat) (T:List StateM) (v3:Value) (W:yW),i≤S.ts.length∧t=zI i∧Hid (BxC w S v v2 v3 W∧CpR w S L v v2 h1 h2 W∧Cpl StateM.vals StateL StateB bState 68 3 W wr v3 S.ts T i)) (fun t _=>S.ts.length - (intOf t).toNat)
   case atStart=>exact⟨0,[],_,W2,by omega,rfl,HBX2.out,HCR.out,Cpl.nil _ _ _ _ _ _ (Below.refl _ _) S.ts⟩
   case round =>
    obtain⟨i,T,v3,W,hi,rfl,HT⟩:=hrel
    have HBR:Hid (yD W wr):=HT.out.2.2.r.B
    have HX:Hid (BxC w S v v2 v3 wr):=HT.out.1.on HBR.out
    have HLR:Hid (StratL wr S):=HL.out.1.on HX.out.b
    have q1:wr.cell? w§¢3=some (.slice S.ta S.ts.length S.tc):=cell_of HX.out.s 3
    by_cases hlt:i < S.ts.length
    ·have hlt':(i:Int) < (S.ts.length:Int):=by omega
     have hmx:(i:Int)+1≤9223372036854775807:=by have:=HL.out.2.2.2.2.1; omega
     obtain⟨b,o,ea,hat⟩:=HL.out.1.2.2.2.2.1.2.2 i (by rw [List.length_map]; exact hlt)
     simp only [List.getElem_map] at hat
     have HMEM:Hid (S.ts[i] ∈ S.ts):=List.getElem_mem hlt
     obtain⟨d,ed⟩:∃ d,S.ts[i]=d:=⟨_,rfl⟩
     rw [ed] at hat HMEM
     obtain⟨dx,da,dc,drs,dp⟩:=d
     have HED:Hid (S.ts[i]=⟨dx,da,dc,drs,dp⟩):=ed
     have HRG:Hid (w.rangeAt b (o+i * 3) (StateM.mk dx da dc drs dp).vals.toList):=fun j v hv=>by
      have hj:j < 3:=(List.getElem?_eq_some_iff.1 hv).1
      rw [hat j hj,← hv]; simp
     have HQ3:Hid (S.vals[3]? = some (.slice (some b¢o) S.ts.length S.tc)):=by show _=_; rw [← ea]; rfl
     clear hat ed ea
     have cS:=copyState_any ⟨dx,da,dc,drs,dp⟩ wr.drew ((HLR.out.2.2.2.2.2.1 _ HMEM.out).on ⟨rfl,rfl,rfl,Nat.le_refl _,fun _ _=>rfl⟩) (HL.out.2.2.2.2.2 _ HMEM.out)
     have HSW:Hid (wr.heap[w§]? = (zC S.vals 27)∧wr.heap[w§+1+1]? = (zC #[.string S.x,v,v2,v3] 27)∧wr.rangeAt b (o+i * 3) (StateM.mk dx da dc drs dp).vals.toList):=⟨HX.out.s,HX.out.x,rng_on HRG.out HX.out.b⟩
     go_upto_region 12 with fail
     clear q1
     refine (?_:∀ Q',Hid (Q'=_)→Code.wp _ _ Q' _ _) _ rfl
     intro Q' HQ'
     have HPn:Hid (∀ p (d:Nat) v a w,Q' (.panic p) (Act.put a (some d) v) w→Q' (.panic p) a w):=by rw [HQ'.out]; exact fun _ _ _ _ _ h=>h
     refine wp_region_T (t:=11) (S:=fun u=>u.heap[w§]? = (zC S.vals 27)∧u.heap[w§+1+1]? = (zC #[.string S.x,v,v2,v3] 27)∧u.rangeAt b (o+i * 3) (StateM.mk dx da dc drs dp).vals.toList) zK HSW.out (fun hHeld=>?_)
     refine wpAnyT_take (i:=0) (v:=?_) rfl zK zK zK zK (fun c a w h=>HPn.out c _ _ a w h) (Or.inl ⟨by rfl,?_⟩) (by assumption) ?_
     rotate_left
     ·(intro v hv; go_simp; try (with_reducible rfl))
     try simp [Act.put]
     refine wpAnyT_take (i:=1) (v:=?_) rfl zK zK zK zK (fun c a w h=>HPn.out c _ _ a w h) (Or.inl ⟨by rfl,?_⟩) (by assumption) ?_
     rotate_left
     ·(intro v hv; have t3:v.cell? ⟨w§+1+1,3,none⟩=some v3:=cell_of hv.2.1 3; clear hv; go_simp; try (with_reducible rfl))
     try simp [Act.put]
     refine wpAnyT_take (i:=2) (v:=?_) rfl zK zK zK zK (fun c a w h=>HPn.out c _ _ a w h) (Or.inl ⟨by rfl,?_⟩) (by assumption) ?_
     rotate_left
     ·(intro v hv; go_simp; try (with_reducible rfl))
     try simp [Act.put]
     refine wpAnyT_take (i:=3) (v:=?_) rfl zK zK zK zK (fun c a w h=>HPn.out c _ _ a w h) (Or.inl ⟨by rfl,?_⟩) (by assumption) ?_
     rotate_left
     ·(intro v hv; have t3:v.cell? w§¢3=some (.slice (some b¢o) S.ts.length S.tc):=(cell_of hv.1 3).trans HQ3.out; clear hv; go_simp; try (with_reducible rfl))
     try simp [Act.put]
     refine wpAnyT_take (i:=4) (v:=?_) rfl zK zK zK zK (fun c a w h=>HPn.out c _ _ a w h) (Or.inl ⟨by rfl,?_⟩) (by assumption) ?_
     rotate_left
     ·(intro v hv; go_simp; try (with_reducible rfl))
     try simp [Act.put]
     refine wpAnyT_take (i:=5) (v:=?_) rfl zK zK zK zK (fun c a w h=>HPn.out c _ _ a w h) (Or.inl ⟨by rfl,?_⟩) (by assumption) ?_
     rotate_left
     ·(intro v hv; go_simp; try (with_reducible rfl))
     try simp [Act.put]
     refine wpAnyT_take (i:=6) (v:=?_) rfl zK zK zK zK (fun c a w h=>HPn.out c _ _ a w h) (Or.inl ⟨by rfl,?_⟩) (by assumption) ?_
     rotate_left
     ·(intro v hv; have t0:v.cell? ⟨b,o+i * 3,none⟩=some (.string dx):=hv.2.2 0 _ rfl; have t1:v.cell? ⟨b,o+i * 3+1,none⟩=some (.slice da drs.length dc):=hv.2.2 1 _ rfl; have t2:v.cell? ⟨b,o+i * 3+2,none⟩=some (zI dp):=hv.2.2 2 _ rfl; clear hv; go_simp; try (with_reducible rfl))
     try simp [Act.put]
     have HSS:Hid (∀ u,BxC w S v v2 v3 u→(u.heap[w§]? = (zC S.vals 27)∧u.heap[w§+1+1]? = (zC #[.string S.x,v,v2,v3] 27)∧u.rangeAt b (o+i * 3) (StateM.mk dx da dc drs dp).vals.toList)):=fun u h=>⟨h.s,h.x,rng_on HRG.out h.b⟩
     refine wpAnyT_one (i:=7) zK rfl (fun K hK=>?_)
     go_simp
     refine cS.mono ?_
     rintro e w1 ⟨s',rfl,hm1,hm2,hb1,hm3⟩
     have HB1:Hid (yD wr w1):=⟨hb1.os,hb1.tape,hb1.output,hb1.size,hb1.block⟩
     obtain⟨sx,sa,sc,srs,sp⟩:=s'
     have HM1:Hid (StateL w1 ⟨sx,sa,sc,srs,sp⟩∧bState ⟨sx,sa,sc,srs,sp⟩=bState ⟨dx,da,dc,drs,dp⟩∧StateB (fun b=>wr§≤b∧b < w1§) ⟨sx,sa,sc,srs,sp⟩):=⟨hm1,hm2,hm3⟩
     refine hK.out _ _ (fun _=>HSS.out w1 (HX.out.on HB1.out)) ?_
     clear hK K hm1 hm2 hm3 hb1 cS
     try simp [Act.put]
     unfold StateM.vals
     refine wpAnyT_one (i:=8) zK rfl (fun K hK=>?_)
     go_simp
     refine hK.out _ _ (fun _=>HSS.out _ (HX.out.on (below2 HB1.out (below_new _ _)))) ?_
     clear hK K
     try simp [Act.put]
     refine wpAnyT_one (i:=9) zK rfl (fun K hK=>?_)
     have HRR:Hid (RA W w1 68 3 v3 (T.map StateM.vals)):=(HT.out.2.2.call kndState HB1.out).r
     have HLT:Hid ((T.map StateM.vals).length≤1000000000):=by have h1:=HL.out.2.2.2.2.1; have h2:=HT.out.2.2.l; show _≤_; rw [List.length_map]; omega
     refine step_arr rfl (.tmp 46) (.tmp 53) 25 68 3 48 _ rfl Tryz.underlying25 infSt rfl (by decide) (by decide) (by decide) (StateM.mk sx sa sc srs sp).vals rfl (one3 _) HRR.out rfl rfl HLT.out ?_
     intro v1 w2 hr2 hs2 hq2 hz2
     obtain⟨ao3,n3,c3,rfl⟩:=hr2.sl3
     have HX2:Hid (Cpl StateM.vals StateL StateB bState 68 3 W w2 (.slice ao3 n3 c3) S.ts (T ++ [⟨sx,sa,sc,srs,sp⟩]) (i+1)):=HT.out.2.2.snoc kndState hlt HB1.out HM1.out.1 (by rw [HED.out]; exact HM1.out.2.1) HM1.out.2.2 hr2 hs2 hq2 hz2
     clear hr2 hs2 hq2 hz2
     have HBB:Hid (BxC w S v v2 v3 w2):=HT.out.1.on HX2.out.r.B
     refine hK.out _ _ (fun _=>HSS.out _ HBB.out) ?_
     clear hK K
     have hHeld2:=HSS.out _ HBB.out
     try simp [Act.put]
     refine wpAnyT_take (i:=10) (v:=?_) rfl zK zK zK zK (fun c a w h=>HPn.out c _ _ a w h) (Or.inl ⟨by rfl,?_⟩) hHeld2 ?_
     rotate_left
     ·(intro v hv; go_simp; try (with_reducible rfl))
     try simp [Act.put]
     clear hHeld2
     refine wpAnyT_one (i:=11) zK rfl (fun K hK=>?_)
     have x3:w2.cell? ⟨w§+1+1,3,none⟩=some v3:=cell_of HBB.out.x 3
     have f3:w2.frozen? ⟨w§+1+1,3,none⟩=false:=frozen_of HBB.out.x 3
     go_simp
     refine hK.out _ _ (fun h=>absurd rfl h) ?_
     clear hK K x3 f3
     try simp [Act.put]
     refine wpAnyT_done zK ?_ _
     rw [HQ'.out]
     clear HQ' HPn Q'
     go_wp2_with fail
     exact⟨⟨i+1,T ++ [⟨sx,sa,sc,srs,sp⟩],.slice ao3 n3 c3,W.setCell ⟨w§+2,3,none⟩ (.slice ao3 n3 c3),hlt,rfl,HT.out.1.set 3 _ rfl,HT.out.2.1.kp (fun q hq _=>Below.heap_setCell _ _ _ _ (by show q≠w§+2; omega)) (by rw [sz_set]; exact HT.out.2.1.c),HX2.out.set kndState (by show w§+2 < _; have:=HT.out.1.n; omega) _⟩,by simp only [intOf]; omega⟩
    ·obtain rfl:i=S.ts.length:=by omega
     have hnot:¬ (S.ts.length:Int) < (S.ts.length:Int):=by omega
     obtain⟨X,eX⟩:∃ X,(#[.string S.x,v,v2,v3]:Array Value)=X:=⟨_,rfl⟩
     have HXE:Hid ((#[.string S.x,v,v2,v3]:Array Value)=X):=eX
     have HXX:Hid (wr.heap[w§+1+1]? = (zC X 27)):=by show _=_; rw [← eX]; exact HX.out.x
     have HZ1:Hid (wr.heap[w§+1]? = (zC ze 27)):=HX.out.z
     have HSZ:Hid ((Tryz.prog.info? 27).map (·.size)=some X.size):=by show _=_; rw [← eX]; exact size27s
     have HXz:Hid ((ze:Array Value).size=X.size):=by show _=_; rw [← eX]; rfl
     have HXa:Hid (X.all (·.oneCell')=true):=by
      show _=_
      obtain⟨a1,c1,e1,-⟩:=HT.out.2.1.r.form
      obtain⟨a2,c2,e2,-⟩:=HT.out.2.1.s.form
      obtain⟨a3,n3,c3,e3⟩:=HT.out.2.2.r.sl3
      rw [← eX,e1,e2,e3]
      simp [Value.oneCell']
     have HF:Hid ((wr.setRow (w§+1) X).heap[w§+1]? = (zC X 27)∧yD w (wr.setRow (w§+1) X)∧CpF w S L T v v2 v3 h1 h2 (wr.setRow (w§+1) X)):=⟨setRow_heap _ _ _ _ _ _ HZ1.out,below_row HX.out.b (by omega) _,cpf_of HT.out.1 HT.out.2.1 HT.out.2.2 (fun b hb=>setRow_oth _ _ _ (by omega)) (sz_row _ _ _)⟩
     clear eX
     go_wp2_with (first | (refine wpList_load_row rfl 27 (.tmp 3) rfl (w§+1+1) rfl 27 X (0,0) _ HXX.out Tryz.underlying27 rfl HSZ.out ?_) | (refine wpList_store_row rfl 27 (.tmp 2) (.tmp 56) rfl (w§+1) X rfl rfl 27 ze HZ1.out HSZ.out HXz.out HXa.out ?_))
     exact bodyPost_ret (results_cell_row rfl _ _ (w§+1) 27 X (0,0) _ rfl HF.out.1 Tryz.underlying27 rfl HSZ.out) rfl ⟨L,T,v,v2,v3,by rw [HXE.out],⟨h1,h2,HF.out.2.2⟩,HF.out.2.1⟩
theorem fs_zero {a b:Int}:fs a b=0 ↔ a=0∧b=0:=by
 unfold fs
 by_cases h:a=0
 ·simp [h]
 ·simp [h]
theorem fsL_zero:∀ {l:List Int},fsL l=0 ↔ ∀ a ∈ l,a=0
 | []=>by simp [fsL]
 | a :: l=>by
  simp only [fsL,fs_zero,fsL_zero (l:=l),List.mem_cons,forall_eq_or_imp]
theorem cnt_zero {n:Nat}{l m:Int}(h:cntE n l m=0):l≤n∧(n:Int)≤m:=by
 unfold cntE at h
 repeat' split at h
 ·cases h
 ·cases h
 ·omega
theorem cnt_more {n:Nat}{l m:Int}(h:cntE n l m=0):cntE ((n+1:Nat):Int) l m=0∨cntE ((n+1:Nat):Int) l m=121:=by
 have h1:=cnt_zero h
 unfold cntE
 rw [if_neg (by omega)]
 by_cases h2:m < ((n+1:Nat):Int)
 ·rw [if_pos h2]; exact .inr rfl
 ·rw [if_neg h2]; exact .inl rfl
theorem chk_none {S:StratM}(h:chkE S=none):stratE S=0∧decE S=none:=by
 unfold chkE at h
 by_cases h1:stratE S=0
 ·rw [if_pos h1] at h
  cases h2:decE S with
  | none=>exact⟨h1,rfl⟩
  | some e=>rw [h2] at h; cases h
 ·rw [if_neg h1] at h; cases h
structure Fine (S:StratM):Prop where
 x:namE S.x=0
 rc:cntE S.rs.length 0 12=0
 r:∀ d ∈ S.rs,regE d=0
 sc:cntE S.ss.length 0 4=0
 s:∀ d ∈ S.ss,slE d=0
 tc:cntE S.ts.length 1 12=0
 t:∀ d ∈ S.ts,stateE d=0
theorem fine_iff {S:StratM}:stratE S=0 ↔ Fine S:=by
 unfold stratE
 simp only [fs_zero,fsL_zero,List.mem_map,forall_exists_index,and_imp,forall_apply_eq_imp_iff₂]
 constructor
 ·rintro ⟨a,b,c,d,e,f,g⟩
  exact⟨a,b,c,d,e,f,g⟩
 ·intro h
  exact⟨h.x,h.rc,h.r,h.sc,h.s,h.tc,h.t⟩
def addR (S:StratM) (r:RegM):StratM:=⟨S.x,S.ra,S.rc,S.rs ++ [r],S.sa,S.sc,S.ss,S.ta,S.tc,S.ts⟩
def addS (S:StratM) (r:SlotM):StratM:=⟨S.x,S.ra,S.rc,S.rs,S.sa,S.sc,S.ss ++ [r],S.ta,S.tc,S.ts⟩
def addT (S:StratM) (r:StateM):StratM:=⟨S.x,S.ra,S.rc,S.rs,S.sa,S.sc,S.ss,S.ta,S.tc,S.ts ++ [r]⟩
def Twc (S:StratM):Prop:=∃ p n,chkE S=some (p,n)∧(n=150∨n=121)
theorem twc_many {S:StratM}(h:stratE S=121):Twc S:=⟨0,121,by unfold chkE; rw [if_neg (by rw [h]; decide),h],.inr rfl⟩
theorem twc_dec {S:StratM}{p:Int}(h:stratE S=0) (hd:decE S=some (p,150)):Twc S:=⟨p,150,by unfold chkE; rw [if_pos h,hd],.inl rfl⟩
theorem dRegs_app:∀ (rs l:List RegM) (r:RegM),dRegs l rs=none→dRegs l (rs ++ [r])=dRegs (l ++ rs) [r]
 | [],l,r,_=>by simp
 | q :: rs,l,r,h=>by
  simp only [List.cons_append,dRegs] at h ⊢
  split at h
  ·cases h
  ·rename_i h1
   rw [if_neg h1]
   split at h
   ·rename_i h2
    rw [if_pos h2,dRegs_app rs (l ++ [q]) r h,List.append_assoc]
    rfl
   ·cases h
theorem dNms_app:∀ (xs:List (yB × Int)) (S:List yB) (r:yB × Int),dNms S xs=none→dNms S (xs ++ [r])=dNms (S ++ xs.map (·.1)) [r]
 | [],S,r,_=>by simp
 | q :: xs,S,r,h=>by
  simp only [List.cons_append,dNms] at h ⊢
  split at h
  ·cases h
  ·rename_i h1
   rw [if_neg h1,dNms_app xs (S ++ [q.1]) r h,List.append_assoc]
   rfl
theorem regL_in {l:List RegM}{r:RegM}(h:r ∈ l):(regL l r.x).isSome=true:=by
 unfold regL
 rw [Option.isSome_map,List.find?_isSome]
 exact⟨r,h,by simp⟩
theorem dec_parts {S:StratM}(h:decE S=none):dRegs [] S.rs=none∧dNms [] (S.ss.map slN)=none∧dNms [] (S.ts.map stN)=none:=by
 unfold decE at h
 cases h1:dRegs [] S.rs with
 | some e=>rw [h1] at h; cases h
 | none =>
  rw [h1] at h
  cases h2:dNms [] (S.ss.map slN) with
  | some e=>rw [h2] at h; cases h
  | none=>rw [h2] at h; exact⟨rfl,rfl,h⟩
theorem tw_reg {S:StratM}{r:RegM}(h:chkE S=none) (hr:r ∈ S.rs):Twc (addR S r):=by
 obtain⟨h1,h2⟩:=chk_none h
 have F:=fine_iff.1 h1
 obtain⟨d1,d2,d3⟩:=dec_parts h2
 rcases cnt_more F.rc with hc | hc
 ·refine twc_dec (p:=r.p) (fine_iff.2 ⟨F.x,?_,fun d hd=>?_,F.sc,F.s,F.tc,F.t⟩) ?_
  ·show cntE ((S.rs ++ [r]).length:Int) 0 12=0
   rw [List.length_append]; exact hc
  ·rcases List.mem_append.1 hd with hd | hd
   ·exact F.r d hd
   ·obtain rfl:=List.mem_singleton.1 hd; exact F.r _ hr
  ·unfold decE
   show (match dRegs [] (S.rs ++ [r]) with | some e=>some e | none=>_)=_
   rw [dRegs_app _ _ _ d1]
   simp only [dRegs,List.nil_append,regL_in hr,if_true]
 ·refine twc_many ?_
  unfold stratE
  show fs (namE S.x) (fs (cntE ((S.rs ++ [r]).length:Int) 0 12) _)=121
  rw [F.x,List.length_append,show ([r]:List RegM).length=1 from rfl,hc]
  rfl
theorem inS_in {l:List yB}{x:yB}(h:x ∈ l):inS l x=true:=by
 unfold inS
 simp [h]
theorem tw_slot {S:StratM}{r:SlotM}(h:chkE S=none) (hr:r ∈ S.ss):Twc (addS S r):=by
 obtain⟨h1,h2⟩:=chk_none h
 have F:=fine_iff.1 h1
 obtain⟨d1,d2,d3⟩:=dec_parts h2
 rcases cnt_more F.sc with hc | hc
 ·refine twc_dec (p:=r.p) (fine_iff.2 ⟨F.x,F.rc,F.r,?_,fun d hd=>?_,F.tc,F.t⟩) ?_
  ·show cntE ((S.ss ++ [r]).length:Int) 0 4=0
   rw [List.length_append]; exact hc
  ·rcases List.mem_append.1 hd with hd | hd
   ·exact F.s d hd
   ·obtain rfl:=List.mem_singleton.1 hd; exact F.s _ hr
  ·unfold decE
   show (match dRegs [] S.rs with | some e=>some e | none=>match dNms [] ((S.ss ++ [r]).map slN) with | some e=>some e | none=>_)=_
   rw [d1,List.map_append,List.map_singleton,dNms_app _ _ _ d2]
   simp only [dNms,List.nil_append]
   rw [if_pos (inS_in (List.mem_map.2 ⟨slN r,List.mem_map.2 ⟨r,hr,rfl⟩,rfl⟩))]
   rfl
 ·refine twc_many ?_
  unfold stratE
  show fs (namE S.x) (fs (cntE (S.rs.length:Int) 0 12) (fs (fsL (S.rs.map regE)) (fs (cntE ((S.ss ++ [r]).length:Int) 0 4) _)))=121
  rw [F.x,F.rc,fsL_zero.2 (by intro a ha; obtain⟨d,hd,rfl⟩:=List.mem_map.1 ha; exact F.r d hd),List.length_append,show ([r]:List SlotM).length=1 from rfl,hc]
  rfl
theorem tw_state {S:StratM}{r:StateM}(h:chkE S=none) (hr:r ∈ S.ts):Twc (addT S r):=by
 obtain⟨h1,h2⟩:=chk_none h
 have F:=fine_iff.1 h1
 obtain⟨d1,d2,d3⟩:=dec_parts h2
 rcases cnt_more F.tc with hc | hc
 ·refine twc_dec (p:=r.p) (fine_iff.2 ⟨F.x,F.rc,F.r,F.sc,F.s,?_,fun d hd=>?_⟩) ?_
  ·show cntE ((S.ts ++ [r]).length:Int) 1 12=0
   rw [List.length_append]; exact hc
  ·rcases List.mem_append.1 hd with hd | hd
   ·exact F.t d hd
   ·obtain rfl:=List.mem_singleton.1 hd; exact F.t _ hr
  ·unfold decE
   show (match dRegs [] S.rs with | some e=>some e | none=>match dNms [] (S.ss.map slN) with | some e=>some e | none=>dNms [] ((S.ts ++ [r]).map stN))=_
   rw [d1,d2,List.map_append,List.map_singleton]
   show dNms [] (S.ts.map stN ++ [stN r])=_
   rw [dNms_app _ _ _ d3]
   simp only [dNms,List.nil_append]
   rw [if_pos (inS_in (List.mem_map.2 ⟨stN r,List.mem_map.2 ⟨r,hr,rfl⟩,rfl⟩))]
   rfl
 ·refine twc_many ?_
  unfold stratE
  show fs (namE S.x) (fs (cntE (S.rs.length:Int) 0 12) (fs (fsL (S.rs.map regE)) (fs (cntE (S.ss.length:Int) 0 4) (fs (fsL (S.ss.map slE)) (fs (cntE ((S.ts ++ [r]).length:Int) 1 12) _)))))=121
  rw [F.x,F.rc,fsL_zero.2 (by intro a ha; obtain⟨d,hd,rfl⟩:=List.mem_map.1 ha; exact F.r d hd),F.sc,fsL_zero.2 (by intro a ha; obtain⟨d,hd,rfl⟩:=List.mem_map.1 ha; exact F.s d hd),List.length_append,show ([r]:List StateM).length=1 from rfl,hc]
  rfl
end Go.Proofs.YtoogodlnnijikaaGreatDoor
