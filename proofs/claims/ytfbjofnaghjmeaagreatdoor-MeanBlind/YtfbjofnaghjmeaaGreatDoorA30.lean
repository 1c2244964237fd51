import Derived.Test.YtfbjofnaghjmeaaGreatDoorA0
import Derived.Test.YtfbjofnaghjmeaaGreatDoorA29
import Derived.Deep.AppendLies
import Derived.Deep.RegionLaw
namespace Go.Proofs.YtfbjofnaghjmeaaGreatDoor
set_option maxRecDepth 100000
open Go Go.RowKit
set_option linter.unusedVariables false
def arF (L:List (Array Value)) (n j:Nat):Value:=(L.getD (j / n) #[]).getD (j % n) undef
structure RA (W w:yW) (e:TypeId) (n:Nat) (v:Value) (L:List (Array Value)):Prop where
 row:Row w e n v L.length (arF L n)
 nb:∀ k,v.ownBlock=some k→W§≤k
 B:yD W w
 sz:∀ x ∈ L,x.size=n
theorem RA.nil {W w:yW}(h:yD W w) (e:TypeId) (n:Nat):RA W w e n (.slice none 0 0) []:=⟨Row.nil _ _ _ _,fun k h=>by simp [Value.ownBlock] at h,h,fun x hx=>by cases hx⟩
theorem RA.call {W w w':yW}{e:TypeId}{n:Nat}{v:Value}{L:List (Array Value)}(h:RA W w e n v L) (k:yD w w'):RA W w' e n v L :=
 ⟨h.row.of_block (fun b hb=>k.block b (h.row.lt b hb)),h.nb,h.B.trans (k.mono h.B.size),h.sz⟩
theorem RA.hid {W w:yW}{e:TypeId}{n:Nat}{v:Value}{L:List (Array Value)}(h:RA W w e n v L):Hid (RA W w e n v L):=h
theorem arF_lt {L:List (Array Value)}{y:Array Value}{n j:Nat}(hn:0 < n) (h:j < L.length * n):arF (L ++ [y]) n j=arF L n j:=by
 have:j / n < L.length:=(Nat.div_lt_iff_lt_mul hn).2 h
 unfold arF
 simp [List.getD,List.getElem?_append_left this]
theorem arF_at {L:List (Array Value)}{y:Array Value}{n j:Nat}(hn:0 < n) (h1:L.length * n≤j) (h2:j < (L.length+1) * n):arF (L ++ [y]) n j=y.getD (j - L.length * n) undef:=by
 obtain⟨k,rfl⟩:∃ k,j=L.length * n+k:=⟨j - L.length * n,by omega⟩
 have hk:k < n:=by rw [Nat.add_mul,Nat.one_mul] at h2; omega
 have e1:(L.length * n+k) / n=L.length:=by rw [Nat.mul_comm,Nat.mul_add_div hn,Nat.div_eq_of_lt hk]; omega
 have e2:(L.length * n+k) % n=k:=by rw [Nat.mul_comm,Nat.mul_add_mod,Nat.mod_eq_of_lt hk]
 unfold arF
 rw [e1,e2,Nat.add_sub_cancel_left]
 simp [List.getD]
theorem RA.sl {W w:yW}{e:TypeId}{n:Nat}{v:Value}{L:List (Array Value)}(h:RA W w e n v L) (hn:0 < n):∃ a c,v=.slice a L.length c∧SlAt w n a c L∧∀ b o,a=some b¢o→W§≤b:=by
 have h':=h.row
 rcases h.row.2 with ⟨rfl,e0⟩ | ⟨g,cap,cur,rfl,_,_,hc1,hc2,_⟩
 ·have:L = []:=List.length_eq_zero_iff.1 e0
  subst this
  exact⟨none,0,rfl,⟨Nat.le_refl _,by decide,fun i hi=>by simp at hi⟩,fun b o h=>by cases h⟩
 ·refine⟨some g¢0,cap,rfl,⟨hc1,hc2,fun i hi=>⟨g,0,rfl,fun j hj=>?_⟩⟩,fun b o h1=>by cases h1; exact h.nb g rfl⟩
  have hij:i * n+j < L.length * n:=by
   have:(i+1) * n≤L.length * n:=Nat.mul_le_mul_right n hi
   rw [Nat.add_mul,Nat.one_mul] at this; omega
  have hc:=Row.cell h' hij
  rw [Nat.zero_add,hc]
  have hs:=h.sz _ (List.getElem_mem hi)
  unfold arF
  rw [show (i * n+j) / n=i by rw [Nat.mul_comm,Nat.mul_add_div hn,Nat.div_eq_of_lt hj]; omega,show (i * n+j) % n=j by rw [Nat.mul_comm,Nat.mul_add_mod,Nat.mod_eq_of_lt hj]]
  simp [List.getD,hi,show j < L[i].size by omega]
theorem step_arr {W w0:yW}{ops:Array Oper}{o:Oper}{a:Act}{K:Act→yW→Prop}{Q:Exit→Act→yW→Prop}{E:Prop}(hgd:o.guard=none) (d x:Operand) (t e:TypeId) (n:Nat) (by_:Nat) (z:Value)
  (ho:o.op=.call { callee:=.builtin .append,args:=#[d,x],argTypes:=#[t,t] }) (hu:Tryz.prog.underlying t=some (.slice e)) (hi:(Tryz.prog.info? e).map (fun i=>(i.zero,i.size,i.bytes))=some (some z,n,by_)) (hz:z.cells.size=n) (hb:0 < n) (hn1:n≤100) (hby:by_≤1000)
  (y:Array Value) (hy:y.size=n) (hy1:∀ u ∈ y.toList,u.oneCell'=true) {v:Value}{L:List (Array Value)}(hR:RA W w0 e n v L) (hs:a.eval d=v) (hx:a.eval x=.slice (some w0§¢0) 1 1) (hlen:L.length≤1000000000)
  (h:∀ v' w',RA W w' e n v' (L ++ [y])→w0§≤w'§→(∀ b,b < w0§→v.ownBlock≠some b→w'.heap[b]? = w0.heap[b]?)→(v'.ownBlock=v.ownBlock∨∃ g,v'.ownBlock=some g∧w0§ < g)→K (a.put o.dst v') w') :
  if Region.wanted o (yielded ops a.tmps)=true then Oper.wp Tryz.prog o a (w0.alloc (.cells y e)) K Q else E:=by
 obtain⟨i0,hi0,hz0,hz1,hz2⟩:=info_parts hi
 refine step_append_lies _ hgd d x t ho 0 e i0 _ n by_ hu hi0 hz0 hz1 hz2 hz hb v L.length _ hs (hR.row.alloc _) w0§¢0 1 1 y.toList hx (by rw [Array.length_toList,hy,Nat.one_mul]) (World.news_of_block (heap_new w0 _)) hy1 (by decide) (by unfold maxLen; omega) (Nat.le_trans (Nat.mul_le_mul (show L.length+1≤1000000001 by omega) hby) (by decide)) (Nat.zero_le _) _ rfl ?_
 intro g cap w' h2 h3 h4 h5
 have hsz:=size_alloc w0 (.cells y e)
 have hB0:=hR.B.alloc hR.B.size (.cells y e)
 refine h _ w' ⟨?_,?_,hB0.grown h3 hB0.size (fun k hk=>hR.nb k hk),?_⟩ ?_ ?_ ?_
 ·have hr:=Row.snoc (x:=fun j=>y.getD j undef) h2 (by rw [Array.length_toList,hy]) (fun j hj=>by rw [Array.getElem?_toList,Array.getElem?_eq_getElem (by omega)]; simp [show j < y.size by omega])
  rw [List.length_append,List.length_singleton]
  refine hr.congr fun j hj=>?_
  by_cases hh:j < L.length * n
  ·simp only [hh,if_true]
   rw [arF_lt hb hh]
  ·simp only [hh,if_false]
   rw [arF_at hb (by omega) hj]
 ·intro k hk
  simp [Value.ownBlock] at hk
  subst hk
  rcases h4 with h4 | h4
  ·exact hR.nb _ h4
  ·have:=hR.B.size; omega
 ·intro q hq
  rcases List.mem_append.1 hq with hq | hq
  ·exact hR.sz q hq
  ·obtain rfl:=List.mem_singleton.1 hq; exact hy
 ·have:=h3.size; omega
 ·intro b hb' hne
  rw [h3.block b (by omega) (fun e=>hne e.symm)]
  exact Below.heap_alloc _ _ _ hb'
 ·rcases h4 with h4 | h4
  ·exact .inl h4.symm
  ·exact .inr ⟨g,rfl,by rw [h4,size_alloc]; omega⟩
section
variable {P : Program} {ops : Array Oper} {Q : Exit → Act → yW → Prop} {md : Region.Mode} {S : yW → Prop} {t : Nat}
def wpAnyT (P:Program) (md:Region.Mode) (ops:Array Oper) (Q:Exit→Act→yW→Prop) (S:yW→Prop) (t:Nat):Nat→Array Bool→Act→yW→Prop
 | 0,listed,a,w=>Region.ready md ops listed = []∧Q .normal a w
 | fuel+1,listed,a,w =>
  (Region.ready md ops listed = []→Q .normal a w) ∧
  ∀ i ∈ Region.ready md ops listed,wpOp P ops Q i (fun a' w'=>(i≠t→S w')∧wpAnyT P md ops Q S t fuel (listed.setIfInBounds i true) a' w') a w
theorem wpAny_of_T:∀ (fuel:Nat) (listed:Array Bool) (a:Act) (w:yW),wpAnyT P md ops Q S t fuel listed a w→wpAny P md ops Q fuel listed a w
 | 0,_,_,_,h=>h
 | fuel+1,_,_,_,h=>⟨h.1,fun i hi=>wpOp_mono (fun a' w' h'=>wpAny_of_T fuel _ a' w' h'.2) (h.2 i hi)⟩
def waits (md:Region.Mode) (ops:Array Oper) (t i:Nat):Bool:=match ops[t]? with
 | some o=>o.after.toList.any (fun e=>Region.binds md e && e.on == i)
 | none=>true
theorem wpAnyT_first {i:Nat}{oi:Oper}{v:Value}(hi:ops[i]? = some oi) (hsel:∀ (j:Nat) (o:Oper) cs b,ops[j]? = some o→o.op≠.select cs b)
  (hQ:∀ c a w,Q (.panic c) (a.put oi.dst v) w→Q (.panic c) a w) (hw:waits md ops t i=true) :
  ∀ (fuel:Nat) (listed:Array Bool) (a:Act) (w:yW),
   (∀ j oj,ops[j]? = some oj→j≠i→listed.getD j true=false→(∀ e ∈ oj.after,Region.binds md e=true→e.on≠i)→oi.apart ops oj=true) →
   i ∈ Region.ready md ops listed→YieldsIf P ops S oi v a→S w →
   wpAnyT P md ops Q S t fuel (listed.setIfInBounds i true) (a.put oi.dst v) w→wpAnyT P md ops Q S t (fuel+1) listed a w:=by
 intro fuel
 induction fuel with
 | zero =>
  intro listed a w _ hr hy hS H
  refine⟨fun h=>(by rw [h] at hr; cases hr),fun j hj=>?_⟩
  by_cases hji:j=i
  ·subst hji; exact hy.wpOp hi hS ⟨fun _=>hS,H⟩
  ·have:=ready_mono hj hji
   rw [H.1] at this
   cases this
 | succ fuel ih =>
  intro listed a w hfree hr hy hS H
  refine⟨fun h=>(by rw [h] at hr; cases hr),fun j hj=>?_⟩
  by_cases hji:j=i
  ·subst hji; exact hy.wpOp hi hS ⟨fun _=>hS,H⟩
  ·have h1:=H.2 j (ready_mono hj hji)
   obtain⟨hjun,oj,hoj,hall⟩:=mem_ready.1 hj
   have hnot:∀ e ∈ oj.after,Region.binds md e=true→e.on≠i:=fun e he hb heq=>by
    have h1:=hall e he hb
    have h0:=(mem_ready.1 hr).1
    rw [heq] at h1
    rcases Nat.lt_or_ge i listed.size with h' | h'
    ·simp [h'] at h0 h1; rw [h0] at h1; cases h1
    ·simp [Array.getElem?_eq_none h'] at h1
   have hjt:j≠t:=by
    rintro rfl
    unfold waits at hw
    rw [hoj] at hw
    simp only [List.any_eq_true,Bool.and_eq_true,beq_iff_eq] at hw
    obtain⟨e,he,hb,ho⟩:=hw
    exact hnot e (Array.mem_toList_iff.1 he) hb ho
   have h2:=wpOp_putIf hoj (hfree j oj hoj hji hjun hnot) (fun cs b=>hsel i oi cs b hi) (fun cs b=>hsel j oj cs b hoj) hQ hy h1
   have hfree':∀ k ok,ops[k]? = some ok→k≠i→(listed.setIfInBounds j true).getD k true=false →
     (∀ e ∈ ok.after,Region.binds md e=true→e.on≠i)→oi.apart ops ok=true:=fun k ok hk hki hun hno=>by
    refine hfree k ok hk hki ?_ hno
    by_cases hjk:j=k
    ·subst hjk; exact hjun
    ·rw [getD_set_ne true hjk] at hun; exact hun
   refine wpOp_mono (fun a' w' h3=>⟨fun _=>h3.2.1 hjt,ih (listed.setIfInBounds j true) a' w' hfree' (ready_mono hr (Ne.symm hji)) h3.1 (h3.2.1 hjt) ?_⟩) h2
   rw [Array.setIfInBounds_comm _ _ hji]
   exact h3.2.2
theorem wpAnyT_take {i:Nat}{oi:Oper}{v:Value}{fuel:Nat}{listed:Array Bool}{a:Act}{w:yW}(hi:ops[i]? = some oi)
  (hs:Region.noSelect ops=true) (hf:Region.free md ops listed i=true) (hr:(Region.ready md ops listed).contains i=true) (hw:waits md ops t i=true)
  (hQ:∀ c a w,Q (.panic c) (a.put oi.dst v) w→Q (.panic c) a w) (hy:YieldsIf P ops S oi v a) (hS:S w)
  (h:wpAnyT P md ops Q S t fuel (listed.setIfInBounds i true) (a.put oi.dst v) w):wpAnyT P md ops Q S t (fuel+1) listed a w :=
 wpAnyT_first hi (Region.noSelect_spec hs) hQ hw fuel listed a w (Region.free_spec hi hf) (by simpa using hr) hy hS h
theorem wpAnyT_done {listed:Array Bool}{a:Act}{w:yW}(hr:Region.ready md ops listed = []) (h:Q .normal a w) :
  ∀ fuel,wpAnyT P md ops Q S t fuel listed a w
 | 0=>⟨hr,h⟩
 | _+1=>⟨fun _=>h,by rw [hr]; simp⟩
theorem wpAnyT_one {i:Nat}{o:Oper}{fuel:Nat}{listed:Array Bool}{a:Act}{w:yW}(hr:Region.ready md ops listed = [i]) (ho:ops[i]? = some o)
  (h:∀ K':Act→yW→Prop,Shut (∀ a w,(i≠t→S w)→wpAnyT P md ops Q S t fuel (listed.setIfInBounds i true) a w→K' a w)→if Region.wanted o (yielded ops a.tmps)=true then Oper.wp P o a w K' Q else K' (a.put o.dst undef) w) :
  wpAnyT P md ops Q S t (fuel+1) listed a w :=
 ⟨fun h0=>absurd (hr ▸ h0) (by simp),fun j hj=>by
  rw [hr] at hj
  obtain rfl:=List.mem_singleton.1 hj
  exact wpOp_step ho (fun K' hK=>h K' (fun a w hS hW=>hK a w ⟨hS,hW⟩))⟩
theorem wp_region_T {id:Nat}{a:Act}{w:yW}(hm:P.follows .mixedOrders=true) (hS:S w.drew)
  (h:S w.drew→wpAnyT P .any ops Q S t ops.size (Array.replicate ops.size false) a w.drew):(Code.region id ops true).wp P Q a w :=
 wp_region_any hm (wpAny_of_T _ _ _ _ (h hS))
end
structure Tm where
 st:Int
 rg:List Int
 ac:List (Array Value)
 su:Int
structure Cx where
 s:Sx.Sn
 P:yB→Option Nat
 S:yB→Option Nat
 T:yB→Option Nat
 K:List (Nat × Obj)
def gOf (P:yB→Option Nat) (R:List Int) (x:yB):Option Int:=(P x).bind (fun i=>R[i]?)
def intsA (R:List Int):Array Value:=(R.map (Value.int .i64)).toArray
theorem ints_at {R:List Int}{i:Nat}{v:Int}(h:R[i]? = some v):(intsA R)[i]? = some (zI v):=by
 unfold intsA; simp [h]
def tnA (s:Sx.Sn) (rb n mb sb gb:Nat) (av:Value) (q:Tm):Array Value:=#[zI s.bid,zI s.ask,zI s.last,zI s.vol,zI s.now,zI s.opn,.slice (some rb¢0) n n,.map (some mb),.map (some sb),.map (some gb),zI q.st,av,zU q.su]
def PlM (w:yW) (b:Nat) (P:yB→Option Nat):Prop :=
 ∃ n D,w.ownsMap Tryz.prog 9 (plainElem (H:=Unit) Tryz.prog 3) b n D∧∀ x i,x.size≤maxLen→P x=some i→D.atKey (.string x.data.toList) (.lit (.int .i64 0))=.lit (.int .i64 (i:Nat))
theorem PlM.blk {w w':yW}{b:Nat}{P:yB→Option Nat}(h:PlM w b P) (k:w'.heap[b]? = w.heap[b]?):PlM w' b P:=by
 obtain⟨n,D,⟨es,clock,hb,F,hs,hD⟩,hP⟩:=h
 exact⟨n,D,⟨es,clock,k.trans hb,F,hs,hD⟩,hP⟩
theorem PlM.lt {w:yW}{b:Nat}{P:yB→Option Nat}(h:PlM w b P):b < w§:=by
 obtain⟨n,D,ho,_⟩:=h; exact ho.lt
theorem PlM.no {w:yW}{b c:Nat}{P:yB→Option Nat}(h:PlM w b P) {cs:Array Value}{t:TypeId}{f:Nat × Nat}(k:w.heap[c]? = some (.cells cs t f)):b≠c:=by
 rintro rfl
 obtain⟨n,D,⟨es,clock,hb,_⟩,_⟩:=h
 rw [k] at hb; cases hb
theorem PlM.look {w:yW}{b:Nat}{P:yB→Option Nat}(h:PlM w b P) {x:yB}{i:Nat}(hx:x.size≤maxLen) (hP:P x=some i) :
  Sem.run Tryz.prog (Instr.lookup 89 (.map (some b)) (.string x) false) w=.ok (zI (i:Int)) w:=by
 obtain⟨n,D,ho,hk⟩:=h
 obtain⟨cc,h1,h2,_⟩:=World.ownsMap.lookup_int ho law9 Tryz.underlying89 Tryz.underlying3 (zero3 _) (WideMaps.keyOf_string_mk (P:=Tryz.prog) Tryz.underlying9 hx)
 have e:=h2.symm.trans (hk x i hx hP)
 cases e
 exact h1
structure TnW (B h0:Nat) (x:Cx) (tb rb mb sb gb:Nat) (w:yW) (av:Value) (q:Tm):Prop where
 t:w.heap[tb]? = (zC (tnA x.s rb q.rg.length mb sb gb av q) 117)
 r:w.heap[rb]? = (zC (intsA q.rg) 2)
 p:PlM w mb x.P
 s:PlM w sb x.S
 g:PlM w gb x.T
 row:Row w 79 6 av q.ac.length (arF q.ac 6)
 nb:∀ k,av.ownBlock=some k→h0≤k
 sz:∀ y ∈ q.ac,y.size=6
 bt:B≤tb
 br:B≤rb
 th:tb < h0
 rh:rb < h0
 mh:mb < h0
 sh:sb < h0
 gh:gb < h0
 hw:h0≤w§
 ne:tb≠rb
 pi:∀ y i,x.P y=some i→i < q.rg.length
 si:∀ y i,x.S y=some i→i < 1000000000
 i64:∀ v ∈ q.rg,I64 v
 fi:∀ f,I64 (Sx.getN x.s f)
 kp:∀ p ∈ x.K,w.heap[p.1]? = some p.2∧p.1 < h0∧p.1≠tb∧p.1≠rb
theorem TnW.hid {B h0:Nat}{x:Cx}{tb rb mb sb gb:Nat}{w:yW}{av:Value}{q:Tm}(h:TnW B h0 x tb rb mb sb gb w av q):Hid (TnW B h0 x tb rb mb sb gb w av q):=h
theorem TnW.on {B h0:Nat}{x:Cx}{tb rb mb sb gb:Nat}{w w':yW}{av:Value}{q:Tm}(h:TnW B h0 x tb rb mb sb gb w av q) (k:yD w w'):TnW B h0 x tb rb mb sb gb w' av q :=
 { h with
  t:=(k.block _ (zJ h.t).1).trans h.t
  r:=(k.block _ (zJ h.r).1).trans h.r
  p:=h.p.blk (k.block _ h.p.lt)
  s:=h.s.blk (k.block _ h.s.lt)
  g:=h.g.blk (k.block _ h.g.lt)
  row:=h.row.of_block (fun b hb=>k.block b (h.row.lt b hb))
  hw:=Nat.le_trans h.hw k.size
  kp:=fun p hp=>⟨(k.block _ (zJ (h.kp p hp).1).1).trans (h.kp p hp).1,(h.kp p hp).2⟩ }
theorem tn_sn {w:yW}{tb rb n mb sb gb:Nat}{s:Sx.Sn}{av:Value}{q:Tm}(h:w.heap[tb]? = (zC (tnA s rb n mb sb gb av q) 117)):Sx.SnAt w tb s :=
 ⟨cell_of h 0,cell_of h 1,cell_of h 2,cell_of h 3,cell_of h 4,cell_of h 5⟩
theorem TnW.sv {B h0:Nat}{x:Cx}{tb rb mb sb gb:Nat}{w:yW}{av:Value}{q:Tm}(h:TnW B h0 x tb rb mb sb gb w av q):Sv w tb x.s (gOf x.P q.rg):=by
 refine⟨tn_sn h.t,fun y v hy hv=>?_⟩
 unfold gOf at hv
 cases e:x.P y with
 | none=>rw [e] at hv; cases hv
 | some i =>
  rw [e] at hv
  have hv:q.rg[i]? = some v:=hv
  obtain⟨n,D,ho,hk⟩:=h.p
  exact⟨h.i64 _ (List.mem_of_getElem? hv),rb,0,q.rg.length,q.rg.length,mb,i,n,D,cell_of h.t 6,cell_of h.t 7,ho,hk y i hy e,h.pi y i e,by rw [Nat.zero_add]; exact (cell_of h.r i).trans (ints_at hv)⟩
def cutW (w:yW) (h0:Nat):yW:={ w with heap:=w.heap.extract 0 h0 }
theorem cut_size {w:yW}{h0:Nat}(h:h0≤w§):(cutW w h0)§=h0:=by unfold cutW; simp; omega
theorem cut_below {w:yW}{h0:Nat}(h:h0≤w§):Below (cutW w h0)§ (cutW w h0) w:=by
 rw [cut_size h]
 refine⟨rfl,rfl,rfl,by rw [cut_size h]; exact h,fun b hb=>?_⟩
 unfold cutW
 simp [Array.getElem?_extract]
 omega
theorem TnW.ra {B h0:Nat}{x:Cx}{tb rb mb sb gb:Nat}{w:yW}{av:Value}{q:Tm}(h:TnW B h0 x tb rb mb sb gb w av q):RA (cutW w h0) w 79 6 av q.ac :=
 ⟨h.row,fun k hk=>by rw [cut_size h.hw]; exact h.nb k hk,cut_below h.hw,h.sz⟩
def slotN (S:yB→Option Nat) (x:yB):Int:=if x.toList.isEmpty=true then 0 else ((S x).getD 0:Nat)+1
theorem slot_any {B h0:Nat}{x:Cx}{tb rb mb sb gb:Nat}{w:yW}{av:Value}{q:Tm}(h:TnW B h0 x tb rb mb sb gb w av q) (y:yB) (hy:y.size≤maxLen) (hs:y.toList.isEmpty=false→(x.S y).isSome=true) :
  Calls zG 171 #[zP tb,.string y] w fun e w'=>e=.returned (zI (slotN x.S y))∧w'=w:=by
 have c8:w.cell? tb¢8=some (.map (some sb)):=cell_of h.t 8
 have HSI:=h.si
 have HP:=h.s
 unfold slotN
 clear h
 cases eE:y.toList.isEmpty with
 | true =>
  go_enter Tryz.func171,Tryz.ntmps171
  go_wp2_with fail
  go_ret
  exact⟨rfl,rfl⟩
 | false =>
  obtain⟨i,ei⟩:=Option.isSome_iff_exists.1 (hs eE)
  have hrun:=HP.look hy ei
  have hi:=HSI y i ei
  have hw1:wrap64 ((i:Int)+1)=(i:Int)+1:=by unfold wrap64; omega
  rw [ei]
  clear HP HSI hs ei hi
  go_enter Tryz.func171,Tryz.ntmps171
  go_wp2_with fail
  go_ret
  exact⟨rfl,rfl⟩
theorem TnW.upd {B h0:Nat}{x:Cx}{tb rb mb sb gb:Nat}{w:yW}{av:Value}{q:Tm}{w':yW}{q':Tm}(h:TnW B h0 x tb rb mb sb gb w av q) (ht:w'.heap[tb]? = (zC (tnA x.s rb q'.rg.length mb sb gb av q') 117)) (ho:∀ b,b≠tb→w'.heap[b]? = w.heap[b]?) (hz:w§≤w'§) (e1:q'.rg=q.rg) (e2:q'.ac=q.ac):TnW B h0 x tb rb mb sb gb w' av q':=by
 obtain⟨st,rg,ac,su⟩:=q'
 obtain rfl:rg=q.rg:=e1
 obtain rfl:ac=q.ac:=e2
 exact { h with
  t:=ht
  r:=(ho _ (Ne.symm h.ne)).trans h.r
  p:=h.p.blk (ho _ (h.p.no h.t))
  s:=h.s.blk (ho _ (h.s.no h.t))
  g:=h.g.blk (ho _ (h.g.no h.t))
  row:=h.row.of_block (fun b hb=>ho b (fun e=>by have:=h.nb b hb; have:=h.th; omega))
  hw:=Nat.le_trans h.hw hz
  kp:=fun p hp=>⟨(ho _ (h.kp p hp).2.2.1).trans (h.kp p hp).1,(h.kp p hp).2⟩ }
theorem sz_set (W:yW) (p:Addr) (v:Value):(W.setCell p v)§=W§:=by unfold World.setCell; split <;> simp
theorem tn_set {w:yW}{tb:Nat}{cs:Array Value}(h:w.heap[tb]? = (zC cs 117)) (j:Nat) (v:Value):(w.setCell tb¢j v).heap[tb]? = (zC (cs.setIfInBounds j v) 117):=heap_set v h
theorem set_oth {w:yW}{tb j:Nat}{v:Value}(b:Nat) (h:b≠tb):(w.setCell tb¢j v).heap[b]? = w.heap[b]?:=Below.heap_setCell _ _ _ _ h
theorem halt_deed {B h0:Nat}{x:Cx}{tb rb mb sb gb:Nat}{w:yW}{av:Value}{q:Tm}(h:TnW B h0 x tb rb mb sb gb w av q) (d:DoM) :
  Calls zG 133 #[zP tb,.agg d.vals] w fun e w'=>e=.returned (.tuple #[])∧TnW B h0 x tb rb mb sb gb w' av { q with su:=2 }∧Below B w w':=by
 have HB:=below_new w (.cells d.vals 121)
 have H:=(h.on HB).hid
 have HBB:Hid (Below B w (w.alloc (.cells d.vals 121))):=HB.mono (Nat.le_trans h.bt (Nat.le_of_lt (zJ h.t).1))
 have f12:(w.alloc (.cells d.vals 121)).frozen? tb¢12=false:=frozen_of H.out.t 12
 have c12:(w.alloc (.cells d.vals 121)).cell? tb¢12=some (zU q.su):=cell_of H.out.t 12
 obtain⟨V,eV⟩:∃ V,w.alloc (.cells d.vals 121)=V:=⟨_,rfl⟩
 have EV:Hid (w.alloc (.cells d.vals 121)=V):=eV
 rw [eV] at H HBB f12 c12
 clear eV HB
 have HE:Hid (TnW B h0 x tb rb mb sb gb (V.setCell tb¢12 (zU 2)) av { q with su:=2 }∧Below B w (V.setCell tb¢12 (zU 2))) :=
  ⟨H.out.upd (tn_set H.out.t 12 _) set_oth (by rw [sz_set]; exact Nat.le_refl _) rfl rfl,HBB.out.setCell (p:=tb¢12) H.out.bt _⟩
 clear h
 go_enter Tryz.func133,Tryz.ntmps133
 go_upto_region 1 with fail
 rw [EV.out]
 go_wp2_with fail
 go_end0
 exact⟨rfl,HE.out.1,HE.out.2⟩
theorem goto_deed {B h0:Nat}{x:Cx}{tb rb mb sb gb:Nat}{w:yW}{av:Value}{q:Tm}(h:TnW B h0 x tb rb mb sb gb w av q) (d:DoM) (hx:d.x.size≤maxLen) {i:Nat}(hi:x.T d.x=some i) :
  Calls zG 132 #[zP tb,.agg d.vals] w fun e w'=>e=.returned (.tuple #[])∧TnW B h0 x tb rb mb sb gb w' av { q with st:=(i:Int) }∧Below B w w':=by
 have HB:=below_new w (.cells d.vals 121)
 have HN:=heap_new w (.cells d.vals 121)
 have H:=(h.on HB).hid
 have HBB:Hid (Below B w (w.alloc (.cells d.vals 121))):=HB.mono (Nat.le_trans h.bt (Nat.le_of_lt (zJ h.t).1))
 obtain⟨V,eV⟩:∃ V,w.alloc (.cells d.vals 121)=V:=⟨_,rfl⟩
 have EV:Hid (w.alloc (.cells d.vals 121)=V):=eV
 rw [eV] at H HBB HN
 have HN:Hid (V.heap[w§]? = (zC d.vals 121)):=HN
 clear eV HB
 have HE:Hid (TnW B h0 x tb rb mb sb gb (V.drew.setCell tb¢10 (zI (i:Int))) av { q with st:=(i:Int) }∧Below B w (V.drew.setCell tb¢10 (zI (i:Int)))) :=
  ⟨(H.out.on ⟨rfl,rfl,rfl,Nat.le_refl _,fun _ _=>rfl⟩).upd (tn_set H.out.t 10 _) set_oth (by rw [sz_set]; exact Nat.le_refl _) rfl rfl,HBB.out.drew.setCell (p:=tb¢10) H.out.bt _⟩
 have HL:Hid (∀ u,PlM u gb x.T→Sem.run Tryz.prog (Instr.lookup 89 (.map (some gb)) (.string d.x) false) u=.ok (zI (i:Int)) u):=fun u hu=>hu.look hx hi
 have HS:Hid (V.heap[tb]? = (zC (tnA x.s rb q.rg.length mb sb gb av q) 117)∧V.heap[w§]? = (zC d.vals 121)∧PlM V gb x.T):=⟨H.out.t,HN.out,H.out.g⟩
 have HC:Hid (V.drew.cell? tb¢10=some (zI q.st)∧V.drew.frozen? tb¢10=false):=⟨cell_of H.out.t 10,frozen_of H.out.t 10⟩
 clear h hi
 go_enter Tryz.func132,Tryz.ntmps132
 go_upto_region 1 with fail
 rw [EV.out]
 refine (?_:∀ Q',Hid (Q'=_)→Code.wp _ _ Q' _ _) _ rfl
 intro Q' HQ'
 have HPn:Hid (∀ p (d:Nat) v a w,Q' (.panic p) (Act.put a (some d) v) w→Q' (.panic p) a w):=by rw [HQ'.out]; exact fun _ _ _ _ _ h=>h
 refine wp_region_T (t:=10) (S:=fun u=>u.heap[tb]? = (zC (tnA x.s rb q.rg.length mb sb gb av q) 117)∧u.heap[w§]? = (zC d.vals 121)∧PlM u gb x.T) zK HS.out (fun hHeld=>?_)
 refine wpAnyT_take (i:=0) (v:=?_) rfl zK zK zK zK (fun c a w h=>HPn.out c _ _ a w h) (Or.inl ⟨by rfl,?_⟩) (by assumption) ?_
 rotate_left
 ·(intro v hv; go_simp; try (with_reducible rfl))
 try simp [Act.put]
 refine wpAnyT_take (i:=1) (v:=?_) rfl zK zK zK zK (fun c a w h=>HPn.out c _ _ a w h) (Or.inl ⟨by rfl,?_⟩) (by assumption) ?_
 rotate_left
 ·(intro v hv; go_simp; try (with_reducible rfl))
 try simp [Act.put]
 refine wpAnyT_take (i:=2) (v:=?_) rfl zK zK zK zK (fun c a w h=>HPn.out c _ _ a w h) (Or.inl ⟨by rfl,?_⟩) (by assumption) ?_
 rotate_left
 ·(intro v hv; go_simp; try (with_reducible rfl))
 try simp [Act.put]
 refine wpAnyT_take (i:=3) (v:=?_) rfl zK zK zK zK (fun c a w h=>HPn.out c _ _ a w h) (Or.inl ⟨by rfl,?_⟩) (by assumption) ?_
 rotate_left
 ·(intro v hv; go_simp; try (with_reducible rfl))
 try simp [Act.put]
 refine wpAnyT_take (i:=4) (v:=?_) rfl zK zK zK zK (fun c a w h=>HPn.out c _ _ a w h) (Or.inl ⟨by rfl,?_⟩) (by assumption) ?_
 rotate_left
 ·(intro v hv; have c9:v.cell? tb¢9=some (.map (some gb)):=cell_of hv.1 9; clear hv; go_simp; try (with_reducible rfl))
 try simp [Act.put]
 refine wpAnyT_take (i:=5) (v:=?_) rfl zK zK zK zK (fun c a w h=>HPn.out c _ _ a w h) (Or.inl ⟨by rfl,?_⟩) (by assumption) ?_
 rotate_left
 ·(intro v hv; go_simp; try (with_reducible rfl))
 try simp [Act.put]
 refine wpAnyT_take (i:=6) (v:=?_) rfl zK zK zK zK (fun c a w h=>HPn.out c _ _ a w h) (Or.inl ⟨by rfl,?_⟩) (by assumption) ?_
 rotate_left
 ·(intro v hv; have c2:v.cell? w§¢2=some (.string d.x):=cell_of hv.2.1 2; clear hv; go_simp; try (with_reducible rfl))
 try simp [Act.put]
 refine wpAnyT_take (i:=7) (v:=?_) rfl zK zK zK zK (fun c a w h=>HPn.out c _ _ a w h) (Or.inl ⟨by rfl,?_⟩) (by assumption) ?_
 rotate_left
 ·(intro v hv; have hr:=HL.out v hv.2.2; clear hv; go_simp; try (with_reducible rfl))
 try simp [Act.put]
 refine wpAnyT_one (i:=8) zK rfl (fun K hK=>?_)
 go_simp
 refine hK.out _ _ (fun _=>hHeld) ?_
 clear hK K
 try simp [Act.put]
 refine wpAnyT_take (i:=9) (v:=?_) rfl zK zK zK zK (fun c a w h=>HPn.out c _ _ a w h) (Or.inl ⟨by rfl,?_⟩) (by assumption) ?_
 rotate_left
 ·(intro v hv; go_simp; try (with_reducible rfl))
 try simp [Act.put]
 have c10:=HC.out.1
 have f10:=HC.out.2
 refine wpAnyT_one (i:=10) zK rfl (fun K hK=>?_)
 go_simp
 refine hK.out _ _ (fun h=>absurd rfl h) ?_
 clear hK K
 try simp [Act.put]
 refine wpAnyT_done zK ?_ _
 rw [HQ'.out]
 clear HQ' HPn Q'
 go_wp2_with fail
 go_end0
 exact⟨rfl,HE.out.1,HE.out.2⟩
theorem Res.mono {G H:yB→Option Int}(k:∀ y,(G y).isSome=true→(H y).isSome=true) {m:Nd}(h:Res G m):Res H m:=by
 induction h with
 | mk h a c ks hf hn hs ih=>exact .mk h a c ks hf (fun e=>k _ (hn e)) ih
theorem TnW.bs {B h0:Nat}{x:Cx}{tb rb mb sb gb:Nat}{w:yW}{av:Value}{q:Tm}(h:TnW B h0 x tb rb mb sb gb w av q):B≤w§:=by have:=h.bt; have:=h.th; have:=h.hw; omega
theorem TnW.reg {B h0:Nat}{x:Cx}{tb rb mb sb gb:Nat}{w:yW}{av:Value}{q:Tm}{w':yW}{i:Nat}{v:Int}(h:TnW B h0 x tb rb mb sb gb w av q) (hv:I64 v) (hr:w'.heap[rb]? = (zC ((intsA q.rg).setIfInBounds i (zI v)) 2)) (ho:∀ b,b≠rb→w'.heap[b]? = w.heap[b]?) (hz:w§≤w'§):TnW B h0 x tb rb mb sb gb w' av { q with rg:=q.rg.set i v }:=by
 have hrr:w'.heap[rb]? = (zC (intsA (q.rg.set i v)) 2):=by
  rw [hr]
  congr 2
  unfold intsA
  rw [List.map_set]
  simp
 exact { h with
  t:=by show _=some (Obj.cells (tnA x.s rb (q.rg.set i v).length mb sb gb av _) _ _); rw [List.length_set]; exact (ho _ h.ne).trans h.t
  r:=hrr
  p:=h.p.blk (ho _ (h.p.no h.r))
  s:=h.s.blk (ho _ (h.s.no h.r))
  g:=h.g.blk (ho _ (h.g.no h.r))
  row:=h.row.of_block (fun b hb=>ho b (fun e=>by have:=h.nb b hb; have:=h.rh; omega))
  hw:=Nat.le_trans h.hw hz
  kp:=fun p hp=>⟨(ho _ (h.kp p hp).2.2.2).trans (h.kp p hp).1,(h.kp p hp).2⟩
  pi:=fun y j hj=>by show j < (q.rg.set i v).length; rw [List.length_set]; exact h.pi y j hj
  i64:=fun z hz=>by
   rcases List.mem_or_eq_of_mem_set hz with h1 | h1
   ·exact h.i64 z h1
   ·rw [h1]; exact hv }
theorem set_deed {B h0:Nat}{x:Cx}{tb rb mb sb gb:Nat}{w:yW}{av:Value}{q:Tm}(h:TnW B h0 x tb rb mb sb gb w av q) (d:DoM) (hx:d.x.size≤maxLen) {i:Nat}(hi:x.P d.x=some i) (hl:Lies w d.vl) (hr:Res (gOf x.P q.rg) d.vl) :
  Calls zG 131 #[zP tb,.agg d.vals] w (fun e w'=>match valR x.s (gOf x.P q.rg) d.vl with
   | .error c=>e=fltE c∧yD w w'
   | .ok v=>e=.returned (.tuple #[])∧TnW B h0 x tb rb mb sb gb w' av { q with rg:=q.rg.set i v }∧Below B w w'):=by
 have HB:=below_new w (.cells d.vals 121)
 have HN:=heap_new w (.cells d.vals 121)
 have H:=(h.on HB).hid
 have HBB:Hid (Below B w (w.alloc (.cells d.vals 121))):=HB.mono (Nat.le_trans h.bt (Nat.le_of_lt (zJ h.t).1))
 have HLI:=hl.on HB
 obtain⟨V,eV⟩:∃ V,w.alloc (.cells d.vals 121)=V:=⟨_,rfl⟩
 have EV:Hid (w.alloc (.cells d.vals 121)=V):=eV
 rw [eV] at H HBB HN HLI
 have HBC:Hid (yD w V):=eV ▸ HB
 have HN:Hid (V.heap[w§]? = (zC d.vals 121)):=HN
 have HDR:yD V V.drew:=⟨rfl,rfl,rfl,Nat.le_refl _,fun _ _=>rfl⟩
 have cV:=value_any (s:=x.s) (G:=gOf x.P q.rg) h.fi d.vl V.drew (H.out.on HDR).sv (HLI.on HDR) hr
 have HV6:Hid (Ok64 (valR x.s (gOf x.P q.rg) d.vl)):=val_64 h.fi (fun y v h1 h2=>(h.sv.rg y v h1 h2).1) d.vl hl
 have hlt:=h.pi _ _ hi
 have hlt':(i:Int) < (q.rg.length:Int):=by omega
 obtain⟨v0,ev0⟩:∃ v0,q.rg[i]? = some v0:=⟨_,List.getElem?_eq_getElem hlt⟩
 have hi0:(0:Int)≤(i:Int):=by omega
 clear eV HB HLI HDR hlt
 have HL:Hid (∀ u,PlM u mb x.P→Sem.run Tryz.prog (Instr.lookup 89 (.map (some mb)) (.string d.x) false) u=.ok (zI (i:Int)) u):=fun u hu=>hu.look hx hi
 have HS:Hid (∀ u,yD V u→u.heap[tb]? = (zC (tnA x.s rb q.rg.length mb sb gb av q) 117)∧u.heap[w§]? = (zC d.vals 121)∧PlM u mb x.P):=fun u k=>⟨(H.out.on k).t,(k.block _ (zJ HN.out).1).trans HN.out,(H.out.on k).p⟩
 have HC:Hid (∀ u,yD V u→u.cell? rb¢i=some (zI v0)∧u.frozen? rb¢i=false):=fun u k=>⟨(cell_of (H.out.on k).r i).trans (ints_at ev0),frozen_of (H.out.on k).r i⟩
 obtain⟨r,er⟩:∃ r,valR x.s (gOf x.P q.rg) d.vl=r:=⟨_,rfl⟩
 rw [er] at cV HV6 ⊢
 clear h hi hl hr ev0 er
 have cV:Calls zG 37 #[zP tb,.agg #[zU d.vl.h.k,zU d.vl.h.o,zU d.vl.h.t,zI d.vl.h.n,zU d.vl.h.f,.string d.vl.h.x,.slice d.vl.a d.vl.ks.length d.vl.c,zI d.vl.h.p]] V.drew (OutV V.drew r):=cV
 go_enter Tryz.func131,Tryz.ntmps131
 go_upto_region 1 with fail
 rw [EV.out]
 refine (?_:∀ Q',Hid (Q'=_)→Code.wp _ _ Q' _ _) _ rfl
 intro Q' HQ'
 have HPn:Hid (∀ p (d:Nat) v a w,Q' (.panic p) (Act.put a (some d) v) w→Q' (.panic p) a w):=by rw [HQ'.out]; exact fun _ _ _ _ _ h=>h
 refine wp_region_T (t:=20) (S:=fun u=>u.heap[tb]? = (zC (tnA x.s rb q.rg.length mb sb gb av q) 117)∧u.heap[w§]? = (zC d.vals 121)∧PlM u mb x.P) zK (HS.out V (Below.refl _ _)) (fun hHeld=>?_)
 refine wpAnyT_take (i:=0) (v:=?_) rfl zK zK zK zK (fun c a w h=>HPn.out c _ _ a w h) (Or.inl ⟨by rfl,?_⟩) (by assumption) ?_
 rotate_left
 ·(intro v hv; go_simp; try (with_reducible rfl))
 try simp [Act.put]
 refine wpAnyT_take (i:=1) (v:=?_) rfl zK zK zK zK (fun c a w h=>HPn.out c _ _ a w h) (Or.inl ⟨by rfl,?_⟩) (by assumption) ?_
 rotate_left
 ·(intro v hv; go_simp; try (with_reducible rfl))
 try simp [Act.put]
 refine wpAnyT_take (i:=2) (v:=?_) rfl zK zK zK zK (fun c a w h=>HPn.out c _ _ a w h) (Or.inl ⟨by rfl,?_⟩) (by assumption) ?_
 rotate_left
 ·(intro v hv; go_simp; try (with_reducible rfl))
 try simp [Act.put]
 refine wpAnyT_take (i:=3) (v:=?_) rfl zK zK zK zK (fun c a w h=>HPn.out c _ _ a w h) (Or.inl ⟨by rfl,?_⟩) (by assumption) ?_
 rotate_left
 ·(intro v hv; go_simp; try (with_reducible rfl))
 try simp [Act.put]
 refine wpAnyT_take (i:=4) (v:=?_) rfl zK zK zK zK (fun c a w h=>HPn.out c _ _ a w h) (Or.inl ⟨by rfl,?_⟩) (by assumption) ?_
 rotate_left
 ·(intro v hv; have c6:v.cell? tb¢6=some (.slice (some rb¢0) q.rg.length q.rg.length):=cell_of hv.1 6; clear hv; go_simp; try (with_reducible rfl))
 try simp [Act.put]
 refine wpAnyT_take (i:=5) (v:=?_) rfl zK zK zK zK (fun c a w h=>HPn.out c _ _ a w h) (Or.inl ⟨by rfl,?_⟩) (by assumption) ?_
 rotate_left
 ·(intro v hv; go_simp; try (with_reducible rfl))
 try simp [Act.put]
 refine wpAnyT_take (i:=6) (v:=?_) rfl zK zK zK zK (fun c a w h=>HPn.out c _ _ a w h) (Or.inl ⟨by rfl,?_⟩) (by assumption) ?_
 rotate_left
 ·(intro v hv; go_simp; try (with_reducible rfl))
 try simp [Act.put]
 refine wpAnyT_take (i:=7) (v:=?_) rfl zK zK zK zK (fun c a w h=>HPn.out c _ _ a w h) (Or.inl ⟨by rfl,?_⟩) (by assumption) ?_
 rotate_left
 ·(intro v hv; go_simp; try (with_reducible rfl))
 try simp [Act.put]
 refine wpAnyT_take (i:=8) (v:=?_) rfl zK zK zK zK (fun c a w h=>HPn.out c _ _ a w h) (Or.inl ⟨by rfl,?_⟩) (by assumption) ?_
 rotate_left
 ·(intro v hv; go_simp; try (with_reducible rfl))
 try simp [Act.put]
 refine wpAnyT_take (i:=9) (v:=?_) rfl zK zK zK zK (fun c a w h=>HPn.out c _ _ a w h) (Or.inl ⟨by rfl,?_⟩) (by assumption) ?_
 rotate_left
 ·(intro v hv; have c7:v.cell? tb¢7=some (.map (some mb)):=cell_of hv.1 7; clear hv; go_simp; try (with_reducible rfl))
 try simp [Act.put]
 refine wpAnyT_take (i:=10) (v:=?_) rfl zK zK zK zK (fun c a w h=>HPn.out c _ _ a w h) (Or.inl ⟨by rfl,?_⟩) (by assumption) ?_
 rotate_left
 ·(intro v hv; go_simp; try (with_reducible rfl))
 try simp [Act.put]
 refine wpAnyT_take (i:=11) (v:=?_) rfl zK zK zK zK (fun c a w h=>HPn.out c _ _ a w h) (Or.inl ⟨by rfl,?_⟩) (by assumption) ?_
 rotate_left
 ·(intro v hv; have c2:v.cell? w§¢2=some (.string d.x):=cell_of hv.2.1 2; clear hv; go_simp; try (with_reducible rfl))
 try simp [Act.put]
 refine wpAnyT_take (i:=12) (v:=?_) rfl zK zK zK zK (fun c a w h=>HPn.out c _ _ a w h) (Or.inl ⟨by rfl,?_⟩) (by assumption) ?_
 rotate_left
 ·(intro v hv; have hr:=HL.out v hv.2.2; clear hv; go_simp; try (with_reducible rfl))
 try simp [Act.put]
 refine wpAnyT_take (i:=13) (v:=?_) rfl zK zK zK zK (fun c a w h=>HPn.out c _ _ a w h) (Or.inl ⟨by rfl,?_⟩) (by assumption) ?_
 rotate_left
 ·(intro v hv; go_simp; try (with_reducible rfl))
 try simp [Act.put]
 refine wpAnyT_take (i:=14) (v:=?_) rfl zK zK zK zK (fun c a w h=>HPn.out c _ _ a w h) (Or.inl ⟨by rfl,?_⟩) (by assumption) ?_
 rotate_left
 ·(intro v hv; go_simp; try (with_reducible rfl))
 try simp [Act.put]
 refine wpAnyT_take (i:=15) (v:=?_) rfl zK zK zK zK (fun c a w h=>HPn.out c _ _ a w h) (Or.inl ⟨by rfl,?_⟩) (by assumption) ?_
 rotate_left
 ·(intro v hv; go_simp; try (with_reducible rfl))
 try simp [Act.put]
 refine wpAnyT_take (i:=16) (v:=?_) rfl zK zK zK zK (fun c a w h=>HPn.out c _ _ a w h) (Or.inl ⟨by rfl,?_⟩) (by assumption) ?_
 rotate_left
 ·(intro v hv; go_simp; try (with_reducible rfl))
 try simp [Act.put]
 refine wpAnyT_take (i:=17) (v:=?_) rfl zK zK zK zK (fun c a w h=>HPn.out c _ _ a w h) (Or.inl ⟨by rfl,?_⟩) (by assumption) ?_
 rotate_left
 ·(intro v hv; have e0:v.cell? w§¢27=some (zU d.vl.h.k):=cell_of hv.2.1 27; have e1:v.cell? w§¢28=some (zU d.vl.h.o):=cell_of hv.2.1 28; have e2:v.cell? w§¢29=some (zU d.vl.h.t):=cell_of hv.2.1 29; have e3:v.cell? w§¢30=some (zI d.vl.h.n):=cell_of hv.2.1 30; have e4:v.cell? w§¢31=some (zU d.vl.h.f):=cell_of hv.2.1 31; have e5:v.cell? w§¢32=some (.string d.vl.h.x):=cell_of hv.2.1 32; have e6:v.cell? w§¢33=some (.slice d.vl.a d.vl.ks.length d.vl.c):=cell_of hv.2.1 33; have e7:v.cell? w§¢34=some (zI d.vl.h.p):=cell_of hv.2.1 34; clear hv; go_simp; try (with_reducible rfl))
 try simp [Act.put]
 cases r with
 | error c =>
  refine wpAnyT_one (i:=18) zK rfl (fun K hK=>?_)
  go_simp
  refine cV.mono ?_
  rintro e w1 ⟨rfl,hb⟩
  rw [HQ'.out]
  exact⟨rfl,rfl,HBC.out.drew.trans (hb.mono HBC.out.size)⟩
 | ok z =>
  refine wpAnyT_one (i:=18) zK rfl (fun K hK=>?_)
  go_simp
  refine cV.mono ?_
  rintro e w1 ⟨rfl,hb⟩
  have HB1:Hid (yD V w1):=⟨hb.os,hb.tape,hb.output,hb.size,hb.block⟩
  clear hb
  unfold endV
  go_simp
  refine hK.out _ _ (fun _=>HS.out _ HB1.out) ?_
  clear hK K
  try simp [Act.put]
  refine wpAnyT_one (i:=19) zK rfl (fun K hK=>?_)
  go_simp
  refine hK.out _ _ (fun _=>HS.out _ HB1.out) ?_
  clear hK K
  try simp [Act.put]
  obtain⟨cr,fr⟩:=HC.out _ HB1.out
  refine wpAnyT_one (i:=20) zK rfl (fun K hK=>?_)
  go_simp
  refine hK.out _ _ (fun h=>absurd rfl h) ?_
  clear hK K
  try simp [Act.put]
  refine wpAnyT_done zK ?_ _
  rw [HQ'.out]
  clear HQ' HPn Q'
  have HE:Hid (TnW B h0 x tb rb mb sb gb (w1.setCell rb¢i (zI z)) av { q with rg:=q.rg.set i z }∧Below B w (w1.setCell rb¢i (zI z))) :=
   ⟨(H.out.on HB1.out).reg (HV6.out z rfl) (heap_set _ (H.out.on HB1.out).r) set_oth (by rw [sz_set]; exact Nat.le_refl _),(HBB.out.trans (HB1.out.mono H.out.bs)).setCell (p:=rb¢i) H.out.br _⟩
  go_wp2_with fail
  go_end0
  exact⟨rfl,HE.out.1,HE.out.2⟩
theorem inf79:(Tryz.prog.info? 79).map (fun i=>(i.zero,i.size,i.bytes))=some (some (.agg #[zU 0,zU 0,zU 0,zI 0,zI 0,zI 0]),6,32):=by kernel_rfl
theorem RA.sl3 {W w:yW}{e:TypeId}{n:Nat}{v:Value}{L:List (Array Value)}(h:RA W w e n v L):∃ a k c,v=.slice a k c:=let ⟨a,c,e,_⟩:=h.row.form; ⟨a,_,c,e⟩
def acA (k o s p n l:Int):Array Value:=#[zU k,zU o,zU s,zI p,zI n,zI l]
theorem ac_one (k o s p n l:Int):∀ u ∈ (acA k o s p n l).toList,u.oneCell'=true:=by simp [acA,Value.oneCell']
theorem TnW.app {B h0:Nat}{x:Cx}{tb rb mb sb gb:Nat}{w:yW}{av:Value}{q:Tm}{w2:yW}{v':Value}{y:Array Value}(h:TnW B h0 x tb rb mb sb gb w av q) (hr:RA (cutW w h0) w2 79 6 v' (q.ac ++ [y])) (hs:w§≤w2§) (hk:∀ b,b < w§→av.ownBlock≠some b→w2.heap[b]? = w.heap[b]?) :
  TnW B h0 x tb rb mb sb gb (w2.setCell tb¢11 v') v' { q with ac:=q.ac ++ [y] }∧Below B w (w2.setCell tb¢11 v'):=by
 have no:∀ b,b < h0→b < w§∧av.ownBlock≠some b:=fun b hb=>⟨by have:=h.hw; omega,fun e=>by have:=h.nb b e; omega⟩
 have old:∀ b,b < h0→w2.heap[b]? = w.heap[b]?:=fun b hb=>hk b (no b hb).1 (no b hb).2
 have nb':∀ k,v'.ownBlock=some k→h0≤k:=fun k e=>by have:=hr.nb k e; rwa [cut_size h.hw] at this
 have ht:w2.heap[tb]? = (zC (tnA x.s rb q.rg.length mb sb gb av q) 117):=(old _ h.th).trans h.t
 have hz:(w2.setCell tb¢11 v')§=w2§:=sz_set _ _ _
 refine⟨{ h with
  t:=tn_set ht 11 v'
  r:=(set_oth _ (Ne.symm h.ne)).trans ((old _ h.rh).trans h.r)
  p:=h.p.blk ((set_oth _ (h.p.no h.t)).trans (old _ h.mh))
  s:=h.s.blk ((set_oth _ (h.s.no h.t)).trans (old _ h.sh))
  g:=h.g.blk ((set_oth _ (h.g.no h.t)).trans (old _ h.gh))
  row:=hr.row.of_block (fun b hb=>set_oth b (fun e=>by have:=nb' b hb; have:=h.th; omega))
  nb:=nb'
  sz:=hr.sz
  hw:=by rw [hz]; exact Nat.le_trans h.hw hs
  kp:=fun p hp=>⟨(set_oth _ (h.kp p hp).2.2.1).trans ((old _ (h.kp p hp).2.1).trans (h.kp p hp).1),(h.kp p hp).2⟩ },?_⟩
 have hB:=hr.B
 rw [cut_size h.hw] at hB
 have h1:Below B w w2:=⟨hB.os,hB.tape,hB.output,hs,fun b hb=>old b (by have:=h.bt; have:=h.th; omega)⟩
 exact h1.setCell (p:=tb¢11) h.bt _
theorem cancel_deed {B h0:Nat}{x:Cx}{tb rb mb sb gb:Nat}{w:yW}{av:Value}{q:Tm}(h:TnW B h0 x tb rb mb sb gb w av q) (d:DoM) (hx:d.x.size≤maxLen) (hs:d.x.toList.isEmpty=false→(x.S d.x).isSome=true) (hn:q.ac.length≤1000000000) :
  Calls zG 130 #[zP tb,.agg d.vals] w (fun e w'=>e=.returned (.tuple #[])∧∃ av',TnW B h0 x tb rb mb sb gb w' av' { q with ac:=q.ac ++ [acA 3 0 0 0 0 (slotN x.S d.x)] }∧Below B w w'):=by
 have HB:=below_new w (.cells d.vals 121)
 have HN:=heap_new w (.cells d.vals 121)
 have H:=(h.on HB).hid
 have HBB:Hid (Below B w (w.alloc (.cells d.vals 121))):=HB.mono (Nat.le_trans h.bt (Nat.le_of_lt (zJ h.t).1))
 obtain⟨V,eV⟩:∃ V,w.alloc (.cells d.vals 121)=V:=⟨_,rfl⟩
 have EV:Hid (w.alloc (.cells d.vals 121)=V):=eV
 rw [eV] at H HBB HN
 have HN:Hid (V.heap[w§]? = (zC d.vals 121)):=HN
 have HDR:yD V V.drew:=⟨rfl,rfl,rfl,Nat.le_refl _,fun _ _=>rfl⟩
 have H:=(H.out.on HDR).hid
 have cV:=slot_any H.out d.x hx hs
 have HLN:Hid (q.ac.length≤1000000000):=hn
 have HOB:Hid (av.ownBlock≠some w§):=fun e=>by have:=h.row.lt _ e; omega
 have HRA:Hid (RA (cutW V.drew h0) V.drew 79 6 av q.ac):=H.out.ra
 obtain⟨sl,esl⟩:∃ sl,slotN x.S d.x=sl:=⟨_,rfl⟩
 rw [esl] at cV ⊢
 clear eV HB h hs hn esl HDR
 have HS:Hid (∀ u,yD V u→u.heap[tb]? = (zC (tnA x.s rb q.rg.length mb sb gb av q) 117)∧u.heap[w§]? = (zC d.vals 121)):=fun u k=>⟨(k.block _ (zJ H.out.t).1).trans H.out.t,(k.block _ (zJ HN.out).1).trans HN.out⟩
 go_enter Tryz.func130,Tryz.ntmps130
 go_upto_region 1 with fail
 rw [EV.out]
 refine (?_:∀ Q',Hid (Q'=_)→Code.wp _ _ Q' _ _) _ rfl
 intro Q' HQ'
 have HPn:Hid (∀ p (d:Nat) v a w,Q' (.panic p) (Act.put a (some d) v) w→Q' (.panic p) a w):=by rw [HQ'.out]; exact fun _ _ _ _ _ h=>h
 refine wp_region_T (t:=14) (S:=fun u=>u.heap[tb]? = (zC (tnA x.s rb q.rg.length mb sb gb av q) 117)∧u.heap[w§]? = (zC d.vals 121)) zK (HS.out V (Below.refl _ _)) (fun hHeld=>?_)
 refine wpAnyT_take (i:=0) (v:=?_) rfl zK zK zK zK (fun c a w h=>HPn.out c _ _ a w h) (Or.inl ⟨by rfl,?_⟩) (by assumption) ?_
 rotate_left
 ·(intro v hv; go_simp; try (with_reducible rfl))
 try simp [Act.put]
 refine wpAnyT_take (i:=1) (v:=?_) rfl zK zK zK zK (fun c a w h=>HPn.out c _ _ a w h) (Or.inl ⟨by rfl,?_⟩) (by assumption) ?_
 rotate_left
 ·(intro v hv; go_simp; try (with_reducible rfl))
 try simp [Act.put]
 refine wpAnyT_take (i:=2) (v:=?_) rfl zK zK zK zK (fun c a w h=>HPn.out c _ _ a w h) (Or.inl ⟨by rfl,?_⟩) (by assumption) ?_
 rotate_left
 ·(intro v hv; go_simp; try (with_reducible rfl))
 try simp [Act.put]
 refine wpAnyT_take (i:=3) (v:=?_) rfl zK zK zK zK (fun c a w h=>HPn.out c _ _ a w h) (Or.inl ⟨by rfl,?_⟩) (by assumption) ?_
 rotate_left
 ·(intro v hv; go_simp; try (with_reducible rfl))
 try simp [Act.put]
 refine wpAnyT_take (i:=4) (v:=?_) rfl zK zK zK zK (fun c a w h=>HPn.out c _ _ a w h) (Or.inl ⟨by rfl,?_⟩) (by assumption) ?_
 rotate_left
 ·(intro v hv; have c11:v.cell? tb¢11=some av:=cell_of hv.1 11; clear hv; go_simp; try (with_reducible rfl))
 try simp [Act.put]
 refine wpAnyT_take (i:=5) (v:=?_) rfl zK zK zK zK (fun c a w h=>HPn.out c _ _ a w h) (Or.inl ⟨by rfl,?_⟩) (by assumption) ?_
 rotate_left
 ·(intro v hv; go_simp; try (with_reducible rfl))
 try simp [Act.put]
 refine wpAnyT_take (i:=6) (v:=?_) rfl zK zK zK zK (fun c a w h=>HPn.out c _ _ a w h) (Or.inl ⟨by rfl,?_⟩) (by assumption) ?_
 rotate_left
 ·(intro v hv; go_simp; try (with_reducible rfl))
 try simp [Act.put]
 refine wpAnyT_take (i:=7) (v:=?_) rfl zK zK zK zK (fun c a w h=>HPn.out c _ _ a w h) (Or.inl ⟨by rfl,?_⟩) (by assumption) ?_
 rotate_left
 ·(intro v hv; have c2:v.cell? w§¢2=some (.string d.x):=cell_of hv.2 2; clear hv; go_simp; try (with_reducible rfl))
 try simp [Act.put]
 refine wpAnyT_one (i:=8) zK rfl (fun K hK=>?_)
 go_simp
 refine cV.mono ?_
 rintro e w1 ⟨rfl,ew⟩
 obtain rfl:=ew.symm
 refine hK.out _ _ (fun _=>HS.out _ ⟨rfl,rfl,rfl,Nat.le_refl _,fun _ _=>rfl⟩) ?_
 clear hK K
 try simp [Act.put]
 refine wpAnyT_take (i:=9) (v:=?_) rfl zK zK zK zK (fun c a w h=>HPn.out c _ _ a w h) (Or.inl ⟨by rfl,?_⟩) (by assumption) ?_
 rotate_left
 ·(intro v hv; go_simp; try (with_reducible rfl))
 try simp [Act.put]
 refine wpAnyT_one (i:=10) zK rfl (fun K hK=>?_)
 go_simp
 refine hK.out _ _ (fun _=>HS.out _ ((Below.drew (Below.refl _ V)).alloc (Nat.le_refl _) _)) ?_
 clear hK K
 try simp [Act.put]
 refine wpAnyT_one (i:=11) zK rfl (fun K hK=>?_)
 refine step_arr rfl (.tmp 8) (.tmp 14) 56 79 6 32 _ rfl Tryz.underlying56 inf79 rfl (by decide) (by decide) (by decide) (acA 3 0 0 0 0 sl) rfl (ac_one _ _ _ _ _ _) HRA.out rfl rfl HLN.out ?_
 intro v1 w2 hr2 hs2 hq2 hz2
 obtain⟨ao3,n3,c3,rfl⟩:=hr2.sl3
 have HF:=H.out.app hr2 hs2 hq2
 have HF2:Hid (TnW B h0 x tb rb mb sb gb (w2.setCell tb¢11 (.slice ao3 n3 c3)) (.slice ao3 n3 c3) { q with ac:=q.ac ++ [acA 3 0 0 0 0 sl] }∧Below B w (w2.setCell tb¢11 (.slice ao3 n3 c3))):=⟨HF.1,HBB.out.drew.trans HF.2⟩
 have ht2:w2.heap[tb]? = (zC (tnA x.s rb q.rg.length mb sb gb av q) 117):=(hq2 tb (zJ H.out.t).1 (fun e=>by have:=H.out.nb tb e; have:=H.out.th; omega)).trans H.out.t
 have hn2:w2.heap[w§]? = (zC d.vals 121):=(hq2 _ (zJ HN.out).1 HOB.out).trans HN.out
 have HS2:Hid (w2.heap[tb]? = (zC (tnA x.s rb q.rg.length mb sb gb av q) 117)∧w2.heap[w§]? = (zC d.vals 121)):=⟨ht2,hn2⟩
 clear hr2 hs2 hq2 hz2 HF ht2 hn2
 refine hK.out _ _ (fun _=>HS2.out) ?_
 clear hK K
 try simp [Act.put]
 refine wpAnyT_one (i:=12) zK rfl (fun K hK=>?_)
 go_simp
 refine hK.out _ _ (fun _=>HS2.out) ?_
 clear hK K
 try simp [Act.put]
 refine wpAnyT_take (i:=13) (v:=?_) rfl zK zK zK zK (fun c a w h=>HPn.out c _ _ a w h) (Or.inl ⟨by rfl,?_⟩) HS2.out ?_
 rotate_left
 ·(intro v hv; go_simp; try (with_reducible rfl))
 try simp [Act.put]
 have c11:w2.cell? tb¢11=some av:=cell_of HS2.out.1 11
 have f11:w2.frozen? tb¢11=false:=frozen_of HS2.out.1 11
 refine wpAnyT_one (i:=14) zK rfl (fun K hK=>?_)
 go_simp
 refine hK.out _ _ (fun h=>absurd rfl h) ?_
 clear hK K
 try simp [Act.put]
 refine wpAnyT_done zK ?_ _
 rw [HQ'.out]
 clear HQ' HPn Q'
 go_wp2_with fail
 go_end0
 exact⟨rfl,⟨_,HF2.out.1⟩,HF2.out.2⟩
end Go.Proofs.YtfbjofnaghjmeaaGreatDoor
