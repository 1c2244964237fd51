import Derived.Test.YtfbjofnaghjmeaaGreatDoorA0
import Derived.Test.YtfbjofnaghjmeaaGreatDoorA23
import Derived.Test.YtfbjofnaghjmeaaGreatDoorA11
import Derived.OrdersHeld
import Derived.Deep.RegionHeld
import Derived.Test.YtfbjofnaghjmeaaGreatDoorA12
namespace Go.Proofs.YtfbjofnaghjmeaaGreatDoor
set_option maxHeartbeats 16000000
set_option maxRecDepth 100000
open Go.RowKit Go.Maps
set_option linter.unusedVariables false
set_option linter.unusedSimpArgs false
structure Kn (w:yW) (b b2 b3:Nat) (L:yB→Option Int) (S2 S3:List yB):Prop where
 r:RgM w b L
 s:∃ n,NmN w b2 n S2
 t:∃ n,NmN w b3 n S3
theorem Kn.on {w w':yW}{b b2 b3:Nat}{L:yB→Option Int}{S2 S3:List yB}(h:Kn w b b2 b3 L S2 S3) (k:yD w w'):Kn w' b b2 b3 L S2 S3 :=
 ⟨h.r.on k,let ⟨n,q⟩:=h.s; ⟨n,q.on k⟩,let ⟨n,q⟩:=h.t; ⟨n,q.on k⟩⟩
theorem Kn.hasS {w:yW}{b b2 b3:Nat}{L:yB→Option Int}{S2 S3:List yB}(h:Kn w b b2 b3 L S2 S3) {x:yB}(hx:x.size≤maxLen):Calls zG 181 #[.map (some b2),.string x] w fun e w'=>e=.returned (.bool (inS S2 x))∧yD w w':=let ⟨_,q⟩:=h.s; has_any q hx
theorem Kn.hasT {w:yW}{b b2 b3:Nat}{L:yB→Option Int}{S2 S3:List yB}(h:Kn w b b2 b3 L S2 S3) {x:yB}(hx:x.size≤maxLen):Calls zG 181 #[.map (some b3),.string x] w fun e w'=>e=.returned (.bool (inS S3 x))∧yD w w':=let ⟨_,q⟩:=h.t; has_any q hx
def standB (L:yB→Option Int) (S2 S3:List yB) (k:Int) (x:yB):Bool :=
 if k == 1 then x.toList.isEmpty || inS S2 x else if k == 2 then inS S2 x else if k == 3 then inS S2 x else if k == 4 then (L x).isSome else if k == 5 then inS S3 x else true
theorem stands_any (b b2 b3:Nat) (L:yB→Option Int) (S2 S3:List yB) (d:DoM) (w:yW) (hk:Kn w b b2 b3 L S2 S3) (hx:d.x.size≤maxLen) :
  Calls zG 183 #[.agg #[.map (some b),.map (some b2),.map (some b3)],.agg d.vals] w fun e w'=>e=.returned (.bool (standB L S2 S3 d.k d.x))∧yD w w':=by
 have hb1:=below_new w (.cells #[.map (some b),.map (some b2),.map (some b3)] 172)
 have hn1:=heap_new w (.cells #[.map (some b),.map (some b2),.map (some b3)] 172)
 have hs1:=size_alloc w (.cells #[.map (some b),.map (some b2),.map (some b3)] 172)
 obtain⟨W1,e1⟩:∃ W,w.alloc (.cells #[.map (some b),.map (some b2),.map (some b3)] 172)=W:=⟨_,rfl⟩
 have E1:Hid (w.alloc (.cells #[.map (some b),.map (some b2),.map (some b3)] 172)=W1):=e1
 rw [e1] at hb1 hn1 hs1
 have hb2:=below_new W1 (.cells d.vals 121)
 have hn2:=heap_new W1 (.cells d.vals 121)
 have hk2:=(hb2.block _ (zJ hn1).1).trans hn1
 have hbw:=below2 hb1 hb2
 rw [hs1] at hn2
 have HS1:Hid (W1§=w§+1):=hs1
 obtain⟨W2,e2⟩:∃ W,W1.alloc (.cells d.vals 121)=W:=⟨_,rfl⟩
 have E2:Hid (W1.alloc (.cells d.vals 121)=W2):=e2
 rw [e2] at hn2 hk2 hbw
 have HB:Hid (yD w W2):=hbw
 have k0:W2.cell? w§¢0=some (.map (some b)):=cell_of hk2 0
 have k1:W2.cell? w§¢1=some (.map (some b2)):=cell_of hk2 1
 have k2:W2.cell? w§¢2=some (.map (some b3)):=cell_of hk2 2
 have c0:W2.cell? ⟨w§+1,0,none⟩=some (zU d.k):=cell_of hn2 0
 have c2:W2.cell? ⟨w§+1,2,none⟩=some (.string d.x):=cell_of hn2 2
 have hkey:=WideMaps.keyOf_string_mk (P:=Tryz.prog) Tryz.underlying9 hx
 have cS:=(hk.on hbw).hasS hx
 have cT:=(hk.on hbw).hasT hx
 obtain⟨n,D,hown,hL⟩:=(hk.on hbw).r
 have HH:Hid (Maps.has D (.string d.x.data.toList)=(L d.x).isSome):=(hL d.x hx).1
 obtain⟨x,ex⟩:∃ x,d.x=x:=⟨_,rfl⟩
 obtain⟨k,ek⟩:∃ k,d.k=k:=⟨_,rfl⟩
 rw [ex] at c2 hkey cS cT HH ⊢
 rw [ek] at c0 ⊢
 clear hb1 hn1 hs1 hb2 hk2 hn2 hbw hk hL e1 e2 ek ex hx
 go_enter Tryz.func183,Tryz.ntmps183
 go_upto_region 1 with fail
 rw [E1.out,E2.out]
 try rw [HS1.out]
 clear E1 E2 HS1
 cases h1:(k == 1) with
 | true =>
  cases hx:x.toList.isEmpty with
  | true =>
   have HE:Hid (standB L S2 S3 k x=true):=by show _=_; simp [standB,h1,hx]
   go_wp2_with fail
   go_ret
   exact⟨by rw [HE.out]; rfl,HB.out⟩
  | false =>
   have HE:Hid (standB L S2 S3 k x=inS S2 x):=by show _=_; simp [standB,h1,hx]
   go_wp2_with fail
   refine cS.mono ?_
   rintro e w5 ⟨rfl,hb5⟩
   have HB5:Hid (yD w w5):=below2 HB.out hb5
   clear hb5 cS cT
   go_wp2_with fail
   go_ret
   exact⟨by rw [HE.out]; rfl,HB5.out⟩
 | false =>
  cases h2:(k == 2) with
  | true =>
   have HE:Hid (standB L S2 S3 k x=inS S2 x):=by show _=_; simp [standB,h1,h2]
   go_wp2_with fail
   refine cS.mono ?_
   rintro e w5 ⟨rfl,hb5⟩
   have HB5:Hid (yD w w5):=below2 HB.out hb5
   clear hb5 cS cT
   go_wp2_with fail
   go_ret
   exact⟨by rw [HE.out]; rfl,HB5.out⟩
  | false =>
   cases h3:(k == 3) with
   | true =>
    have HE:Hid (standB L S2 S3 k x=inS S2 x):=by show _=_; simp [standB,h1,h2,h3]
    go_wp2_with fail
    refine cS.mono ?_
    rintro e w5 ⟨rfl,hb5⟩
    have HB5:Hid (yD w w5):=below2 HB.out hb5
    clear hb5 cS cT
    go_wp2_with fail
    go_ret
    exact⟨by rw [HE.out]; rfl,HB5.out⟩
   | false =>
    cases h4:(k == 4) with
    | true =>
     have HE:Hid (standB L S2 S3 k x=(L x).isSome):=by show _=_; simp [standB,h1,h2,h3,h4]
     go_wp2_with (at_lookup; refine wpList_lookup_own_ok_int _ rfl _ _ 139 rfl 9 34 .u8 law9 Tryz.underlying139 Tryz.underlying34 (zero34 _) b n D rfl hown _ _ rfl hkey ?_; intro cc hat hwc)
     go_ret
     exact⟨by rw [HE.out,← HH.out]; rfl,HB.out⟩
    | false =>
     cases h5:(k == 5) with
     | true =>
      have HE:Hid (standB L S2 S3 k x=inS S3 x):=by show _=_; simp [standB,h1,h2,h3,h4,h5]
      go_wp2_with fail
      refine cT.mono ?_
      rintro e w5 ⟨rfl,hb5⟩
      have HB5:Hid (yD w w5):=below2 HB.out hb5
      clear hb5 cS cT
      go_wp2_with fail
      go_ret
      exact⟨by rw [HE.out]; rfl,HB5.out⟩
     | false =>
      have HE:Hid (standB L S2 S3 k x=true):=by show _=_; simp [standB,h1,h2,h3,h4,h5]
      go_wp2_with fail
      go_ret
      exact⟨by rw [HE.out]; rfl,HB.out⟩
structure Bx (W v:yW) (T:TypeId) (Z:Array Value) (c:Fin 3→Array Value) (b s:Fin 3→Bool) (u:Fin 3→Value):Prop where
 B:yD W v
 M:∀ k,b k=true→∃ p,u k=zP p∧W§≤p∧v.heap[p]? = (zC (if s k then c k else Z) T)
 D:∀ k j,k≠j→b k=true→b j=true→u k≠u j
 O:∀ k,s k=true→b k=true
def upd {α:Type}(f:Fin 3→α) (k:Fin 3) (x:α):Fin 3→α:=fun j=>if j=k then x else f j
theorem upd_same {α:Type}(f:Fin 3→α) (k:Fin 3) (x:α):upd f k x k=x:=if_pos rfl
theorem upd_other {α:Type}(f:Fin 3→α) {k j:Fin 3}(x:α) (h:j≠k):upd f k x j=f j:=if_neg h
theorem Bx.make {W v:yW}{T:TypeId}{Z:Array Value}{c:Fin 3→Array Value}{b s:Fin 3→Bool}{u:Fin 3→Value}(h:Bx W v T Z c b s u) (k:Fin 3) (hk:b k=false) :
  Bx W (v.alloc (.cells Z T)) T Z c (upd b k true) s (upd u k (zP v§)):=by
 have hs:s k=false:=by
  cases e:s k with
  | false=>rfl
  | true=>have:=h.O k e; rw [hk] at this; exact this.symm
 refine⟨below2 h.B (below_new _ _),fun j hj=>?_,fun i j hij hi hj=>?_,fun j hj=>?_⟩
 ·by_cases e:j=k
  ·subst e
   rw [upd_same,hs]
   exact⟨_,rfl,h.B.size,heap_new _ _⟩
  ·rw [upd_other _ _ e] at hj ⊢
   obtain⟨p,h1,h2,h3⟩:=h.M j hj
   exact⟨p,h1,h2,((below_new v (.cells Z T)).block p (zJ h3).1).trans h3⟩
 ·have far:∀ j,b j=true→u j≠zP v§:=fun j hj e=>by
   obtain⟨p,h1,h2,h3⟩:=h.M j hj
   have:=(zJ h3).1
   rw [h1] at e
   injection e with e
   injection e with e
   injection e with e
   omega
  by_cases ei:i=k
  ·have ej:j≠k:=fun e=>hij (ei.trans e.symm)
   rw [upd_other _ _ ej] at hj ⊢
   rw [ei,upd_same]
   exact fun e=>far j hj e.symm
  ·rw [upd_other _ _ ei] at hi ⊢
   by_cases ej:j=k
   ·rw [ej,upd_same]
    exact far i hi
   ·rw [upd_other _ _ ej] at hj ⊢
    exact h.D i j hij hi hj
 ·by_cases e:j=k
  ·rw [e,upd_same]
  ·rw [upd_other _ _ e]
   exact h.O j hj
theorem Bx.fill {W v:yW}{T:TypeId}{Z:Array Value}{c:Fin 3→Array Value}{b s:Fin 3→Bool}{u:Fin 3→Value}(h:Bx W v T Z c b s u) (k:Fin 3) {p:Nat}(hb:b k=true) (hu:u k=zP p) (hp:W§≤p) {old:Array Value}(ho:v.heap[p]? = (zC old T)) :
  Bx W (v.setRow p (c k)) T Z c b (upd s k true) u:=by
 refine⟨below_row h.B hp _,fun j hj=>?_,h.D,fun j hj=>?_⟩
 ·by_cases e:j=k
  ·subst e
   rw [upd_same]
   exact⟨p,hu,hp,setRow_heap _ _ _ _ _ _ ho⟩
  ·rw [upd_other _ _ e]
   obtain⟨q,h1,h2,h3⟩:=h.M j hj
   refine⟨q,h1,h2,(setRow_other _ _ _ _ fun e2=>?_).trans h3⟩
   exact h.D j k e hj hb (by rw [h1,hu,e2])
 ·by_cases e:j=k
  ·rw [e]; exact hb
  ·rw [upd_other _ _ e] at hj
   exact h.O j hj
def cntF (b s:Fin 3→Bool):Nat:=(if b 0 then 0 else 1)+(if b 1 then 0 else 1)+(if b 2 then 0 else 1)+(if s 0 then 0 else 1)+(if s 1 then 0 else 1)+(if s 2 then 0 else 1)
theorem fin3 (k:Fin 3):k=0∨k=1∨k=2:=by
 obtain⟨k,hk⟩:=k
 rcases k with _ | _ | _ | k
 ·exact .inl rfl
 ·exact .inr (.inl rfl)
 ·exact .inr (.inr rfl)
 ·omega
theorem cnt_b (b s:Fin 3→Bool) (k:Fin 3) (h:b k=false):cntF (upd b k true) s+1=cntF b s:=by
 rcases fin3 k with rfl | rfl | rfl <;> simp [cntF,upd,h] <;> omega
theorem cnt_s (b s:Fin 3→Bool) (k:Fin 3) (h:s k=false):cntF b (upd s k true)+1=cntF b s:=by
 rcases fin3 k with rfl | rfl | rfl <;> simp [cntF,upd,h] <;> omega
theorem boxes3 {P:Program}{md:Region.Mode}{ops:Array Oper}{Q:Exit→Act→yW→Prop}{W:yW}(T:TypeId) (Z:Array Value) (c:Fin 3→Array Value)
  (L:(Fin 3→Bool)→(Fin 3→Bool)→Array Bool) (A S:Fin 3→Nat) (oA oS:Fin 3→Oper) (mk:(Fin 3→Value)→Act) (x y:Fin 3→Operand)
  (hA:∀ k,ops[A k]? = some (oA k)) (hS:∀ k,ops[S k]? = some (oS k)) (gA:∀ k,(oA k).guard=none) (gS:∀ k,(oS k).guard=none)
  (eA:∀ k e w,(execOp e (oA k)).run P w=.ok (.value (zP w§)) (w.alloc (.cells Z T)))
  (eS:∀ k,(oS k).op=.store T (x k) (y k)) (ex:∀ k u,(mk u).eval (x k)=u k) (ey:∀ k u,(mk u).eval (y k)=.agg (c k))
  (pA:∀ k u v,(mk u).put (oA k).dst v=mk (upd u k v)) (pS:∀ k u v,(mk u).put (oS k).dst v=mk u)
  (lA:∀ k b s,(L b s).setIfInBounds (A k) true=L (upd b k true) s) (lS:∀ k b s,(L b s).setIfInBounds (S k) true=L b (upd s k true))
  (hr:∀ b s i,(∀ k,s k=true→b k=true)→i ∈ Region.ready md ops (L b s)→∃ k,(i=A k∧b k=false)∨(i=S k∧s k=false∧b k=true))
  (he:∀ b s,(∀ k,s k=true→b k=true)→Region.ready md ops (L b s) = []→∀ k,s k=true)
  (hc:∀ k,(P.info? T).map (·.size)=some (c k).size) (hz:∀ k,Z.size=(c k).size) (h1:∀ k,(c k).all (·.oneCell')=true)
  (hQ:∀ u v,Bx W v T Z c (fun _=>true) (fun _=>true) u→Q .normal (mk u) v) :
  ∀ (fuel:Nat) (b s:Fin 3→Bool) (u:Fin 3→Value) (v:yW),cntF b s≤fuel→Bx W v T Z c b s u→wpAnyH P md ops Q (fun v=>yD W v) fuel (L b s) (mk u) v:=by
 intro fuel
 have fin:∀ (b s:Fin 3→Bool) (u:Fin 3→Value) (v:yW),(∀ k,s k=true)→Bx W v T Z c b s u→Q .normal (mk u) v:=fun b s u v hs h=>by
  have hb:b=fun _=>true:=funext fun k=>h.O k (hs k)
  have hs':s=fun _=>true:=funext hs
  subst hb
  subst hs'
  exact hQ u v h
 induction fuel with
 | zero =>
  intro b s u v hn h
  have hs:∀ k,s k=true:=fun k=>by
   cases e:s k with
   | true=>rfl
   | false=>have:=cnt_s b s k e; omega
  refine⟨?_,fin b s u v hs h⟩
  cases e:Region.ready md ops (L b s) with
  | nil=>rfl
  | cons i l =>
   obtain⟨k,h1 | h1⟩:=hr b s i h.O (by rw [e]; exact List.mem_cons_self)
   ·have:=h.O k (hs k); rw [h1.2] at this; cases this
   ·have:=hs k; rw [h1.2.1] at this; cases this
 | succ fuel ih =>
  intro b s u v hn h
  refine⟨fun e=>fin b s u v (he b s h.O e) h,fun i hi=>?_⟩
  obtain⟨k,⟨rfl,hk⟩ | ⟨rfl,hk,hb⟩⟩:=hr b s i h.O hi
  ·unfold wpOp
   rw [hA k]
   simp only [Region.wanted,gA k,if_true]
   refine .inl ?_
   unfold Oper.wp
   rw [eA k]
   show _∧_
   rw [pA,lA]
   have h':=h.make k hk
   exact⟨h'.B,ih _ _ _ _ (by have:=cnt_b b s k hk; omega) h'⟩
  ·unfold wpOp
   rw [hS k]
   simp only [Region.wanted,gS k,if_true]
   refine .inl ?_
   obtain⟨p,h2,h3,h4⟩:=h.M k hb
   have h4':v.heap[p]? = (zC Z T):=by rw [h4,hk]; rfl
   refine wp_store_row T (x k) (y k) (eS k) p (c k) ((ex k u).trans h2) (ey k u) T Z h4' (hc k) (hz k) (h1 k) ?_
   rw [pS,lS]
   have h':=h.fill k hb h2 h3 h4'
   exact⟨h'.B,ih _ _ _ _ (by have:=cnt_s b s k hk; omega) h'⟩
def rd9 (ops:Array Oper) (b0 b1 b2 s0 s1 s2:Bool):List Nat:=Region.ready .any ops #[true,true,true,true,true,true,true,true,true,b0,b1,b2,s0,s1,s2]
def ok9 (ops:Array Oper) (b0 b1 b2 s0 s1 s2:Bool):Bool :=
 (s0 && !b0) || (s1 && !b1) || (s2 && !b2) || ((rd9 ops b0 b1 b2 s0 s1 s2).all (fun i=>(i == 9 && !b0) || (i == 10 && !b1) || (i == 11 && !b2) || (i == 12 && !s0 && b0) || (i == 13 && !s1 && b1) || (i == 14 && !s2 && b2)) && (!(rd9 ops b0 b1 b2 s0 s1 s2).isEmpty || (s0 && s1 && s2)))
def chk9 (ops:Array Oper):Bool:=[false,true].all fun b0=>[false,true].all fun b1=>[false,true].all fun b2=>[false,true].all fun s0=>[false,true].all fun s1=>[false,true].all fun s2=>ok9 ops b0 b1 b2 s0 s1 s2
theorem chk9_ok {ops:Array Oper}(h:chk9 ops=true) (b0 b1 b2 s0 s1 s2:Bool):ok9 ops b0 b1 b2 s0 s1 s2=true:=by
 have mem:∀ b:Bool,b ∈ [false,true]:=by decide
 simp only [chk9,List.all_eq_true] at h
 exact h b0 (mem _) b1 (mem _) b2 (mem _) s0 (mem _) s1 (mem _) s2 (mem _)
theorem boxes9 {P:Program}{ops:Array Oper}{Q:Exit→Act→yW→Prop}{W v:yW}(T:TypeId) (Z:Array Value) (c:Fin 3→Array Value)
  (mk:(Fin 3→Value)→Act) (x y:Fin 3→Operand) (hchk:chk9 ops=true)
  (hA:∀ k:Fin 3,∃ o,ops[9+k.val]? = some o∧o.guard=none∧(∀ e w,(execOp e o).run P w=.ok (.value (zP w§)) (w.alloc (.cells Z T)))∧∀ u v,(mk u).put o.dst v=mk (upd u k v))
  (hS:∀ k:Fin 3,∃ o,ops[12+k.val]? = some o∧o.guard=none∧o.op=.store T (x k) (y k)∧∀ u v,(mk u).put o.dst v=mk u)
  (ex:∀ k u,(mk u).eval (x k)=u k) (ey:∀ k u,(mk u).eval (y k)=.agg (c k))
  (hc:∀ k,(P.info? T).map (·.size)=some (c k).size) (hz:∀ k,Z.size=(c k).size) (h1:∀ k,(c k).all (·.oneCell')=true)
  (hv:yD W v) (u:Fin 3→Value)
  (hQ:∀ u v,Bx W v T Z c (fun _=>true) (fun _=>true) u→Q .normal (mk u) v) :
  wpAnyH P .any ops Q (fun v=>yD W v) 6 #[true,true,true,true,true,true,true,true,true,false,false,false,false,false,false] (mk u) v:=by
 have hr:∀ (b s:Fin 3→Bool) (i:Nat),(∀ k,s k=true→b k=true)→i ∈ Region.ready .any ops #[true,true,true,true,true,true,true,true,true,b 0,b 1,b 2,s 0,s 1,s 2]→∃ k:Fin 3,(i=9+k.val∧b k=false)∨(i=12+k.val∧s k=false∧b k=true):=fun b s i ho hi=>by
  have h:=chk9_ok hchk (b 0) (b 1) (b 2) (s 0) (s 1) (s 2)
  have q0:=ho 0
  have q1:=ho 1
  have q2:=ho 2
  have n0:(s 0 && !b 0)=false:=by cases h:s 0 <;> simp_all
  have n1:(s 1 && !b 1)=false:=by cases h:s 1 <;> simp_all
  have n2:(s 2 && !b 2)=false:=by cases h:s 2 <;> simp_all
  unfold ok9 at h
  rw [n0,n1,n2] at h
  simp only [Bool.false_or,Bool.and_eq_true,List.all_eq_true] at h
  have h2:=h.1 i hi
  simp only [Bool.or_eq_true,Bool.and_eq_true,beq_iff_eq,Bool.not_eq_true'] at h2
  rcases h2 with ((((h2 | h2) | h2) | h2) | h2) | h2
  ·exact⟨0,.inl h2⟩
  ·exact⟨1,.inl h2⟩
  ·exact⟨2,.inl h2⟩
  ·exact⟨0,.inr ⟨h2.1.1,h2.1.2,h2.2⟩⟩
  ·exact⟨1,.inr ⟨h2.1.1,h2.1.2,h2.2⟩⟩
  ·exact⟨2,.inr ⟨h2.1.1,h2.1.2,h2.2⟩⟩
 have he:∀ (b s:Fin 3→Bool),(∀ k,s k=true→b k=true)→Region.ready .any ops #[true,true,true,true,true,true,true,true,true,b 0,b 1,b 2,s 0,s 1,s 2] = []→∀ k,s k=true:=fun b s ho hi=>by
  have h:=chk9_ok hchk (b 0) (b 1) (b 2) (s 0) (s 1) (s 2)
  have q0:=ho 0
  have q1:=ho 1
  have q2:=ho 2
  have n0:(s 0 && !b 0)=false:=by cases h:s 0 <;> simp_all
  have n1:(s 1 && !b 1)=false:=by cases h:s 1 <;> simp_all
  have n2:(s 2 && !b 2)=false:=by cases h:s 2 <;> simp_all
  unfold ok9 at h
  rw [n0,n1,n2] at h
  simp only [Bool.false_or,Bool.and_eq_true] at h
  have h2:=h.2
  rw [show rd9 ops (b 0) (b 1) (b 2) (s 0) (s 1) (s 2) = [] from hi] at h2
  simp only [List.isEmpty_nil,Bool.not_true,Bool.false_or,Bool.and_eq_true] at h2
  intro k
  rcases fin3 k with rfl | rfl | rfl
  ·exact h2.1.1
  ·exact h2.1.2
  ·exact h2.2
 have pA:=fun k=>Classical.choose_spec (hA k)
 have pS:=fun k=>Classical.choose_spec (hS k)
 exact boxes3 T Z c (fun b s=>#[true,true,true,true,true,true,true,true,true,b 0,b 1,b 2,s 0,s 1,s 2]) (fun k=>9+k.val) (fun k=>12+k.val) (fun k=>Classical.choose (hA k)) (fun k=>Classical.choose (hS k)) mk x y (fun k=>(pA k).1) (fun k=>(pS k).1) (fun k=>(pA k).2.1) (fun k=>(pS k).2.1) (fun k=>(pA k).2.2.1) (fun k=>(pS k).2.2.1) ex ey (fun k=>(pA k).2.2.2) (fun k=>(pS k).2.2.2)
  (fun k b s=>by rcases fin3 k with rfl | rfl | rfl <;> rfl) (fun k b s=>by rcases fin3 k with rfl | rfl | rfl <;> rfl) hr he hc hz h1 hQ 6 (fun _=>false) (fun _=>false) u v (by decide)
  ⟨hv,fun k h=>(by cases h),fun k j _ h=>(by cases h),fun k h=>(by cases h)⟩
def ptV (q:Nd × Int):Array Value:=⟨[zU q.1.h.k,zU q.1.h.o,zU q.1.h.t,zI q.1.h.n,zU q.1.h.f,.string q.1.h.x,.slice q.1.a q.1.ks.length q.1.c,zI q.1.h.p,zU q.2]⟩
theorem ptV_sz (q:Nd × Int):(ptV q).size=9:=rfl
theorem size263:(Tryz.prog.info? 213).map (·.size)=some 9:=by kernel_rfl
theorem inf263:(Tryz.prog.info? 213).map (fun i=>(i.zero,i.size,i.bytes))=some (some (.agg zm),9,80):=by kernel_rfl
theorem all9 (q:Nd × Int):(ptV q).all (·.oneCell')=true:=by simp [ptV,Value.oneCell']
def ptsL (L:yB→Option Int) (d:DoM):List (Nd × Int) :=
 if d.k == 1 then (if d.o == 2 then [(d.sd,6),(d.qt,2)] else [(d.sd,6),(d.qt,2),(d.pr,3)]) else if d.k == 2 then [(d.qt,2),(d.pr,3)] else if d.k == 4 then [(d.vl,(L d.x).getD 0)] else []
theorem slat1 {w:yW}{b:Nat}{q:Nd × Int}(h:w.heap[b]? = (zC (ptV q) 213)):SlAt w 9 (some b¢0) 1 ([q].map ptV):=by
 refine⟨by simp,by decide,fun i hi=>⟨b,0,rfl,fun j hj=>?_⟩⟩
 obtain rfl:i=0:=by simp at hi; omega
 rw [cell_of h,Nat.zero_mul,Nat.zero_add]
 rfl
theorem slat2 {w:yW}{b:Nat}{q r:Nd × Int}(h:w.heap[b]? = (zC (ptV q ++ ptV r) 213)):SlAt w 9 (some b¢0) 2 ([q,r].map ptV):=by
 refine⟨by simp,by decide,fun i hi=>⟨b,0,rfl,fun j hj=>?_⟩⟩
 rw [cell_of h]
 match i,hi with
 | 0,_=>rw [Array.getElem?_append_left (by rw [ptV_sz]; omega),Nat.zero_mul,Nat.zero_add]; rfl
 | 1,_=>rw [Array.getElem?_append_right (by rw [ptV_sz]; omega),ptV_sz,show 0+1 * 9+j - 9=j by omega]; rfl
theorem slat3 {w:yW}{b:Nat}{q r u:Nd × Int}(h:w.heap[b]? = (zC (ptV q ++ ptV r ++ ptV u) 213)):SlAt w 9 (some b¢0) 3 ([q,r,u].map ptV):=by
 refine⟨by simp,by decide,fun i hi=>⟨b,0,rfl,fun j hj=>?_⟩⟩
 have hs:(ptV q ++ ptV r).size=18:=by rw [Array.size_append,ptV_sz,ptV_sz]
 rw [cell_of h]
 match i,hi with
 | 0,_=>rw [Array.getElem?_append_left (by omega),Array.getElem?_append_left (by rw [ptV_sz]; omega),Nat.zero_mul,Nat.zero_add]; rfl
 | 1,_=>rw [Array.getElem?_append_left (by omega),Array.getElem?_append_right (by rw [ptV_sz]; omega),ptV_sz,show 0+1 * 9+j - 9=j by omega]; rfl
 | 2,_=>rw [Array.getElem?_append_right (by omega),hs,show 0+2 * 9+j - 18=j by omega]; rfl
structure BX3 (w V:yW) (kv dv:Array Value) (x y z:Array Value) (p q r:Nat):Prop where
 B:yD w V
 K:V.heap[w§]? = (zC kv 172)
 D:V.heap[w§+1]? = (zC dv 121)
 P:V.heap[p]? = (zC x 213)
 Q:V.heap[q]? = (zC y 213)
 R:V.heap[r]? = (zC z 213)
theorem parts_any (b b2 b3:Nat) (L:yB→Option Int) (d:DoM) (w:yW) (hk:RgM w b L) (hx:d.x.size≤maxLen) :
  Calls zG 184 #[.agg #[.map (some b),.map (some b2),.map (some b3)],.agg d.vals] w fun e w'=>∃ a c,e=.returned (.slice a (ptsL L d).length c)∧SlAt w' 9 a c ((ptsL L d).map ptV)∧yD w w':=by
 have hb1:=below_new w (.cells #[.map (some b),.map (some b2),.map (some b3)] 172)
 have hn1:=heap_new w (.cells #[.map (some b),.map (some b2),.map (some b3)] 172)
 have hs1:=size_alloc w (.cells #[.map (some b),.map (some b2),.map (some b3)] 172)
 obtain⟨W1,e1⟩:∃ W,w.alloc (.cells #[.map (some b),.map (some b2),.map (some b3)] 172)=W:=⟨_,rfl⟩
 have E1:Hid (w.alloc (.cells #[.map (some b),.map (some b2),.map (some b3)] 172)=W1):=e1
 rw [e1] at hb1 hn1 hs1
 have hb2:=below_new W1 (.cells d.vals 121)
 have hn2:=heap_new W1 (.cells d.vals 121)
 have hk2:=(hb2.block _ (zJ hn1).1).trans hn1
 have hbw:=below2 hb1 hb2
 have hs2:=size_alloc W1 (.cells d.vals 121)
 rw [hs1] at hn2 hs2
 have HS1:Hid (W1§=w§+1):=hs1
 obtain⟨W2,e2⟩:∃ W,W1.alloc (.cells d.vals 121)=W:=⟨_,rfl⟩
 have E2:Hid (W1.alloc (.cells d.vals 121)=W2):=e2
 rw [e2] at hn2 hk2 hbw hs2
 have HS2:Hid (W2§=w§+1+1):=hs2
 have HB:Hid (yD w W2):=hbw
 have HK:Hid (W2.heap[w§]? = (zC #[.map (some b),.map (some b2),.map (some b3)] 172)∧W2.heap[w§+1]? = (zC d.vals 121)):=⟨hk2,hn2⟩
 have HR:Hid (RgM w b L∧d.x.size≤maxLen):=⟨hk,hx⟩
 clear hb1 hn1 hs1 hb2 hk2 hn2 hbw hk e1 e2 hx
 go_enter Tryz.func184,Tryz.ntmps184
 go_upto_region 1 with fail
 rw [E1.out,E2.out]
 try rw [HS1.out]
 clear E1 E2 HS1
 go_cut [5,6,7] from 8 to 16 (fun v5 v6 v7 wx=>∃ p q r,v5=zP p∧v6=zP q∧v7=zP r∧Hid (BX3 w wx #[.map (some b),.map (some b2),.map (some b3)] d.vals (ptV (d.sd,6)) (ptV (d.qt,2)) (ptV (d.pr,3)) p q r))
 case first =>
  refine wp_region_held_drew (S:=fun v=>yD W2 v) zK ⟨rfl,rfl,rfl,Nat.le_refl _,fun _ _=>rfl⟩ (fun hHeld=>?_)
  refine wpAnyH_take (i:=0) (v:=?_) rfl zK zK zK (fun _ _ _ h=>h) (Or.inl ⟨by rfl,?_⟩) (by assumption) ?_
  rotate_left
  ·(intro v hv; go_simp; try (with_reducible rfl))
  try simp [Act.put]
  refine wpAnyH_take (i:=1) (v:=?_) rfl zK zK zK (fun _ _ _ h=>h) (Or.inl ⟨by rfl,?_⟩) (by assumption) ?_
  rotate_left
  ·(intro v hv; have g:=(hv.block _ (zJ HK.out.2).1).trans HK.out.2; have t0:=cell_of g 3; have t1:=cell_of g 4; have t2:=cell_of g 5; have t3:=cell_of g 6; have t4:=cell_of g 7; have t5:=cell_of g 8; have t6:=cell_of g 9; have t7:=cell_of g 10; clear g; simp only [DoM.vals,doA] at t0 t1 t2 t3 t4 t5 t6 t7; go_simp; try (with_reducible rfl))
  try simp [Act.put]
  refine wpAnyH_take (i:=2) (v:=?_) rfl zK zK zK (fun _ _ _ h=>h) (Or.inl ⟨by rfl,?_⟩) (by assumption) ?_
  rotate_left
  ·(intro v hv; go_simp; try (with_reducible rfl))
  try simp [Act.put]
  refine wpAnyH_take (i:=3) (v:=?_) rfl zK zK zK (fun _ _ _ h=>h) (Or.inl ⟨by rfl,?_⟩) (by assumption) ?_
  rotate_left
  ·(intro v hv; go_simp; try (with_reducible rfl))
  try simp [Act.put]
  refine wpAnyH_take (i:=4) (v:=?_) rfl zK zK zK (fun _ _ _ h=>h) (Or.inl ⟨by rfl,?_⟩) (by assumption) ?_
  rotate_left
  ·(intro v hv; have g:=(hv.block _ (zJ HK.out.2).1).trans HK.out.2; have t0:=cell_of g 11; have t1:=cell_of g 12; have t2:=cell_of g 13; have t3:=cell_of g 14; have t4:=cell_of g 15; have t5:=cell_of g 16; have t6:=cell_of g 17; have t7:=cell_of g 18; clear g; simp only [DoM.vals,doA] at t0 t1 t2 t3 t4 t5 t6 t7; go_simp; try (with_reducible rfl))
  try simp [Act.put]
  refine wpAnyH_take (i:=5) (v:=?_) rfl zK zK zK (fun _ _ _ h=>h) (Or.inl ⟨by rfl,?_⟩) (by assumption) ?_
  rotate_left
  ·(intro v hv; go_simp; try (with_reducible rfl))
  try simp [Act.put]
  refine wpAnyH_take (i:=6) (v:=?_) rfl zK zK zK (fun _ _ _ h=>h) (Or.inl ⟨by rfl,?_⟩) (by assumption) ?_
  rotate_left
  ·(intro v hv; go_simp; try (with_reducible rfl))
  try simp [Act.put]
  refine wpAnyH_take (i:=7) (v:=?_) rfl zK zK zK (fun _ _ _ h=>h) (Or.inl ⟨by rfl,?_⟩) (by assumption) ?_
  rotate_left
  ·(intro v hv; have g:=(hv.block _ (zJ HK.out.2).1).trans HK.out.2; have t0:=cell_of g 19; have t1:=cell_of g 20; have t2:=cell_of g 21; have t3:=cell_of g 22; have t4:=cell_of g 23; have t5:=cell_of g 24; have t6:=cell_of g 25; have t7:=cell_of g 26; clear g; simp only [DoM.vals,doA] at t0 t1 t2 t3 t4 t5 t6 t7; go_simp; try (with_reducible rfl))
  try simp [Act.put]
  refine wpAnyH_take (i:=8) (v:=?_) rfl zK zK zK (fun _ _ _ h=>h) (Or.inl ⟨by rfl,?_⟩) (by assumption) ?_
  rotate_left
  ·(intro v hv; go_simp; try (with_reducible rfl))
  try simp [Act.put]
  refine boxes9 (W:=W2) 213 zm (fun k=>if k=0 then ptV (d.sd,6) else if k=1 then ptV (d.qt,2) else ptV (d.pr,3)) (fun u=>⟨#[.agg #[.map (some b),.map (some b2),.map (some b3)],.agg d.vals,zP w§,.pointer (some ⟨w§+1,0,none⟩),.slice none 0 0,u 0,u 1,u 2,.pointer (some ⟨w§+1,3,none⟩),.agg #[zU d.sd.h.k,zU d.sd.h.o,zU d.sd.h.t,zI d.sd.h.n,zU d.sd.h.f,.string d.sd.h.x,.slice d.sd.a d.sd.ks.length d.sd.c,zI d.sd.h.p],.agg #[zU d.sd.h.k,zU d.sd.h.o,zU d.sd.h.t,zI d.sd.h.n,zU d.sd.h.f,.string d.sd.h.x,.slice d.sd.a d.sd.ks.length d.sd.c,zI d.sd.h.p,zU 6],.pointer (some ⟨w§+1,11,none⟩),.agg #[zU d.qt.h.k,zU d.qt.h.o,zU d.qt.h.t,zI d.qt.h.n,zU d.qt.h.f,.string d.qt.h.x,.slice d.qt.a d.qt.ks.length d.qt.c,zI d.qt.h.p],.agg #[zU d.qt.h.k,zU d.qt.h.o,zU d.qt.h.t,zI d.qt.h.n,zU d.qt.h.f,.string d.qt.h.x,.slice d.qt.a d.qt.ks.length d.qt.c,zI d.qt.h.p,zU 2],.pointer (some ⟨w§+1,19,none⟩),.agg #[zU d.pr.h.k,zU d.pr.h.o,zU d.pr.h.t,zI d.pr.h.n,zU d.pr.h.f,.string d.pr.h.x,.slice d.pr.a d.pr.ks.length d.pr.c,zI d.pr.h.p],.agg #[zU d.pr.h.k,zU d.pr.h.o,zU d.pr.h.t,zI d.pr.h.n,zU d.pr.h.f,.string d.pr.h.x,.slice d.pr.a d.pr.ks.length d.pr.c,zI d.pr.h.p,zU 3],undef,undef,undef,undef,undef,undef,undef,undef,undef,undef,undef,undef,undef,undef,undef,undef,undef,undef,undef,undef,undef,undef,undef,undef,undef,undef,undef,undef,undef,undef],[]⟩) (fun k=>.tmp (5+k.val)) (fun k=>.tmp (10+3 * k.val)) zK ?_ ?_ ?_ ?_ ?_ ?_ ?_ hHeld (fun _=>undef) ?_
  ·intro k
   rcases fin3 k with rfl | rfl | rfl
   ·exact⟨_,rfl,rfl,fun _ _=>by kernel_rfl,fun _ _=>rfl⟩
   ·exact⟨_,rfl,rfl,fun _ _=>by kernel_rfl,fun _ _=>rfl⟩
   ·exact⟨_,rfl,rfl,fun _ _=>by kernel_rfl,fun _ _=>rfl⟩
  ·intro k
   rcases fin3 k with rfl | rfl | rfl
   ·exact⟨_,rfl,rfl,rfl,fun _ _=>rfl⟩
   ·exact⟨_,rfl,rfl,rfl,fun _ _=>rfl⟩
   ·exact⟨_,rfl,rfl,rfl,fun _ _=>rfl⟩
  ·intro k u
   rcases fin3 k with rfl | rfl | rfl <;> rfl
  ·intro k u
   rcases fin3 k with rfl | rfl | rfl <;> rfl
  ·intro k
   rcases fin3 k with rfl | rfl | rfl <;> exact size263
  ·intro k
   rcases fin3 k with rfl | rfl | rfl <;> rfl
  ·intro k
   rcases fin3 k with rfl | rfl | rfl <;> exact all9 _
  ·intro u v hB
   obtain⟨p,h1,h2,h3⟩:=hB.M 0 rfl
   obtain⟨q,h4,h5,h6⟩:=hB.M 1 rfl
   obtain⟨r,h7,h8,h9⟩:=hB.M 2 rfl
   have HX:Hid (BX3 w v #[.map (some b),.map (some b2),.map (some b3)] d.vals (ptV (d.sd,6)) (ptV (d.qt,2)) (ptV (d.pr,3)) p q r):=⟨below2 HB.out hB.B,(hB.B.block _ (zJ HK.out.1).1).trans HK.out.1,(hB.B.block _ (zJ HK.out.2).1).trans HK.out.2,h3,h6,h9⟩
   rw [h1,h4,h7]
   clear hB h1 h2 h3 h4 h5 h6 h7 h8 h9
   go_wp2_with fail
   go_meet
   exact⟨p,q,r,rfl,rfl,rfl,HX⟩
 case rest =>
  obtain⟨p,q,r,rfl,rfl,rfl,HX⟩:=hcut
  have c0:wc.cell? ⟨w§+1,0,none⟩=some (zU d.k):=cell_of HX.out.D 0
  have c1:wc.cell? ⟨w§+1,1,none⟩=some (zU d.o):=cell_of HX.out.D 1
  have c2:wc.cell? ⟨w§+1,2,none⟩=some (.string d.x):=cell_of HX.out.D 2
  have k0:wc.cell? w§¢0=some (.map (some b)):=cell_of HX.out.K 0
  clear hs2
  cases h1:(d.k == 1) with
  | true =>
   cases h2:(d.o == 2) with
   | true =>
    have HL:Hid (ptsL L d = [(d.sd,6),(d.qt,2)]):=by show _=_; simp only [ptsL,h1,h2,if_true]
    go_wp2_with (first | (refine wpList_load_row rfl 213 (.tmp 5) rfl p rfl 213 (ptV (d.sd,6)) (0,0) _ HX.out.P Tryz.underlying213 rfl size263 ?_) | (refine wpList_load_row rfl 213 (.tmp 6) rfl q rfl 213 (ptV (d.qt,2)) (0,0) _ HX.out.Q Tryz.underlying213 rfl size263 ?_) | (refine wpList_slice2 rfl 248 213 (.tmp 24) (.tmp 25) rfl (ptV (d.sd,6)) (ptV (d.qt,2)) rfl rfl 9 _ Tryz.underlying248 80 inf263 rfl rfl rfl (by decide) (by decide) ?_))
    go_ret
    rw [HL.out]
    exact⟨_,_,rfl,slat2 (heap_new _ _),below2 HX.out.B (below_new _ _)⟩
   | false =>
    have HL:Hid (ptsL L d = [(d.sd,6),(d.qt,2),(d.pr,3)]):=by show _=_; simp only [ptsL,h1,h2,if_true]; rfl
    go_wp2_with (first | (refine wpList_load_row rfl 213 (.tmp 5) rfl p rfl 213 (ptV (d.sd,6)) (0,0) _ HX.out.P Tryz.underlying213 rfl size263 ?_) | (refine wpList_load_row rfl 213 (.tmp 6) rfl q rfl 213 (ptV (d.qt,2)) (0,0) _ HX.out.Q Tryz.underlying213 rfl size263 ?_) | (refine wpList_load_row rfl 213 (.tmp 7) rfl r rfl 213 (ptV (d.pr,3)) (0,0) _ HX.out.R Tryz.underlying213 rfl size263 ?_) | (refine wpList_slice3 rfl 248 213 (.tmp 27) (.tmp 28) (.tmp 29) rfl (ptV (d.sd,6)) (ptV (d.qt,2)) (ptV (d.pr,3)) rfl rfl rfl 9 _ Tryz.underlying248 80 inf263 rfl rfl rfl rfl (by decide) (by decide) ?_))
    go_ret
    rw [HL.out]
    exact⟨_,_,rfl,slat3 (heap_new _ _),below2 HX.out.B (below_new _ _)⟩
  | false =>
   cases h2:(d.k == 2) with
   | true =>
    have HL:Hid (ptsL L d = [(d.qt,2),(d.pr,3)]):=by show _=_; simp only [ptsL,h1,h2,if_true]; rfl
    go_wp2_with (first | (refine wpList_load_row rfl 213 (.tmp 6) rfl q rfl 213 (ptV (d.qt,2)) (0,0) _ HX.out.Q Tryz.underlying213 rfl size263 ?_) | (refine wpList_load_row rfl 213 (.tmp 7) rfl r rfl 213 (ptV (d.pr,3)) (0,0) _ HX.out.R Tryz.underlying213 rfl size263 ?_) | (refine wpList_slice2 rfl 248 213 (.tmp 33) (.tmp 34) rfl (ptV (d.qt,2)) (ptV (d.pr,3)) rfl rfl 9 _ Tryz.underlying248 80 inf263 rfl rfl rfl (by decide) (by decide) ?_))
    go_ret
    rw [HL.out]
    exact⟨_,_,rfl,slat2 (heap_new _ _),below2 HX.out.B (below_new _ _)⟩
   | false =>
    cases h4:(d.k == 4) with
    | true =>
     have HL:Hid (ptsL L d = [(d.vl,(L d.x).getD 0)]):=by show _=_; simp only [ptsL,h1,h2,h4,if_true]; rfl
     have hkey:=WideMaps.keyOf_string_mk (P:=Tryz.prog) Tryz.underlying9 HR.out.2
     obtain⟨n,D,hown,hL⟩:=HR.out.1.on HX.out.B
     have hat0:=(hL d.x HR.out.2).2
     have HH:Hid (D.atKey (.string d.x.data.toList) (.lit (.int .u8 0))=.lit (.int .u8 ((L d.x).getD 0))):=hat0
     clear hL hat0
     have c27:wc.cell? ⟨w§+1,27,none⟩=some (zU d.vl.h.k):=cell_of HX.out.D 27
     have c28:wc.cell? ⟨w§+1,28,none⟩=some (zU d.vl.h.o):=cell_of HX.out.D 28
     have c29:wc.cell? ⟨w§+1,29,none⟩=some (zU d.vl.h.t):=cell_of HX.out.D 29
     have c30:wc.cell? ⟨w§+1,30,none⟩=some (zI d.vl.h.n):=cell_of HX.out.D 30
     have c31:wc.cell? ⟨w§+1,31,none⟩=some (zU d.vl.h.f):=cell_of HX.out.D 31
     have c32:wc.cell? ⟨w§+1,32,none⟩=some (.string d.vl.h.x):=cell_of HX.out.D 32
     have c33:wc.cell? ⟨w§+1,33,none⟩=some (.slice d.vl.a d.vl.ks.length d.vl.c):=cell_of HX.out.D 33
     have c34:wc.cell? ⟨w§+1,34,none⟩=some (zI d.vl.h.p):=cell_of HX.out.D 34
     go_wp2_with (at_lookup; refine wpList_lookup_own_int _ rfl _ _ 139 rfl 9 34 .u8 law9 Tryz.underlying139 Tryz.underlying34 (zero34 _) b n D rfl hown _ _ rfl hkey ?_; intro cc hat hwc)
     go_ret
     have ec:cc=(L d.x).getD 0:=by have h:=hat.symm.trans HH.out; injection h with h; injection h
     rw [HL.out,ec]
     exact⟨_,_,rfl,slat1 (heap_new _ _),below2 HX.out.B (below_new _ _)⟩
    | false =>
     have HL:Hid (ptsL L d = []):=by show _=_; simp only [ptsL,h1,h2,h4]; rfl
     go_wp2_with fail
     go_ret
     rw [HL.out]
     exact⟨_,_,rfl,⟨Nat.zero_le _,by decide,fun i hi=>by cases hi⟩,HX.out.B⟩
def pcE (L:yB→Option Int) (q:Nd × Int):Option (Int × Int):=match tyR L q.1 with
 | .error e=>some e
 | .ok t=>if t=q.2 then none else some (q.1.h.p,152)
def OutC (w:yW) (r:Option (Int × Int)) (e:Ending) (w':yW):Prop :=
 (r=none∧e=.returned .nilIface∧yD w w')∨(∃ p no T v,r=some (p,no)∧e=.returned (.iface T v)∧Er w' (.iface T v) no p∧yD w w')
theorem checkPart_any (b b2 b3:Nat) (L:yB→Option Int) (q:Nd × Int) (w:yW) (hk:RgM w b L) (hf:FTab w) (hl:Lies w q.1) (ho:OkT q.1) (hg:Ety w) :
  Calls zG 148 #[.agg #[.map (some b),.map (some b2),.map (some b3)],.agg (ptV q)] w (OutC w (pcE L q)):=by
 have hb1:=below_new w (.cells #[.map (some b),.map (some b2),.map (some b3)] 172)
 have hn1:=heap_new w (.cells #[.map (some b),.map (some b2),.map (some b3)] 172)
 have hs1:=size_alloc w (.cells #[.map (some b),.map (some b2),.map (some b3)] 172)
 obtain⟨W1,e1⟩:∃ W,w.alloc (.cells #[.map (some b),.map (some b2),.map (some b3)] 172)=W:=⟨_,rfl⟩
 have E1:Hid (w.alloc (.cells #[.map (some b),.map (some b2),.map (some b3)] 172)=W1):=e1
 rw [e1] at hb1 hn1 hs1
 have hb2:=below_new W1 (.cells #[zU q.1.h.k,zU q.1.h.o,zU q.1.h.t,zI q.1.h.n,zU q.1.h.f,.string q.1.h.x,.slice q.1.a q.1.ks.length q.1.c,zI q.1.h.p,zU q.2] 213)
 have hn2:=heap_new W1 (.cells #[zU q.1.h.k,zU q.1.h.o,zU q.1.h.t,zI q.1.h.n,zU q.1.h.f,.string q.1.h.x,.slice q.1.a q.1.ks.length q.1.c,zI q.1.h.p,zU q.2] 213)
 have hk2:=(hb2.block _ (zJ hn1).1).trans hn1
 have hbw:=below2 hb1 hb2
 rw [hs1] at hn2
 have HS1:Hid (W1§=w§+1):=hs1
 obtain⟨W2,e2⟩:∃ W,W1.alloc (.cells #[zU q.1.h.k,zU q.1.h.o,zU q.1.h.t,zI q.1.h.n,zU q.1.h.f,.string q.1.h.x,.slice q.1.a q.1.ks.length q.1.c,zI q.1.h.p,zU q.2] 213)=W:=⟨_,rfl⟩
 have E2:Hid (W1.alloc (.cells #[zU q.1.h.k,zU q.1.h.o,zU q.1.h.t,zI q.1.h.n,zU q.1.h.f,.string q.1.h.x,.slice q.1.a q.1.ks.length q.1.c,zI q.1.h.p,zU q.2] 213)=W2):=e2
 rw [e2] at hn2 hk2 hbw
 have HB:Hid (yD w W2):=hbw
 have HN:Hid (W2.heap[w§+1]? = (zC #[zU q.1.h.k,zU q.1.h.o,zU q.1.h.t,zI q.1.h.n,zU q.1.h.f,.string q.1.h.x,.slice q.1.a q.1.ks.length q.1.c,zI q.1.h.p,zU q.2] 213)∧Ety W2):=⟨hn2,hg.on hbw⟩
 have k0:W2.cell? w§¢0=some (.map (some b)):=cell_of hk2 0
 have c0:W2.cell? ⟨w§+1,0,none⟩=some (zU q.1.h.k):=cell_of hn2 0
 have c1:W2.cell? ⟨w§+1,1,none⟩=some (zU q.1.h.o):=cell_of hn2 1
 have c2:W2.cell? ⟨w§+1,2,none⟩=some (zU q.1.h.t):=cell_of hn2 2
 have c3:W2.cell? ⟨w§+1,3,none⟩=some (zI q.1.h.n):=cell_of hn2 3
 have c4:W2.cell? ⟨w§+1,4,none⟩=some (zU q.1.h.f):=cell_of hn2 4
 have c5:W2.cell? ⟨w§+1,5,none⟩=some (.string q.1.h.x):=cell_of hn2 5
 have c6:W2.cell? ⟨w§+1,6,none⟩=some (.slice q.1.a q.1.ks.length q.1.c):=cell_of hn2 6
 have c7:W2.cell? ⟨w§+1,7,none⟩=some (zI q.1.h.p):=cell_of hn2 7
 have c8:W2.cell? ⟨w§+1,8,none⟩=some (zU q.2):=cell_of hn2 8
 have cT:Calls zG 63 #[.map (some b),.agg #[zU q.1.h.k,zU q.1.h.o,zU q.1.h.t,zI q.1.h.n,zU q.1.h.f,.string q.1.h.x,.slice q.1.a q.1.ks.length q.1.c,zI q.1.h.p]] W2 (OutT W2 (tyR L q.1)):=typ_any b L q.1 W2 (hk.on hbw) (hf.on hbw) (hl.on hbw) ho
 clear hb1 hn1 hs1 hb2 hk2 hn2 hbw hk e1 e2 hf hl ho hg
 show Calls zG 148 #[.agg #[.map (some b),.map (some b2),.map (some b3)],.agg #[zU q.1.h.k,zU q.1.h.o,zU q.1.h.t,zI q.1.h.n,zU q.1.h.f,.string q.1.h.x,.slice q.1.a q.1.ks.length q.1.c,zI q.1.h.p,zU q.2]] w _
 go_enter Tryz.func148,Tryz.ntmps148
 go_upto_region 1 with fail
 rw [E1.out,E2.out]
 try rw [HS1.out]
 clear E1 E2 HS1
 go_wp2_with fail
 refine cT.mono ?_
 rintro e w3 (⟨t,h1,rfl,hb3⟩ | ⟨p,no,b5,h1,rfl,h3,h4,hb3⟩)
 ·have HB3:Hid (yD w w3):=below2 HB.out hb3
  have g:=(hb3.block _ (zJ HN.out.1).1).trans HN.out.1
  have a7:w3.cell? ⟨w§+1,7,none⟩=some (zI q.1.h.p):=cell_of g 7
  have a8:w3.cell? ⟨w§+1,8,none⟩=some (zU q.2):=cell_of g 8
  clear g cT hb3 k0 c0 c1 c2 c3 c4 c5 c6 c7 c8
  cases ht:(t == q.2) with
  | true =>
   have HR:Hid (pcE L q=none):=by show _=_; unfold pcE; rw [h1]; exact if_pos (by simpa using ht)
   clear h1
   go_wp2_with fail
   go_ret
   exact .inl ⟨HR.out,rfl,HB3.out⟩
  | false =>
   have HR:Hid (pcE L q=some (q.1.h.p,152)):=by show _=_; unfold pcE; rw [h1]; exact if_neg (by simpa using ht)
   clear h1
   go_wp2_with fail
   refine (wrong_any _ _ _).mono ?_
   rintro e w4 ⟨rfl,hf4,hb4⟩
   have HB4:Hid (yD w w4∧Er w4 (.iface 184 (zP w3§)) 152 q.1.h.p):=⟨below2 HB3.out hb4,hf4.er⟩
   clear hf4 hb4
   go_wp2_with fail
   go_ret
   exact .inr ⟨_,_,_,_,HR.out,rfl,HB4.out.2,HB4.out.1⟩
 ·have HB3:Hid (yD w w3):=below2 HB.out hb3
  have HR:Hid (pcE L q=some (p,no)):=by show _=_; unfold pcE; rw [h1]
  have cA:=around_any b5 Zl p no w3 h4 (HN.out.2.on hb3)
  clear h1 h3 h4 hb3 cT k0 c0 c1 c2 c3 c4 c5 c6 c7 c8
  go_wp2_with fail
  refine cA.mono ?_
  rintro e w4 ⟨v,rfl,her,hb4⟩
  obtain⟨T,x,rfl⟩:=her.face
  have HB4:Hid (yD w w4∧Er w4 (.iface T x) no p):=⟨below2 HB3.out hb4,her⟩
  clear her hb4 cA
  go_wp2_with fail
  go_ret
  exact .inr ⟨_,_,_,_,HR.out,rfl,HB4.out.2,HB4.out.1⟩
end Go.Proofs.YtfbjofnaghjmeaaGreatDoor
