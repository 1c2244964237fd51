import Derived.Test.YtjimaceccllnlaaGreatDoorA0
import Derived.Test.YtjimaceccllnlaaGreatDoorA5
import Derived.Test.YtjimaceccllnlaaGreatDoorA2
namespace Go.Proofs.YtjimaceccllnlaaGreatDoor
set_option maxRecDepth 100000
open Go.RowKit
theorem is_live {w:World}{b:Nat}{K:PK}{t:Tk}{ts:List Tk}(h:Lv w b K (t :: ts)) (x:ByteArray) (hx:t.x=x→t.k=1∨t.k=4) :
  Calls zG 86 #[zP b,.string x] w fun e w'=>e=.returned (.bool (decide (t.x=x)))∧Below w§ w w':=by
 have cN:=live_now h
 clear h
 unfold tkA at cN
 by_cases e:t.x=x
 ·rw [decide_eq_true e]
  rcases hx e with hk | hk
  ·subst e
   rw [hk] at cN
   clear hx hk
   go_enter Tryz.func86,Tryz.ntmps86
   go_wp2_with fail
   refine cN.mono ?_
   rintro e w1 ⟨rfl,hb⟩
   have HB:=zH hb
   clear cN hb
   go_wp2_with fail
   go_ret
   exact⟨rfl,below2 HB.out (Bn _ _)⟩
  ·subst e
   rw [hk] at cN
   clear hx hk
   go_enter Tryz.func86,Tryz.ntmps86
   go_wp2_with fail
   refine cN.mono ?_
   rintro e w1 ⟨rfl,hb⟩
   have HB:=zH hb
   clear cN hb
   go_wp2_with fail
   go_ret
   exact⟨rfl,below2 HB.out (Bn _ _)⟩
 ·have hs:=str_ne e
  rw [decide_eq_false e]
  clear hx e
  go_enter Tryz.func86,Tryz.ntmps86
  go_wp2_with fail
  refine cN.mono ?_
  rintro e w1 ⟨rfl,hb⟩
  have HB:=zH hb
  clear cN hb
  go_wp2_with fail
  go_ret
  exact⟨rfl,below2 HB.out (Bn _ _)⟩
theorem is_dead {w:World}{b:Nat}{K:PK}{f:Ft}(h:Dd w b K f) (x:ByteArray) (hx:x≠⟨#[]⟩) :
  Calls zG 86 #[zP b,.string x] w fun e w'=>e=.returned (.bool false)∧Below w§ w w':=by
 have cN:=dead_now h
 clear h
 unfold tkA tk0 at cN
 have hs0:¬ x.toList = []:=fun e=>hx (ba_ext2 (by rw [ByteArray.toList_eq] at e; exact e))
 have hs:x.toList.isEmpty=false:=by cases hl:x.toList with | nil=>exact absurd hl hs0 | cons _ _=>rfl
 clear hx
 go_enter Tryz.func86,Tryz.ntmps86
 go_wp2_with fail
 refine cN.mono ?_
 rintro e w1 ⟨rfl,hb⟩
 have HB:=zH hb
 clear cN hb
 go_wp2_with fail
 go_ret
 exact⟨rfl,below2 HB.out (Bn _ _)⟩
def fnd (y:ByteArray):List ByteArray→Nat→Int
 | [],_=>-1
 | x :: xs,i=>if y=x then (i:Int) else fnd y xs (i+1)
theorem fnd_none (y:ByteArray):∀ (L:List ByteArray) (k:Nat),(∀ j (h:j < L.length),y≠L[j])→fnd y L k = -1:=by
 intro L
 induction L with
 | nil=>intro k _; rfl
 | cons x xs ih =>
  intro k h
  have h0:=h 0 (by simp)
  simp only [List.getElem_cons_zero] at h0
  rw [fnd,if_neg h0]
  exact ih (k+1) (fun j hj=>by have:=h (j+1) (by simpa using hj); simpa using this)
theorem fnd_at (y:ByteArray):∀ (L:List ByteArray) (k i:Nat) (hi:i < L.length),(∀ j (h:j < L.length),j < i→y≠L[j])→y=L[i]→fnd y L k=((k+i:Nat):Int):=by
 intro L
 induction L with
 | nil=>intro k i hi; simp at hi
 | cons x xs ih =>
  intro k i hi h he
  cases i with
  | zero =>
   simp only [List.getElem_cons_zero] at he
   rw [fnd,if_pos he]
   simp
  | succ i =>
   have h0:=h 0 (by simp) (by omega)
   simp only [List.getElem_cons_zero] at h0
   rw [fnd,if_neg h0,ih (k+1) i (by simpa using hi) (fun j hj hji=>by have:=h (j+1) (by simpa using hj) (by omega); simpa using this) (by simpa using he)]
   congr 1
   omega
def SLs (w:World) (A:Nat) (L:List ByteArray):Prop:=∀ j (hj:j < L.length),w.cell? ⟨A,j,none⟩=some (.string L[j])
theorem SLs.on {w w':World}{A:Nat}{L:List ByteArray}(h:SLs w A L) (k:Below w§ w w'):SLs w' A L:=fun j hj =>
 (World.cell?_of_block (k.block A (World.block_lt_of_cell? w _ (h j hj)))).trans (h j hj)
theorem any_live {w:World}{b:Nat}{K:PK}{t0:Tk}{ts:List Tk}(h:Lv w b K (t0 :: ts)) {A:Nat}{L:List ByteArray}{c:Nat}(hL:SLs w A L) (hn:L.length≤1000) (hx:∀ x ∈ L,t0.x=x→t0.k=1∨t0.k=4) :
  Calls zG 127 #[zP b,.slice (some ⟨A,0,none⟩) L.length c] w fun e w'=>e=.returned (zI (fnd t0.x L 0))∧Below w§ w w':=by
 have HH:=h.hid
 have HL:Hid (SLs w A L):=hL
 have HX:=hx
 clear h hL hx
 go_enter Tryz.func127,Tryz.ntmps127
 go_wp2_with fail
 go_loopw [5,6] (fun t _ wr=>∃ i:Nat,i≤L.length∧t=zI i∧Hid (Below w§ w wr)∧Hid (∀ j (h:j < L.length),j < i→t0.x≠L[j])) (fun t _ _=>L.length - (intOf t).toNat)
 case atStart=>exact⟨0,by omega,rfl,Below.refl _ _,fun j _ hj=>by omega⟩
 case round =>
  obtain⟨i,hi,rfl,HR,HJ⟩:=hrel
  by_cases hlt:i < L.length
  ·have hlt':(i:Int) < (L.length:Int):=by omega
   have cs:=(HL.out.on HR.out) i hlt
   have cI:=is_live (HH.out.on HR.out) L[i] (HX L[i] (List.getElem_mem hlt))
   have hmx:(i:Int)+1≤9223372036854775807:=by omega
   obtain⟨x,ex⟩:∃ x,L[i]=x:=⟨_,rfl⟩
   have HEX:Hid (L[i]=x):=ex
   rw [ex] at cs cI
   clear ex
   by_cases he:t0.x=x
   ·rw [decide_eq_true he] at cI
    have HE:Hid (t0.x=x):=he
    clear he
    go_wp2_with fail
    refine cI.mono ?_
    rintro e w1 ⟨rfl,hb⟩
    have HB1:=zH (below2 HR.out hb)
    clear cI hb cs
    go_wp2_with fail
    go_ret
    exact⟨by show Ending.returned (zI (i:Int))=_; rw [fnd_at t0.x L 0 i hlt HJ.out (by rw [HEX.out,HE.out])]; simp,HB1.out⟩
   ·rw [decide_eq_false he] at cI
    have HE:Hid (¬ t0.x=x):=he
    clear he
    go_wp2_with fail
    refine cI.mono ?_
    rintro e w1 ⟨rfl,hb⟩
    have HB1:=zH (below2 HR.out hb)
    clear cI hb cs
    go_wp2_with fail
    exact⟨⟨i+1,hlt,rfl,HB1,fun j hj hji=>by
     by_cases e:j=i
     ·subst e; rw [HEX.out]; exact HE.out
     ·exact HJ.out j hj (by omega)⟩,by simp only [intOf]; omega⟩
  ·obtain rfl:i=L.length:=by omega
   have hnot:¬ (L.length:Int) < (L.length:Int):=by omega
   go_wp2_with fail
   go_ret
   exact⟨by show Ending.returned (zI (-1))=_; rw [fnd_none t0.x L 0 (fun j hj=>HJ.out j hj hj)],HR.out⟩
theorem any_dead {w:World}{b:Nat}{K:PK}{f:Ft}(h:Dd w b K f) {A:Nat}{L:List ByteArray}{c:Nat}(hL:SLs w A L) (hn:L.length≤1000) (hx:∀ x ∈ L,x≠⟨#[]⟩) :
  Calls zG 127 #[zP b,.slice (some ⟨A,0,none⟩) L.length c] w fun e w'=>e=.returned (zI (-1))∧Below w§ w w':=by
 have HH:=h.hid
 have HL:Hid (SLs w A L):=hL
 have HX:=hx
 clear h hL hx
 go_enter Tryz.func127,Tryz.ntmps127
 go_wp2_with fail
 go_loopw [5,6] (fun t _ wr=>∃ i:Nat,i≤L.length∧t=zI i∧Hid (Below w§ w wr)) (fun t _ _=>L.length - (intOf t).toNat)
 case atStart=>exact⟨0,by omega,rfl,Below.refl _ _⟩
 case round =>
  obtain⟨i,hi,rfl,HR⟩:=hrel
  by_cases hlt:i < L.length
  ·have hlt':(i:Int) < (L.length:Int):=by omega
   have cs:=(HL.out.on HR.out) i hlt
   have cI:=is_dead (HH.out.on HR.out) L[i] (HX L[i] (List.getElem_mem hlt))
   have hmx:(i:Int)+1≤9223372036854775807:=by omega
   obtain⟨x,ex⟩:∃ x,L[i]=x:=⟨_,rfl⟩
   rw [ex] at cs cI
   clear ex
   go_wp2_with fail
   refine cI.mono ?_
   rintro e w1 ⟨rfl,hb⟩
   have HB1:=zH (below2 HR.out hb)
   clear cI hb cs
   go_wp2_with fail
   exact⟨⟨i+1,hlt,rfl,HB1⟩,by simp only [intOf]; omega⟩
  ·obtain rfl:i=L.length:=by omega
   have hnot:¬ (L.length:Int) < (L.length:Int):=by omega
   go_wp2_with fail
   go_ret
   exact⟨rfl,HR.out⟩
theorem Lv.at' {w:World}{b:Nat}{K:PK}{t:Tk}{ts:List Tk}(h:Lv w b K (t :: ts)):∃ i:Nat,w.cell? ⟨b,3,none⟩=some (zI i)∧w.frozen? ⟨b,3,none⟩=false∧(i:Int)+1≤9223372036854775807 ∧
  Lv (w.setCell ⟨b,3,none⟩ (zI ((i:Int)+1))) b K ts∧Mv w (w.setCell ⟨b,3,none⟩ (zI ((i:Int)+1))) (fun k=>k=b)∧(∀ k,k≠b→(w.setCell ⟨b,3,none⟩ (zI ((i:Int)+1))).heap[k]? = w.heap[k]?)∧(w.setCell ⟨b,3,none⟩ (zI ((i:Int)+1)))§=w§:=by
 obtain⟨i,p,u,h1,h2⟩:=h
 have hi:i < K.T.length:=by
  have:=congrArg List.length h2
  simp at this
  omega
 have ets:ts=K.T.drop (i+1):=by
  have:=congrArg List.tail h2
  simpa using this
 have hm:=h1.m
 have hb:(w.setCell ⟨b,3,none⟩ (zI ((i:Int)+1))).heap[b]? = some (.cells #[.slice K.a K.T.length K.c,zI K.be,zI K.ba,zI ((i:Int)+1),zI 0,zI p,.bool u] 105 (0,0)):=Hs0 _ h1.h
 refine⟨i,Co h1.h 3,Fo h1.h 3,by omega,⟨i+1,p,u,?_,ets⟩,Mv.setCell (F:=fun k=>k=b) (a:=⟨b,3,none⟩) (Mv.refl _ _) (.inl rfl) _,fun k hk=>Below.heap_setCell _ _ _ _ hk,by simp [World.setCell]⟩
 exact h1.new (fun c hc _=>Below.heap_setCell _ _ _ _ hc) hi h1.z (by rw [hb]; simp)
theorem take_live {w:World}{b:Nat}{K:PK}{t:Tk}{ts:List Tk}(h:Lv w b K (t :: ts)) (x:ByteArray) (hx:t.x=x→t.k=1∨t.k=4) :
  Calls zG 89 #[zP b,.string x] w fun e w'=>(∃ p,e=.returned (zI p)∧(t.x=x→p=t.p))∧(if t.x=x then Lv w' b K ts else Dd w' b K (.tok 130 t.p))∧Mv w w' (fun k=>k=b):=by
 have cI:=is_live h x hx
 have HH:=h.hid
 clear h hx
 by_cases e:t.x=x
 ·rw [decide_eq_true e] at cI
  simp only [e,if_true]
  clear e
  go_enter Tryz.func89,Tryz.ntmps89
  go_wp2_with fail
  refine cI.mono ?_
  rintro e w1 ⟨rfl,hb⟩
  have HB1:=zH hb
  have cN:=live_now (HH.out.on hb)
  have hf:=fun v=>field82_4 t v
  clear cI hb
  go_wp2_with fail
  refine cN.mono ?_
  rintro e w2 ⟨rfl,hb⟩
  have HB2:=zH (below2 HB1.out hb)
  obtain⟨i,c3,f3,hmx,hL,hM,_,_⟩:=(HH.out.on HB2.out).at'
  have HL:=hL.hid
  have HM:=zH hM
  clear cN hb hL hM
  go_wp2_with fail
  go_ret
  exact⟨⟨t.p,rfl,fun _=>rfl⟩,HL.out,(Mv.ofBelow HB2.out).trans HM.out (fun k e=>.inl e)⟩
 ·rw [decide_eq_false e] at cI
  simp only [e,if_false,false_implies]
  clear e
  go_enter Tryz.func89,Tryz.ntmps89
  go_wp2_with fail
  refine cI.mono ?_
  rintro e w1 ⟨rfl,hb⟩
  have HB1:=zH hb
  have cN:=wrong_live (HH.out.on hb) 130 (by decide)
  clear cI hb
  go_wp2_with fail
  refine cN.mono ?_
  rintro e w2 ⟨rfl,hd,hm⟩
  have HD:=hd.hid
  have HM:=zH hm
  clear cN hd hm
  go_wp2_with fail
  go_ret
  exact⟨⟨0,rfl,trivial⟩,HD.out,(Mv.ofBelow HB1.out).trans HM.out (fun k e=>.inl e)⟩
theorem take_dead {w:World}{b:Nat}{K:PK}{f:Ft}(h:Dd w b K f) (x:ByteArray) (hx:x≠⟨#[]⟩) :
  Calls zG 89 #[zP b,.string x] w fun e w'=>(∃ p,e=.returned (zI p))∧Dd w' b K f∧Mv w w' (fun k=>k=b):=by
 have cI:=is_dead h x hx
 have HH:=h.hid
 clear h hx
 go_enter Tryz.func89,Tryz.ntmps89
 go_wp2_with fail
 refine cI.mono ?_
 rintro e w1 ⟨rfl,hb⟩
 have HB1:=zH hb
 have cN:=wrong_dead (HH.out.on hb) 130
 clear cI hb
 go_wp2_with fail
 refine cN.mono ?_
 rintro e w2 ⟨rfl,hd,hm⟩
 have HD:=hd.hid
 have HM:=zH hm
 clear cN hd hm
 go_wp2_with fail
 go_ret
 exact⟨⟨0,rfl⟩,HD.out,(Mv.ofBelow HB1.out).trans HM.out (fun k e=>.inl e)⟩
theorem deeper_ok {w:World}{b:Nat}{K:PK}{t:Tk}{ts:List Tk}(h:Lv w b K (t :: ts)) (d:Nat) (hd:d < 24) :
  Calls zG 87 #[zP b,zI d] w fun e w'=>e=.returned (.bool true)∧w'=w:=by
 obtain⟨i,p,u,h1,h2⟩:=h
 have cO:=over_no h1
 have h3:¬ (24:Int) < (d:Int)+1:=by omega
 have h4:decide ((24:Int) < (d:Int)+1)=false:=decide_eq_false h3
 have h5:(d:Int)+1≤9223372036854775807:=by omega
 clear h1 h2
 go_enter Tryz.func87,Tryz.ntmps87
 go_wp2_with fail
 refine cO.mono ?_
 rintro e w1 ⟨rfl,rfl⟩
 go_wp2_with fail
 go_ret
 exact⟨rfl,rfl⟩
theorem deeper_no {w:World}{b:Nat}{K:PK}{t:Tk}{ts:List Tk}(h:Lv w b K (t :: ts)) (d:Nat) (hd:¬ d < 24) (hm:d≤1000) :
  Calls zG 87 #[zP b,zI d] w fun e w'=>e=.returned (.bool false)∧Dd w' b K (.tok 132 t.p)∧Mv w w' (fun k=>k=b):=by
 have cW:=wrong_live h 132 (by decide)
 have h3:(24:Int) < (d:Int)+1:=by omega
 have h4:decide ((24:Int) < (d:Int)+1)=true:=decide_eq_true h3
 have h5:(d:Int)+1≤9223372036854775807:=by omega
 clear h
 go_enter Tryz.func87,Tryz.ntmps87
 go_wp2_with fail
 refine cW.mono ?_
 rintro e w1 ⟨rfl,hd,hm⟩
 have HD:=hd.hid
 have HM:=zH hm
 obtain⟨i,h6,h7⟩:=hd
 have cO:=over_yes h6 h7
 clear cW hm h6 h7
 go_wp2_with fail
 refine cO.mono ?_
 rintro e w2 ⟨rfl,rfl⟩
 go_wp2_with fail
 go_ret
 exact⟨rfl,HD.out,HM.out⟩
set_option maxHeartbeats 1000000
def kwW:List ByteArray:=[Z3,Z2,Z4,Ze,Zc,Zd,Zf,Zh,Zg,Zj,Zl,Zk,Zm,ZC,Zs,Zz,Zr,Zp]
def kwM:List ByteArray:=[Zb,Zu,Zw,Zx,Zy,Zv,ZF,ZG,ZD,ZH,ZE,ZI,ZT,ZU,ZB,ZO,Zi,Zt,Zn]
structure TkOk (t:Tk):Prop where
 r:RgT t
 w:∀ x ∈ kwW,t.x=x→t.k=1
 m:∀ x ∈ kwM,t.x=x→t.k=4
 n:t.k=3 ↔ t.ty≠0
theorem TkOk.kw {t:Tk}(h:TkOk t) {x:ByteArray}(hx:x ∈ kwW∨x ∈ kwM):t.x=x→t.k=1∨t.k=4:=fun e=>hx.elim (fun i=>.inl (h.w x i e)) (fun i=>.inr (h.m x i e))
theorem eqX_t {x:ByteArray}{l:List UInt8}(h:x.data.toList=l):eqX x l=true:=by
 unfold eqX
 rw [ByteArray.toList_eq,h]
 simp
theorem eqX_f {x:ByteArray}{a:Array UInt8}(h:¬ x=⟨a⟩):eqX x a.toList=false:=by
 unfold eqX
 rw [ByteArray.toList_eq]
 exact beq_false_of_ne (fun h'=>h (ba_ext2 h'))
def Lw (B b:Nat) (K:PK):Prop:=b < B∧∀ j,j < K.T.length→∀ G o,K.a=some ⟨G,o,none⟩→G < B
theorem Pr.lw {w:World}{b:Nat}{K:PK}{i:Nat}{e p:Int}{t:Bool}(h:Pr w b K i e p t):Lw w§ b K:=⟨h.lt,fun j hj G o e=>by
 obtain⟨G',o',e',hn,ht⟩:=h.r j hj
 rw [e] at e'
 cases e'
 exact ht.lt⟩
theorem Pr.off {w w':World}{b:Nat}{K:PK}{i:Nat}{e p:Int}{t:Bool}(h:Pr w b K i e p t) {B:Nat}(hB:Lw B b K) (o:∀ k,k < B→w'.heap[k]? = w.heap[k]?):Pr w' b K i e p t :=
 ⟨(o b hB.1).trans h.h,h.l,h.m,h.z,fun j hj=>by
  obtain⟨G,o',ea,hn,ht⟩:=h.r j hj
  exact⟨G,o',ea,hn,ht.blk (o G (hB.2 j hj G o' ea))⟩⟩
theorem Lv.lw {w:World}{b:Nat}{K:PK}{ts:List Tk}(h:Lv w b K ts):Lw w§ b K:=by
 obtain⟨i,p,t,h1,h2⟩:=h
 exact h1.lw
theorem Lv.off {w w':World}{b:Nat}{K:PK}{ts:List Tk}(h:Lv w b K ts) {B:Nat}(hB:Lw B b K) (o:∀ k,k < B→w'.heap[k]? = w.heap[k]?):Lv w' b K ts:=by
 obtain⟨i,p,t,h1,h2⟩:=h
 exact⟨i,p,t,h1.off hB o,h2⟩
theorem Dd.lw {w:World}{b:Nat}{K:PK}{f:Ft}(h:Dd w b K f):Lw w§ b K:=by
 cases f with
 | tok no p=>obtain⟨i,h1,h2⟩:=h; exact h1.lw
 | lex=>obtain⟨e,p,t,h1,h2⟩:=h; exact h1.lw
theorem Dd.off {w w':World}{b:Nat}{K:PK}{f:Ft}(h:Dd w b K f) {B:Nat}(hB:Lw B b K) (o:∀ k,k < B→w'.heap[k]? = w.heap[k]?):Dd w' b K f:=by
 cases f with
 | tok no p=>obtain⟨i,h1,h2⟩:=h; exact⟨i,h1.off hB o,h2⟩
 | lex=>obtain⟨e,p,t,h1,h2⟩:=h; exact⟨e,p,t,h1.off hB o,h2⟩
theorem Lw.mono {B B' b:Nat}{K:PK}(h:Lw B b K) (k:B≤B'):Lw B' b K:=⟨Nat.lt_of_lt_of_le h.1 k,fun j hj G o e=>Nat.lt_of_lt_of_le (h.2 j hj G o e) k⟩
def nul8:Array Value:=zNo
def litN (t:Tk):Nd:=.mk ⟨1,0,(valT t).1,(valT t).2,0,gE,t.p⟩ none 0 []
theorem lit_num {w:World}{b:Nat}{K:PK}{t:Tk}{ts:List Tk}(h:Lv w b K (t :: ts)) (hk:t.k=3) :
  Calls zG 128 #[zP b] w fun e w'=>e=.returned (.tuple #[.agg #[zU 1,zU 0,zU t.ty,zI t.n,zU 0,.string ⟨#[]⟩,.slice none 0 0,zI t.p],.bool true])∧Lv w' b K ts∧Mv w w' (fun k=>k=b):=by
 have hb0:=Bn w (.cells zA9 28)
 have hn0:=Hn w (.cells zA9 28)
 have HB0:=zH hb0
 have HN0:=zH hn0
 have HBW:Hid (b < w§):=h.lt
 have HLW:Hid (Lw w§ b K):=h.lw
 have cN:=live_now (h.on hb0)
 have HH:=(h.on hb0).hid
 unfold tkA at cN
 clear h hb0 hn0
 rw [hk] at cN
 clear hk
 go_enter Tryz.func128,Tryz.ntmps128
 go_wp2_with fail
 refine cN.mono ?_
 rintro e w1 ⟨rfl,hb⟩
 have HB1:=zH (below2 HB0.out hb)
 have HH1:=(HH.out.on hb).hid
 have HN1:Hid (w1.heap[w§]? = some (.cells zA9 28 (0,0))):=(hb.block _ (by rw [Sa]; omega)).trans HN0.out
 clear cN hb HB0 HH HN0
 go_upto_region 4 with fail
 have e1:=Bn w1 (.cells #[zU 3,.string t.x,zU t.ty,zI t.n,zI t.p] 143)
 have e2:=Bn (w1.alloc (.cells #[zU 3,.string t.x,zU t.ty,zI t.n,zI t.p] 143)) (.cells #[zU 1,zU 0,zU 0,zI 0,zU 0,.string ⟨#[]⟩,.slice none 0 0,zI t.p] 28)
 have s1:=Sa w1 (.cells #[zU 3,.string t.x,zU t.ty,zI t.n,zI t.p] 143)
 have t1:=Hn w1 (.cells #[zU 3,.string t.x,zU t.ty,zI t.n,zI t.p] 143)
 have t2:=Hn (w1.alloc (.cells #[zU 3,.string t.x,zU t.ty,zI t.n,zI t.p] 143)) (.cells #[zU 1,zU 0,zU 0,zI 0,zU 0,.string ⟨#[]⟩,.slice none 0 0,zI t.p] 28)
 rw [s1] at t2
 obtain⟨V,eV⟩:∃ V,(w1.alloc (.cells #[zU 3,.string t.x,zU t.ty,zI t.n,zI t.p] 143)).alloc (.cells #[zU 1,zU 0,zU 0,zI 0,zU 0,.string ⟨#[]⟩,.slice none 0 0,zI t.p] 28)=V:=⟨_,rfl⟩
 have hTV:V.heap[w1§]? = some (.cells #[zU 3,.string t.x,zU t.ty,zI t.n,zI t.p] 143 (0,0)):=by rw [← eV]; exact (e2.block _ (by rw [s1]; omega)).trans t1
 have hNV:V.heap[w1§+1]? = some (.cells #[zU 1,zU 0,zU 0,zI 0,zU 0,.string ⟨#[]⟩,.slice none 0 0,zI t.p] 28 (0,0)):=by rw [← eV]; exact t2
 have hBV:Below w1§ w1 V:=by rw [← eV]; exact below2 e1 e2
 have hlw:w§ < w1§:=(Array.getElem?_eq_some_iff.1 HN1.out).1
 have HZV:Hid (V.heap[w§]? = some (.cells zA9 28 (0,0))):=(hBV.block _ hlw).trans HN1.out
 have HHV:=(HH1.out.on hBV).hid
 have HBV:=zH (below2 HB1.out hBV)
 rw [eV]
 clear e1 e2 s1 t1 t2 eV hBV HB1 HH1 HN1
 obtain⟨Q,eQ⟩:∃ Q,w1§=Q:=⟨_,rfl⟩
 rw [eQ] at hTV hNV hlw ⊢
 clear eQ
 have k0:V.cell? ⟨Q,0,none⟩=some (zU 3):=Co hTV 0
 have k1:V.cell? ⟨Q,1,none⟩=some (.string t.x):=Co hTV 1
 have k2:V.cell? ⟨Q,2,none⟩=some (zU t.ty):=Co hTV 2
 have k3:V.cell? ⟨Q,3,none⟩=some (zI t.n):=Co hTV 3
 have m2:V.cell? ⟨Q+1,2,none⟩=some (zU 0):=Co hNV 2
 have f2:=Fo hNV 2
 have m3:V.cell? ⟨Q+1,3,none⟩=some (zI 0):=Co hNV 3
 have f3:=Fo hNV 3
 go_upto_region 6 with fail
 obtain⟨Y1,eY1⟩:∃ Y,V.setCell ⟨Q+1,2,none⟩ (zU t.ty)=Y:=⟨_,rfl⟩
 have hY1:Y1.heap[Q+1]? = some (.cells #[zU 1,zU 0,zU t.ty,zI 0,zU 0,.string ⟨#[]⟩,.slice none 0 0,zI t.p] 28 (0,0)):=by rw [← eY1]; exact Hs0 _ hNV
 have oY1:∀ k,k≠Q+1→Y1.heap[k]? = V.heap[k]?:=fun k hk=>by rw [← eY1]; exact Below.heap_setCell _ _ _ _ hk
 have zY1:Y1§=V§:=by rw [← eY1]; simp [World.setCell]
 have HTY1:Hid (Mv V Y1 (fun k=>k=Q+1)):=by show Mv _ _ _; rw [← eY1]; exact Mv.setCell (F:=fun k=>k=Q+1) (a:=⟨Q+1,2,none⟩) (Mv.refl _ _) (.inl rfl) _
 have hY1t:Y1.heap[Q]? = some (.cells #[zU 3,.string t.x,zU t.ty,zI t.n,zI t.p] 143 (0,0)):=(oY1 _ (by omega)).trans hTV
 rw [eY1]
 clear eY1 k0 k1 k2 k3 m2 f2 m3 f3 hTV hNV
 have hTV:=hY1t
 clear hY1t
 have HZY1:Hid (Y1.heap[w§]? = some (.cells zA9 28 (0,0))):=(oY1 _ (by omega)).trans HZV.out
 have HHY1:Hid (Lv Y1 b K (t :: ts)):=HHV.out.off HLW.out (fun k hk=>oY1 k (by omega))
 have HMY1:=zH ((Mv.ofBelow HBV.out:Mv w V (fun k=>k=b)).trans HTY1.out (fun k e=>.inr (by have:=HBW.out; omega)))
 have k0:Y1.cell? ⟨Q,0,none⟩=some (zU 3):=Co hTV 0
 have k1:Y1.cell? ⟨Q,1,none⟩=some (.string t.x):=Co hTV 1
 have k2:Y1.cell? ⟨Q,2,none⟩=some (zU t.ty):=Co hTV 2
 have k3:Y1.cell? ⟨Q,3,none⟩=some (zI t.n):=Co hTV 3
 have m2:Y1.cell? ⟨Q+1,2,none⟩=some (zU t.ty):=Co hY1 2
 have f2:=Fo hY1 2
 have m3:Y1.cell? ⟨Q+1,3,none⟩=some (zI 0):=Co hY1 3
 have f3:=Fo hY1 3
 go_upto_region 16 with fail
 obtain⟨Y2,eY2⟩:∃ Y,Y1.setCell ⟨Q+1,3,none⟩ (zI t.n)=Y:=⟨_,rfl⟩
 have hY2:Y2.heap[Q+1]? = some (.cells #[zU 1,zU 0,zU t.ty,zI t.n,zU 0,.string ⟨#[]⟩,.slice none 0 0,zI t.p] 28 (0,0)):=by rw [← eY2]; exact Hs0 _ hY1
 have oY2:∀ k,k≠Q+1→Y2.heap[k]? = Y1.heap[k]?:=fun k hk=>by rw [← eY2]; exact Below.heap_setCell _ _ _ _ hk
 have zY2:Y2§=Y1§:=by rw [← eY2]; simp [World.setCell]
 have HTY2:Hid (Mv Y1 Y2 (fun k=>k=Q+1)):=by show Mv _ _ _; rw [← eY2]; exact Mv.setCell (F:=fun k=>k=Q+1) (a:=⟨Q+1,3,none⟩) (Mv.refl _ _) (.inl rfl) _
 have hY2t:Y2.heap[Q]? = some (.cells #[zU 3,.string t.x,zU t.ty,zI t.n,zI t.p] 143 (0,0)):=(oY2 _ (by omega)).trans hTV
 rw [eY2]
 clear eY2 k0 k1 k2 k3 m2 f2 m3 f3 hTV hY1
 have hTV:=hY2t
 clear hY2t
 have HZY2:Hid (Y2.heap[w§]? = some (.cells zA9 28 (0,0))):=(oY2 _ (by omega)).trans HZY1.out
 have HHY2:Hid (Lv Y2 b K (t :: ts)):=HHY1.out.off HLW.out (fun k hk=>oY2 k (by omega))
 have HMY2:=zH ((HMY1.out:Mv w Y1 (fun k=>k=b)).trans HTY2.out (fun k e=>.inr (by have:=HBW.out; omega)))
 have k0:Y2.cell? ⟨Q,0,none⟩=some (zU 3):=Co hTV 0
 have k1:Y2.cell? ⟨Q,1,none⟩=some (.string t.x):=Co hTV 1
 have k2:Y2.cell? ⟨Q,2,none⟩=some (zU t.ty):=Co hTV 2
 have k3:Y2.cell? ⟨Q,3,none⟩=some (zI t.n):=Co hTV 3
 have m2:Y2.cell? ⟨Q+1,2,none⟩=some (zU t.ty):=Co hY2 2
 have f2:=Fo hY2 2
 have m3:Y2.cell? ⟨Q+1,3,none⟩=some (zI t.n):=Co hY2 3
 have f3:=Fo hY2 3
 go_upto_region 16 with fail
 clear k0 k1 k2 k3 m2 f2 m3 f3
 obtain⟨i,c3,g3,hmx,hL,hM,ho,hsz⟩:=HHY2.out.at'
 go_upto_region 17 with fail
 obtain⟨Z,eZ⟩:∃ Z,Y2.setCell ⟨b,3,none⟩ (zI ((i:Int)+1))=Z:=⟨_,rfl⟩
 rw [eZ] at hL hM ho ⊢
 have hbw:=HBW.out
 have hNZ:Z.heap[Q+1]? = some (.cells #[zU 1,zU 0,zU t.ty,zI t.n,zU 0,.string ⟨#[]⟩,.slice none 0 0,zI t.p] 28 (0,0)):=(ho _ (by omega)).trans hY2
 have HZZ:Hid (Z.heap[w§]? = some (.cells zA9 28 (0,0))):=(ho _ (by omega)).trans HZY2.out
 have HLZ:=hL.hid
 have HMZ:=zH (HMY2.out.trans hM (fun k e=>.inl e))
 clear eZ hL hM ho hsz c3 g3 hmx
 obtain⟨x0,x1,x2,x3,x4,x5,x6,x7⟩:=cl8 hNZ
 obtain⟨z0,z1,z2,z3,z4,z5,z6,z7⟩:=cl8 HZZ.out
 obtain⟨q0,q1,q2,q3,q4,q5,q6,q7⟩:=fz8 HZZ.out
 obtain⟨Y,eY,hY1,hY2,hY3,hY4⟩:=fin8 HZZ.out (zU 1) (zU 0) (zU t.ty) (zI t.n) (zU 0) (.string ⟨#[]⟩) (.slice none 0 0) (zI t.p)
 have HF:Hid (Lv Y b K ts∧Mv w Y (fun k=>k=b)∧Y.heap[w§]? = some (.cells #[zU 1,zU 0,zU t.ty,zI t.n,zU 0,.string ⟨#[]⟩,.slice none 0 0,zI t.p] 28 (0,0))):=by
  refine⟨?_,hY4 w _ HMZ.out (Nat.le_refl _),hY1⟩
  exact HLZ.out.off HLW.out (fun k hk=>hY3 k (by omega))
 have HEY:Hid (_=Y):=eY
 clear hNZ eY hY1 hY2 hY3 hY4
 go_wp2_with fail
 rw [HEY.out]
 exact bodyPost_ret (Rt2 (p:=2) (u:=3) (ty:=28) rfl _ _ w§ 28 #[zU 1,zU 0,zU t.ty,zI t.n,zU 0,.string ⟨#[]⟩,.slice none 0 0,zI t.p] (0,0) _ rfl HF.out.2.2 Tryz.underlying28 rfl zK) rfl ⟨rfl,HF.out.1,HF.out.2.1⟩
theorem lit_true {w:World}{b:Nat}{K:PK}{t:Tk}{ts:List Tk}(h:Lv w b K (t :: ts)) (hk:t.k=1) (hx:t.x=Zs) :
  Calls zG 128 #[zP b] w fun e w'=>e=.returned (.tuple #[.agg #[zU 1,zU 0,zU 5,zI 1,zU 0,.string ⟨#[]⟩,.slice none 0 0,zI t.p],.bool true])∧Lv w' b K ts∧Mv w w' (fun k=>k=b):=by
 have hb0:=Bn w (.cells zA9 28)
 have hn0:=Hn w (.cells zA9 28)
 have HB0:=zH hb0
 have HN0:=zH hn0
 have HBW:Hid (b < w§):=h.lt
 have HLW:Hid (Lw w§ b K):=h.lw
 have cN:=live_now (h.on hb0)
 have HH:=(h.on hb0).hid
 unfold tkA at cN
 clear h hb0 hn0
 rw [hk,hx] at cN
 clear hk hx
 go_enter Tryz.func128,Tryz.ntmps128
 go_wp2_with fail
 refine cN.mono ?_
 rintro e w1 ⟨rfl,hb⟩
 have HB1:=zH (below2 HB0.out hb)
 have HH1:=(HH.out.on hb).hid
 have HN1:Hid (w1.heap[w§]? = some (.cells zA9 28 (0,0))):=(hb.block _ (by rw [Sa]; omega)).trans HN0.out
 clear cN hb HB0 HH HN0
 go_upto_region 4 with fail
 have e1:=Bn w1 (.cells #[zU 1,.string Zs,zU t.ty,zI t.n,zI t.p] 143)
 have e2:=Bn (w1.alloc (.cells #[zU 1,.string Zs,zU t.ty,zI t.n,zI t.p] 143)) (.cells #[zU 1,zU 0,zU 0,zI 0,zU 0,.string ⟨#[]⟩,.slice none 0 0,zI t.p] 28)
 have s1:=Sa w1 (.cells #[zU 1,.string Zs,zU t.ty,zI t.n,zI t.p] 143)
 have t1:=Hn w1 (.cells #[zU 1,.string Zs,zU t.ty,zI t.n,zI t.p] 143)
 have t2:=Hn (w1.alloc (.cells #[zU 1,.string Zs,zU t.ty,zI t.n,zI t.p] 143)) (.cells #[zU 1,zU 0,zU 0,zI 0,zU 0,.string ⟨#[]⟩,.slice none 0 0,zI t.p] 28)
 rw [s1] at t2
 obtain⟨V,eV⟩:∃ V,(w1.alloc (.cells #[zU 1,.string Zs,zU t.ty,zI t.n,zI t.p] 143)).alloc (.cells #[zU 1,zU 0,zU 0,zI 0,zU 0,.string ⟨#[]⟩,.slice none 0 0,zI t.p] 28)=V:=⟨_,rfl⟩
 have hTV:V.heap[w1§]? = some (.cells #[zU 1,.string Zs,zU t.ty,zI t.n,zI t.p] 143 (0,0)):=by rw [← eV]; exact (e2.block _ (by rw [s1]; omega)).trans t1
 have hNV:V.heap[w1§+1]? = some (.cells #[zU 1,zU 0,zU 0,zI 0,zU 0,.string ⟨#[]⟩,.slice none 0 0,zI t.p] 28 (0,0)):=by rw [← eV]; exact t2
 have hBV:Below w1§ w1 V:=by rw [← eV]; exact below2 e1 e2
 have hlw:w§ < w1§:=(Array.getElem?_eq_some_iff.1 HN1.out).1
 have HZV:Hid (V.heap[w§]? = some (.cells zA9 28 (0,0))):=(hBV.block _ hlw).trans HN1.out
 have HHV:=(HH1.out.on hBV).hid
 have HBV:=zH (below2 HB1.out hBV)
 rw [eV]
 clear e1 e2 s1 t1 t2 eV hBV HB1 HH1 HN1
 obtain⟨Q,eQ⟩:∃ Q,w1§=Q:=⟨_,rfl⟩
 rw [eQ] at hTV hNV hlw ⊢
 clear eQ
 have k0:V.cell? ⟨Q,0,none⟩=some (zU 1):=Co hTV 0
 have k1:V.cell? ⟨Q,1,none⟩=some (.string Zs):=Co hTV 1
 have k2:V.cell? ⟨Q,2,none⟩=some (zU t.ty):=Co hTV 2
 have k3:V.cell? ⟨Q,3,none⟩=some (zI t.n):=Co hTV 3
 have m2:V.cell? ⟨Q+1,2,none⟩=some (zU 0):=Co hNV 2
 have f2:=Fo hNV 2
 have m3:V.cell? ⟨Q+1,3,none⟩=some (zI 0):=Co hNV 3
 have f3:=Fo hNV 3
 go_upto_region 9 with fail
 obtain⟨Y1,eY1⟩:∃ Y,V.setCell ⟨Q+1,2,none⟩ (zU 5)=Y:=⟨_,rfl⟩
 have hY1:Y1.heap[Q+1]? = some (.cells #[zU 1,zU 0,zU 5,zI 0,zU 0,.string ⟨#[]⟩,.slice none 0 0,zI t.p] 28 (0,0)):=by rw [← eY1]; exact Hs0 _ hNV
 have oY1:∀ k,k≠Q+1→Y1.heap[k]? = V.heap[k]?:=fun k hk=>by rw [← eY1]; exact Below.heap_setCell _ _ _ _ hk
 have zY1:Y1§=V§:=by rw [← eY1]; simp [World.setCell]
 have HTY1:Hid (Mv V Y1 (fun k=>k=Q+1)):=by show Mv _ _ _; rw [← eY1]; exact Mv.setCell (F:=fun k=>k=Q+1) (a:=⟨Q+1,2,none⟩) (Mv.refl _ _) (.inl rfl) _
 have hY1t:Y1.heap[Q]? = some (.cells #[zU 1,.string Zs,zU t.ty,zI t.n,zI t.p] 143 (0,0)):=(oY1 _ (by omega)).trans hTV
 rw [eY1]
 clear eY1 k0 k1 k2 k3 m2 f2 m3 f3 hTV hNV
 have hTV:=hY1t
 clear hY1t
 have HZY1:Hid (Y1.heap[w§]? = some (.cells zA9 28 (0,0))):=(oY1 _ (by omega)).trans HZV.out
 have HHY1:Hid (Lv Y1 b K (t :: ts)):=HHV.out.off HLW.out (fun k hk=>oY1 k (by omega))
 have HMY1:=zH ((Mv.ofBelow HBV.out:Mv w V (fun k=>k=b)).trans HTY1.out (fun k e=>.inr (by have:=HBW.out; omega)))
 have k0:Y1.cell? ⟨Q,0,none⟩=some (zU 1):=Co hTV 0
 have k1:Y1.cell? ⟨Q,1,none⟩=some (.string Zs):=Co hTV 1
 have k2:Y1.cell? ⟨Q,2,none⟩=some (zU t.ty):=Co hTV 2
 have k3:Y1.cell? ⟨Q,3,none⟩=some (zI t.n):=Co hTV 3
 have m2:Y1.cell? ⟨Q+1,2,none⟩=some (zU 5):=Co hY1 2
 have f2:=Fo hY1 2
 have m3:Y1.cell? ⟨Q+1,3,none⟩=some (zI 0):=Co hY1 3
 have f3:=Fo hY1 3
 go_upto_region 16 with fail
 obtain⟨Y2,eY2⟩:∃ Y,Y1.setCell ⟨Q+1,3,none⟩ (zI 1)=Y:=⟨_,rfl⟩
 have hY2:Y2.heap[Q+1]? = some (.cells #[zU 1,zU 0,zU 5,zI 1,zU 0,.string ⟨#[]⟩,.slice none 0 0,zI t.p] 28 (0,0)):=by rw [← eY2]; exact Hs0 _ hY1
 have oY2:∀ k,k≠Q+1→Y2.heap[k]? = Y1.heap[k]?:=fun k hk=>by rw [← eY2]; exact Below.heap_setCell _ _ _ _ hk
 have zY2:Y2§=Y1§:=by rw [← eY2]; simp [World.setCell]
 have HTY2:Hid (Mv Y1 Y2 (fun k=>k=Q+1)):=by show Mv _ _ _; rw [← eY2]; exact Mv.setCell (F:=fun k=>k=Q+1) (a:=⟨Q+1,3,none⟩) (Mv.refl _ _) (.inl rfl) _
 have hY2t:Y2.heap[Q]? = some (.cells #[zU 1,.string Zs,zU t.ty,zI t.n,zI t.p] 143 (0,0)):=(oY2 _ (by omega)).trans hTV
 rw [eY2]
 clear eY2 k0 k1 k2 k3 m2 f2 m3 f3 hTV hY1
 have hTV:=hY2t
 clear hY2t
 have HZY2:Hid (Y2.heap[w§]? = some (.cells zA9 28 (0,0))):=(oY2 _ (by omega)).trans HZY1.out
 have HHY2:Hid (Lv Y2 b K (t :: ts)):=HHY1.out.off HLW.out (fun k hk=>oY2 k (by omega))
 have HMY2:=zH ((HMY1.out:Mv w Y1 (fun k=>k=b)).trans HTY2.out (fun k e=>.inr (by have:=HBW.out; omega)))
 have k0:Y2.cell? ⟨Q,0,none⟩=some (zU 1):=Co hTV 0
 have k1:Y2.cell? ⟨Q,1,none⟩=some (.string Zs):=Co hTV 1
 have k2:Y2.cell? ⟨Q,2,none⟩=some (zU t.ty):=Co hTV 2
 have k3:Y2.cell? ⟨Q,3,none⟩=some (zI t.n):=Co hTV 3
 have m2:Y2.cell? ⟨Q+1,2,none⟩=some (zU 5):=Co hY2 2
 have f2:=Fo hY2 2
 have m3:Y2.cell? ⟨Q+1,3,none⟩=some (zI 1):=Co hY2 3
 have f3:=Fo hY2 3
 go_upto_region 16 with fail
 clear k0 k1 k2 k3 m2 f2 m3 f3
 obtain⟨i,c3,g3,hmx,hL,hM,ho,hsz⟩:=HHY2.out.at'
 go_upto_region 17 with fail
 obtain⟨Z,eZ⟩:∃ Z,Y2.setCell ⟨b,3,none⟩ (zI ((i:Int)+1))=Z:=⟨_,rfl⟩
 rw [eZ] at hL hM ho ⊢
 have hbw:=HBW.out
 have hNZ:Z.heap[Q+1]? = some (.cells #[zU 1,zU 0,zU 5,zI 1,zU 0,.string ⟨#[]⟩,.slice none 0 0,zI t.p] 28 (0,0)):=(ho _ (by omega)).trans hY2
 have HZZ:Hid (Z.heap[w§]? = some (.cells zA9 28 (0,0))):=(ho _ (by omega)).trans HZY2.out
 have HLZ:=hL.hid
 have HMZ:=zH (HMY2.out.trans hM (fun k e=>.inl e))
 clear eZ hL hM ho hsz c3 g3 hmx
 obtain⟨x0,x1,x2,x3,x4,x5,x6,x7⟩:=cl8 hNZ
 obtain⟨z0,z1,z2,z3,z4,z5,z6,z7⟩:=cl8 HZZ.out
 obtain⟨q0,q1,q2,q3,q4,q5,q6,q7⟩:=fz8 HZZ.out
 obtain⟨Y,eY,hY1,hY2,hY3,hY4⟩:=fin8 HZZ.out (zU 1) (zU 0) (zU 5) (zI 1) (zU 0) (.string ⟨#[]⟩) (.slice none 0 0) (zI t.p)
 have HF:Hid (Lv Y b K ts∧Mv w Y (fun k=>k=b)∧Y.heap[w§]? = some (.cells #[zU 1,zU 0,zU 5,zI 1,zU 0,.string ⟨#[]⟩,.slice none 0 0,zI t.p] 28 (0,0))):=by
  refine⟨?_,hY4 w _ HMZ.out (Nat.le_refl _),hY1⟩
  exact HLZ.out.off HLW.out (fun k hk=>hY3 k (by omega))
 have HEY:Hid (_=Y):=eY
 clear hNZ eY hY1 hY2 hY3 hY4
 go_wp2_with fail
 rw [HEY.out]
 exact bodyPost_ret (Rt2 (p:=2) (u:=3) (ty:=28) rfl _ _ w§ 28 #[zU 1,zU 0,zU 5,zI 1,zU 0,.string ⟨#[]⟩,.slice none 0 0,zI t.p] (0,0) _ rfl HF.out.2.2 Tryz.underlying28 rfl zK) rfl ⟨rfl,HF.out.1,HF.out.2.1⟩
theorem lit_false {w:World}{b:Nat}{K:PK}{t:Tk}{ts:List Tk}(h:Lv w b K (t :: ts)) (hk:t.k=1) (hx:t.x=Zz) :
  Calls zG 128 #[zP b] w fun e w'=>e=.returned (.tuple #[.agg #[zU 1,zU 0,zU 5,zI 0,zU 0,.string ⟨#[]⟩,.slice none 0 0,zI t.p],.bool true])∧Lv w' b K ts∧Mv w w' (fun k=>k=b):=by
 have hb0:=Bn w (.cells zA9 28)
 have hn0:=Hn w (.cells zA9 28)
 have HB0:=zH hb0
 have HN0:=zH hn0
 have HBW:Hid (b < w§):=h.lt
 have HLW:Hid (Lw w§ b K):=h.lw
 have cN:=live_now (h.on hb0)
 have HH:=(h.on hb0).hid
 unfold tkA at cN
 clear h hb0 hn0
 rw [hk,hx] at cN
 clear hk hx
 go_enter Tryz.func128,Tryz.ntmps128
 go_wp2_with fail
 refine cN.mono ?_
 rintro e w1 ⟨rfl,hb⟩
 have HB1:=zH (below2 HB0.out hb)
 have HH1:=(HH.out.on hb).hid
 have HN1:Hid (w1.heap[w§]? = some (.cells zA9 28 (0,0))):=(hb.block _ (by rw [Sa]; omega)).trans HN0.out
 clear cN hb HB0 HH HN0
 go_upto_region 4 with fail
 have e1:=Bn w1 (.cells #[zU 1,.string Zz,zU t.ty,zI t.n,zI t.p] 143)
 have e2:=Bn (w1.alloc (.cells #[zU 1,.string Zz,zU t.ty,zI t.n,zI t.p] 143)) (.cells #[zU 1,zU 0,zU 0,zI 0,zU 0,.string ⟨#[]⟩,.slice none 0 0,zI t.p] 28)
 have s1:=Sa w1 (.cells #[zU 1,.string Zz,zU t.ty,zI t.n,zI t.p] 143)
 have t1:=Hn w1 (.cells #[zU 1,.string Zz,zU t.ty,zI t.n,zI t.p] 143)
 have t2:=Hn (w1.alloc (.cells #[zU 1,.string Zz,zU t.ty,zI t.n,zI t.p] 143)) (.cells #[zU 1,zU 0,zU 0,zI 0,zU 0,.string ⟨#[]⟩,.slice none 0 0,zI t.p] 28)
 rw [s1] at t2
 obtain⟨V,eV⟩:∃ V,(w1.alloc (.cells #[zU 1,.string Zz,zU t.ty,zI t.n,zI t.p] 143)).alloc (.cells #[zU 1,zU 0,zU 0,zI 0,zU 0,.string ⟨#[]⟩,.slice none 0 0,zI t.p] 28)=V:=⟨_,rfl⟩
 have hTV:V.heap[w1§]? = some (.cells #[zU 1,.string Zz,zU t.ty,zI t.n,zI t.p] 143 (0,0)):=by rw [← eV]; exact (e2.block _ (by rw [s1]; omega)).trans t1
 have hNV:V.heap[w1§+1]? = some (.cells #[zU 1,zU 0,zU 0,zI 0,zU 0,.string ⟨#[]⟩,.slice none 0 0,zI t.p] 28 (0,0)):=by rw [← eV]; exact t2
 have hBV:Below w1§ w1 V:=by rw [← eV]; exact below2 e1 e2
 have hlw:w§ < w1§:=(Array.getElem?_eq_some_iff.1 HN1.out).1
 have HZV:Hid (V.heap[w§]? = some (.cells zA9 28 (0,0))):=(hBV.block _ hlw).trans HN1.out
 have HHV:=(HH1.out.on hBV).hid
 have HBV:=zH (below2 HB1.out hBV)
 rw [eV]
 clear e1 e2 s1 t1 t2 eV hBV HB1 HH1 HN1
 obtain⟨Q,eQ⟩:∃ Q,w1§=Q:=⟨_,rfl⟩
 rw [eQ] at hTV hNV hlw ⊢
 clear eQ
 have k0:V.cell? ⟨Q,0,none⟩=some (zU 1):=Co hTV 0
 have k1:V.cell? ⟨Q,1,none⟩=some (.string Zz):=Co hTV 1
 have k2:V.cell? ⟨Q,2,none⟩=some (zU t.ty):=Co hTV 2
 have k3:V.cell? ⟨Q,3,none⟩=some (zI t.n):=Co hTV 3
 have m2:V.cell? ⟨Q+1,2,none⟩=some (zU 0):=Co hNV 2
 have f2:=Fo hNV 2
 have m3:V.cell? ⟨Q+1,3,none⟩=some (zI 0):=Co hNV 3
 have f3:=Fo hNV 3
 go_upto_region 9 with fail
 obtain⟨Y1,eY1⟩:∃ Y,V.setCell ⟨Q+1,2,none⟩ (zU 5)=Y:=⟨_,rfl⟩
 have hY1:Y1.heap[Q+1]? = some (.cells #[zU 1,zU 0,zU 5,zI 0,zU 0,.string ⟨#[]⟩,.slice none 0 0,zI t.p] 28 (0,0)):=by rw [← eY1]; exact Hs0 _ hNV
 have oY1:∀ k,k≠Q+1→Y1.heap[k]? = V.heap[k]?:=fun k hk=>by rw [← eY1]; exact Below.heap_setCell _ _ _ _ hk
 have zY1:Y1§=V§:=by rw [← eY1]; simp [World.setCell]
 have HTY1:Hid (Mv V Y1 (fun k=>k=Q+1)):=by show Mv _ _ _; rw [← eY1]; exact Mv.setCell (F:=fun k=>k=Q+1) (a:=⟨Q+1,2,none⟩) (Mv.refl _ _) (.inl rfl) _
 have hY1t:Y1.heap[Q]? = some (.cells #[zU 1,.string Zz,zU t.ty,zI t.n,zI t.p] 143 (0,0)):=(oY1 _ (by omega)).trans hTV
 rw [eY1]
 clear eY1 k0 k1 k2 k3 m2 f2 m3 f3 hTV hNV
 have hTV:=hY1t
 clear hY1t
 have HZY1:Hid (Y1.heap[w§]? = some (.cells zA9 28 (0,0))):=(oY1 _ (by omega)).trans HZV.out
 have HHY1:Hid (Lv Y1 b K (t :: ts)):=HHV.out.off HLW.out (fun k hk=>oY1 k (by omega))
 have HMY1:=zH ((Mv.ofBelow HBV.out:Mv w V (fun k=>k=b)).trans HTY1.out (fun k e=>.inr (by have:=HBW.out; omega)))
 have k0:Y1.cell? ⟨Q,0,none⟩=some (zU 1):=Co hTV 0
 have k1:Y1.cell? ⟨Q,1,none⟩=some (.string Zz):=Co hTV 1
 have k2:Y1.cell? ⟨Q,2,none⟩=some (zU t.ty):=Co hTV 2
 have k3:Y1.cell? ⟨Q,3,none⟩=some (zI t.n):=Co hTV 3
 have m2:Y1.cell? ⟨Q+1,2,none⟩=some (zU 5):=Co hY1 2
 have f2:=Fo hY1 2
 have m3:Y1.cell? ⟨Q+1,3,none⟩=some (zI 0):=Co hY1 3
 have f3:=Fo hY1 3
 go_upto_region 16 with fail
 clear k0 k1 k2 k3 m2 f2 m3 f3
 obtain⟨i,c3,g3,hmx,hL,hM,ho,hsz⟩:=HHY1.out.at'
 go_upto_region 17 with fail
 obtain⟨Z,eZ⟩:∃ Z,Y1.setCell ⟨b,3,none⟩ (zI ((i:Int)+1))=Z:=⟨_,rfl⟩
 rw [eZ] at hL hM ho ⊢
 have hbw:=HBW.out
 have hNZ:Z.heap[Q+1]? = some (.cells #[zU 1,zU 0,zU 5,zI 0,zU 0,.string ⟨#[]⟩,.slice none 0 0,zI t.p] 28 (0,0)):=(ho _ (by omega)).trans hY1
 have HZZ:Hid (Z.heap[w§]? = some (.cells zA9 28 (0,0))):=(ho _ (by omega)).trans HZY1.out
 have HLZ:=hL.hid
 have HMZ:=zH (HMY1.out.trans hM (fun k e=>.inl e))
 clear eZ hL hM ho hsz c3 g3 hmx
 obtain⟨x0,x1,x2,x3,x4,x5,x6,x7⟩:=cl8 hNZ
 obtain⟨z0,z1,z2,z3,z4,z5,z6,z7⟩:=cl8 HZZ.out
 obtain⟨q0,q1,q2,q3,q4,q5,q6,q7⟩:=fz8 HZZ.out
 obtain⟨Y,eY,hY1,hY2,hY3,hY4⟩:=fin8 HZZ.out (zU 1) (zU 0) (zU 5) (zI 0) (zU 0) (.string ⟨#[]⟩) (.slice none 0 0) (zI t.p)
 have HF:Hid (Lv Y b K ts∧Mv w Y (fun k=>k=b)∧Y.heap[w§]? = some (.cells #[zU 1,zU 0,zU 5,zI 0,zU 0,.string ⟨#[]⟩,.slice none 0 0,zI t.p] 28 (0,0))):=by
  refine⟨?_,hY4 w _ HMZ.out (Nat.le_refl _),hY1⟩
  exact HLZ.out.off HLW.out (fun k hk=>hY3 k (by omega))
 have HEY:Hid (_=Y):=eY
 clear hNZ eY hY1 hY2 hY3 hY4
 go_wp2_with fail
 rw [HEY.out]
 exact bodyPost_ret (Rt2 (p:=2) (u:=3) (ty:=28) rfl _ _ w§ 28 #[zU 1,zU 0,zU 5,zI 0,zU 0,.string ⟨#[]⟩,.slice none 0 0,zI t.p] (0,0) _ rfl HF.out.2.2 Tryz.underlying28 rfl zK) rfl ⟨rfl,HF.out.1,HF.out.2.1⟩
theorem lit_buy {w:World}{b:Nat}{K:PK}{t:Tk}{ts:List Tk}(h:Lv w b K (t :: ts)) (hk:t.k=1) (hx:t.x=Zr) :
  Calls zG 128 #[zP b] w fun e w'=>e=.returned (.tuple #[.agg #[zU 1,zU 0,zU 6,zI 1,zU 0,.string ⟨#[]⟩,.slice none 0 0,zI t.p],.bool true])∧Lv w' b K ts∧Mv w w' (fun k=>k=b):=by
 have hb0:=Bn w (.cells zA9 28)
 have hn0:=Hn w (.cells zA9 28)
 have HB0:=zH hb0
 have HN0:=zH hn0
 have HBW:Hid (b < w§):=h.lt
 have HLW:Hid (Lw w§ b K):=h.lw
 have cN:=live_now (h.on hb0)
 have HH:=(h.on hb0).hid
 unfold tkA at cN
 clear h hb0 hn0
 rw [hk,hx] at cN
 clear hk hx
 go_enter Tryz.func128,Tryz.ntmps128
 go_wp2_with fail
 refine cN.mono ?_
 rintro e w1 ⟨rfl,hb⟩
 have HB1:=zH (below2 HB0.out hb)
 have HH1:=(HH.out.on hb).hid
 have HN1:Hid (w1.heap[w§]? = some (.cells zA9 28 (0,0))):=(hb.block _ (by rw [Sa]; omega)).trans HN0.out
 clear cN hb HB0 HH HN0
 go_upto_region 4 with fail
 have e1:=Bn w1 (.cells #[zU 1,.string Zr,zU t.ty,zI t.n,zI t.p] 143)
 have e2:=Bn (w1.alloc (.cells #[zU 1,.string Zr,zU t.ty,zI t.n,zI t.p] 143)) (.cells #[zU 1,zU 0,zU 0,zI 0,zU 0,.string ⟨#[]⟩,.slice none 0 0,zI t.p] 28)
 have s1:=Sa w1 (.cells #[zU 1,.string Zr,zU t.ty,zI t.n,zI t.p] 143)
 have t1:=Hn w1 (.cells #[zU 1,.string Zr,zU t.ty,zI t.n,zI t.p] 143)
 have t2:=Hn (w1.alloc (.cells #[zU 1,.string Zr,zU t.ty,zI t.n,zI t.p] 143)) (.cells #[zU 1,zU 0,zU 0,zI 0,zU 0,.string ⟨#[]⟩,.slice none 0 0,zI t.p] 28)
 rw [s1] at t2
 obtain⟨V,eV⟩:∃ V,(w1.alloc (.cells #[zU 1,.string Zr,zU t.ty,zI t.n,zI t.p] 143)).alloc (.cells #[zU 1,zU 0,zU 0,zI 0,zU 0,.string ⟨#[]⟩,.slice none 0 0,zI t.p] 28)=V:=⟨_,rfl⟩
 have hTV:V.heap[w1§]? = some (.cells #[zU 1,.string Zr,zU t.ty,zI t.n,zI t.p] 143 (0,0)):=by rw [← eV]; exact (e2.block _ (by rw [s1]; omega)).trans t1
 have hNV:V.heap[w1§+1]? = some (.cells #[zU 1,zU 0,zU 0,zI 0,zU 0,.string ⟨#[]⟩,.slice none 0 0,zI t.p] 28 (0,0)):=by rw [← eV]; exact t2
 have hBV:Below w1§ w1 V:=by rw [← eV]; exact below2 e1 e2
 have hlw:w§ < w1§:=(Array.getElem?_eq_some_iff.1 HN1.out).1
 have HZV:Hid (V.heap[w§]? = some (.cells zA9 28 (0,0))):=(hBV.block _ hlw).trans HN1.out
 have HHV:=(HH1.out.on hBV).hid
 have HBV:=zH (below2 HB1.out hBV)
 rw [eV]
 clear e1 e2 s1 t1 t2 eV hBV HB1 HH1 HN1
 obtain⟨Q,eQ⟩:∃ Q,w1§=Q:=⟨_,rfl⟩
 rw [eQ] at hTV hNV hlw ⊢
 clear eQ
 have k0:V.cell? ⟨Q,0,none⟩=some (zU 1):=Co hTV 0
 have k1:V.cell? ⟨Q,1,none⟩=some (.string Zr):=Co hTV 1
 have k2:V.cell? ⟨Q,2,none⟩=some (zU t.ty):=Co hTV 2
 have k3:V.cell? ⟨Q,3,none⟩=some (zI t.n):=Co hTV 3
 have m2:V.cell? ⟨Q+1,2,none⟩=some (zU 0):=Co hNV 2
 have f2:=Fo hNV 2
 have m3:V.cell? ⟨Q+1,3,none⟩=some (zI 0):=Co hNV 3
 have f3:=Fo hNV 3
 go_upto_region 13 with fail
 obtain⟨Y1,eY1⟩:∃ Y,V.setCell ⟨Q+1,2,none⟩ (zU 6)=Y:=⟨_,rfl⟩
 have hY1:Y1.heap[Q+1]? = some (.cells #[zU 1,zU 0,zU 6,zI 0,zU 0,.string ⟨#[]⟩,.slice none 0 0,zI t.p] 28 (0,0)):=by rw [← eY1]; exact Hs0 _ hNV
 have oY1:∀ k,k≠Q+1→Y1.heap[k]? = V.heap[k]?:=fun k hk=>by rw [← eY1]; exact Below.heap_setCell _ _ _ _ hk
 have zY1:Y1§=V§:=by rw [← eY1]; simp [World.setCell]
 have HTY1:Hid (Mv V Y1 (fun k=>k=Q+1)):=by show Mv _ _ _; rw [← eY1]; exact Mv.setCell (F:=fun k=>k=Q+1) (a:=⟨Q+1,2,none⟩) (Mv.refl _ _) (.inl rfl) _
 have hY1t:Y1.heap[Q]? = some (.cells #[zU 1,.string Zr,zU t.ty,zI t.n,zI t.p] 143 (0,0)):=(oY1 _ (by omega)).trans hTV
 rw [eY1]
 clear eY1 k0 k1 k2 k3 m2 f2 m3 f3 hTV hNV
 have hTV:=hY1t
 clear hY1t
 have HZY1:Hid (Y1.heap[w§]? = some (.cells zA9 28 (0,0))):=(oY1 _ (by omega)).trans HZV.out
 have HHY1:Hid (Lv Y1 b K (t :: ts)):=HHV.out.off HLW.out (fun k hk=>oY1 k (by omega))
 have HMY1:=zH ((Mv.ofBelow HBV.out:Mv w V (fun k=>k=b)).trans HTY1.out (fun k e=>.inr (by have:=HBW.out; omega)))
 have k0:Y1.cell? ⟨Q,0,none⟩=some (zU 1):=Co hTV 0
 have k1:Y1.cell? ⟨Q,1,none⟩=some (.string Zr):=Co hTV 1
 have k2:Y1.cell? ⟨Q,2,none⟩=some (zU t.ty):=Co hTV 2
 have k3:Y1.cell? ⟨Q,3,none⟩=some (zI t.n):=Co hTV 3
 have m2:Y1.cell? ⟨Q+1,2,none⟩=some (zU 6):=Co hY1 2
 have f2:=Fo hY1 2
 have m3:Y1.cell? ⟨Q+1,3,none⟩=some (zI 0):=Co hY1 3
 have f3:=Fo hY1 3
 go_upto_region 14 with fail
 obtain⟨Y2,eY2⟩:∃ Y,Y1.setCell ⟨Q+1,3,none⟩ (zI 1)=Y:=⟨_,rfl⟩
 have hY2:Y2.heap[Q+1]? = some (.cells #[zU 1,zU 0,zU 6,zI 1,zU 0,.string ⟨#[]⟩,.slice none 0 0,zI t.p] 28 (0,0)):=by rw [← eY2]; exact Hs0 _ hY1
 have oY2:∀ k,k≠Q+1→Y2.heap[k]? = Y1.heap[k]?:=fun k hk=>by rw [← eY2]; exact Below.heap_setCell _ _ _ _ hk
 have zY2:Y2§=Y1§:=by rw [← eY2]; simp [World.setCell]
 have HTY2:Hid (Mv Y1 Y2 (fun k=>k=Q+1)):=by show Mv _ _ _; rw [← eY2]; exact Mv.setCell (F:=fun k=>k=Q+1) (a:=⟨Q+1,3,none⟩) (Mv.refl _ _) (.inl rfl) _
 have hY2t:Y2.heap[Q]? = some (.cells #[zU 1,.string Zr,zU t.ty,zI t.n,zI t.p] 143 (0,0)):=(oY2 _ (by omega)).trans hTV
 rw [eY2]
 clear eY2 k0 k1 k2 k3 m2 f2 m3 f3 hTV hY1
 have hTV:=hY2t
 clear hY2t
 have HZY2:Hid (Y2.heap[w§]? = some (.cells zA9 28 (0,0))):=(oY2 _ (by omega)).trans HZY1.out
 have HHY2:Hid (Lv Y2 b K (t :: ts)):=HHY1.out.off HLW.out (fun k hk=>oY2 k (by omega))
 have HMY2:=zH ((HMY1.out:Mv w Y1 (fun k=>k=b)).trans HTY2.out (fun k e=>.inr (by have:=HBW.out; omega)))
 have k0:Y2.cell? ⟨Q,0,none⟩=some (zU 1):=Co hTV 0
 have k1:Y2.cell? ⟨Q,1,none⟩=some (.string Zr):=Co hTV 1
 have k2:Y2.cell? ⟨Q,2,none⟩=some (zU t.ty):=Co hTV 2
 have k3:Y2.cell? ⟨Q,3,none⟩=some (zI t.n):=Co hTV 3
 have m2:Y2.cell? ⟨Q+1,2,none⟩=some (zU 6):=Co hY2 2
 have f2:=Fo hY2 2
 have m3:Y2.cell? ⟨Q+1,3,none⟩=some (zI 1):=Co hY2 3
 have f3:=Fo hY2 3
 go_upto_region 16 with fail
 clear k0 k1 k2 k3 m2 f2 m3 f3
 obtain⟨i,c3,g3,hmx,hL,hM,ho,hsz⟩:=HHY2.out.at'
 go_upto_region 17 with fail
 obtain⟨Z,eZ⟩:∃ Z,Y2.setCell ⟨b,3,none⟩ (zI ((i:Int)+1))=Z:=⟨_,rfl⟩
 rw [eZ] at hL hM ho ⊢
 have hbw:=HBW.out
 have hNZ:Z.heap[Q+1]? = some (.cells #[zU 1,zU 0,zU 6,zI 1,zU 0,.string ⟨#[]⟩,.slice none 0 0,zI t.p] 28 (0,0)):=(ho _ (by omega)).trans hY2
 have HZZ:Hid (Z.heap[w§]? = some (.cells zA9 28 (0,0))):=(ho _ (by omega)).trans HZY2.out
 have HLZ:=hL.hid
 have HMZ:=zH (HMY2.out.trans hM (fun k e=>.inl e))
 clear eZ hL hM ho hsz c3 g3 hmx
 obtain⟨x0,x1,x2,x3,x4,x5,x6,x7⟩:=cl8 hNZ
 obtain⟨z0,z1,z2,z3,z4,z5,z6,z7⟩:=cl8 HZZ.out
 obtain⟨q0,q1,q2,q3,q4,q5,q6,q7⟩:=fz8 HZZ.out
 obtain⟨Y,eY,hY1,hY2,hY3,hY4⟩:=fin8 HZZ.out (zU 1) (zU 0) (zU 6) (zI 1) (zU 0) (.string ⟨#[]⟩) (.slice none 0 0) (zI t.p)
 have HF:Hid (Lv Y b K ts∧Mv w Y (fun k=>k=b)∧Y.heap[w§]? = some (.cells #[zU 1,zU 0,zU 6,zI 1,zU 0,.string ⟨#[]⟩,.slice none 0 0,zI t.p] 28 (0,0))):=by
  refine⟨?_,hY4 w _ HMZ.out (Nat.le_refl _),hY1⟩
  exact HLZ.out.off HLW.out (fun k hk=>hY3 k (by omega))
 have HEY:Hid (_=Y):=eY
 clear hNZ eY hY1 hY2 hY3 hY4
 go_wp2_with fail
 rw [HEY.out]
 exact bodyPost_ret (Rt2 (p:=2) (u:=3) (ty:=28) rfl _ _ w§ 28 #[zU 1,zU 0,zU 6,zI 1,zU 0,.string ⟨#[]⟩,.slice none 0 0,zI t.p] (0,0) _ rfl HF.out.2.2 Tryz.underlying28 rfl zK) rfl ⟨rfl,HF.out.1,HF.out.2.1⟩
theorem lit_sell {w:World}{b:Nat}{K:PK}{t:Tk}{ts:List Tk}(h:Lv w b K (t :: ts)) (hk:t.k=1) (hx:t.x=Zp) :
  Calls zG 128 #[zP b] w fun e w'=>e=.returned (.tuple #[.agg #[zU 1,zU 0,zU 6,zI 2,zU 0,.string ⟨#[]⟩,.slice none 0 0,zI t.p],.bool true])∧Lv w' b K ts∧Mv w w' (fun k=>k=b):=by
 have hb0:=Bn w (.cells zA9 28)
 have hn0:=Hn w (.cells zA9 28)
 have HB0:=zH hb0
 have HN0:=zH hn0
 have HBW:Hid (b < w§):=h.lt
 have HLW:Hid (Lw w§ b K):=h.lw
 have cN:=live_now (h.on hb0)
 have HH:=(h.on hb0).hid
 unfold tkA at cN
 clear h hb0 hn0
 rw [hk,hx] at cN
 clear hk hx
 go_enter Tryz.func128,Tryz.ntmps128
 go_wp2_with fail
 refine cN.mono ?_
 rintro e w1 ⟨rfl,hb⟩
 have HB1:=zH (below2 HB0.out hb)
 have HH1:=(HH.out.on hb).hid
 have HN1:Hid (w1.heap[w§]? = some (.cells zA9 28 (0,0))):=(hb.block _ (by rw [Sa]; omega)).trans HN0.out
 clear cN hb HB0 HH HN0
 go_upto_region 4 with fail
 have e1:=Bn w1 (.cells #[zU 1,.string Zp,zU t.ty,zI t.n,zI t.p] 143)
 have e2:=Bn (w1.alloc (.cells #[zU 1,.string Zp,zU t.ty,zI t.n,zI t.p] 143)) (.cells #[zU 1,zU 0,zU 0,zI 0,zU 0,.string ⟨#[]⟩,.slice none 0 0,zI t.p] 28)
 have s1:=Sa w1 (.cells #[zU 1,.string Zp,zU t.ty,zI t.n,zI t.p] 143)
 have t1:=Hn w1 (.cells #[zU 1,.string Zp,zU t.ty,zI t.n,zI t.p] 143)
 have t2:=Hn (w1.alloc (.cells #[zU 1,.string Zp,zU t.ty,zI t.n,zI t.p] 143)) (.cells #[zU 1,zU 0,zU 0,zI 0,zU 0,.string ⟨#[]⟩,.slice none 0 0,zI t.p] 28)
 rw [s1] at t2
 obtain⟨V,eV⟩:∃ V,(w1.alloc (.cells #[zU 1,.string Zp,zU t.ty,zI t.n,zI t.p] 143)).alloc (.cells #[zU 1,zU 0,zU 0,zI 0,zU 0,.string ⟨#[]⟩,.slice none 0 0,zI t.p] 28)=V:=⟨_,rfl⟩
 have hTV:V.heap[w1§]? = some (.cells #[zU 1,.string Zp,zU t.ty,zI t.n,zI t.p] 143 (0,0)):=by rw [← eV]; exact (e2.block _ (by rw [s1]; omega)).trans t1
 have hNV:V.heap[w1§+1]? = some (.cells #[zU 1,zU 0,zU 0,zI 0,zU 0,.string ⟨#[]⟩,.slice none 0 0,zI t.p] 28 (0,0)):=by rw [← eV]; exact t2
 have hBV:Below w1§ w1 V:=by rw [← eV]; exact below2 e1 e2
 have hlw:w§ < w1§:=(Array.getElem?_eq_some_iff.1 HN1.out).1
 have HZV:Hid (V.heap[w§]? = some (.cells zA9 28 (0,0))):=(hBV.block _ hlw).trans HN1.out
 have HHV:=(HH1.out.on hBV).hid
 have HBV:=zH (below2 HB1.out hBV)
 rw [eV]
 clear e1 e2 s1 t1 t2 eV hBV HB1 HH1 HN1
 obtain⟨Q,eQ⟩:∃ Q,w1§=Q:=⟨_,rfl⟩
 rw [eQ] at hTV hNV hlw ⊢
 clear eQ
 have k0:V.cell? ⟨Q,0,none⟩=some (zU 1):=Co hTV 0
 have k1:V.cell? ⟨Q,1,none⟩=some (.string Zp):=Co hTV 1
 have k2:V.cell? ⟨Q,2,none⟩=some (zU t.ty):=Co hTV 2
 have k3:V.cell? ⟨Q,3,none⟩=some (zI t.n):=Co hTV 3
 have m2:V.cell? ⟨Q+1,2,none⟩=some (zU 0):=Co hNV 2
 have f2:=Fo hNV 2
 have m3:V.cell? ⟨Q+1,3,none⟩=some (zI 0):=Co hNV 3
 have f3:=Fo hNV 3
 go_upto_region 13 with fail
 obtain⟨Y1,eY1⟩:∃ Y,V.setCell ⟨Q+1,2,none⟩ (zU 6)=Y:=⟨_,rfl⟩
 have hY1:Y1.heap[Q+1]? = some (.cells #[zU 1,zU 0,zU 6,zI 0,zU 0,.string ⟨#[]⟩,.slice none 0 0,zI t.p] 28 (0,0)):=by rw [← eY1]; exact Hs0 _ hNV
 have oY1:∀ k,k≠Q+1→Y1.heap[k]? = V.heap[k]?:=fun k hk=>by rw [← eY1]; exact Below.heap_setCell _ _ _ _ hk
 have zY1:Y1§=V§:=by rw [← eY1]; simp [World.setCell]
 have HTY1:Hid (Mv V Y1 (fun k=>k=Q+1)):=by show Mv _ _ _; rw [← eY1]; exact Mv.setCell (F:=fun k=>k=Q+1) (a:=⟨Q+1,2,none⟩) (Mv.refl _ _) (.inl rfl) _
 have hY1t:Y1.heap[Q]? = some (.cells #[zU 1,.string Zp,zU t.ty,zI t.n,zI t.p] 143 (0,0)):=(oY1 _ (by omega)).trans hTV
 rw [eY1]
 clear eY1 k0 k1 k2 k3 m2 f2 m3 f3 hTV hNV
 have hTV:=hY1t
 clear hY1t
 have HZY1:Hid (Y1.heap[w§]? = some (.cells zA9 28 (0,0))):=(oY1 _ (by omega)).trans HZV.out
 have HHY1:Hid (Lv Y1 b K (t :: ts)):=HHV.out.off HLW.out (fun k hk=>oY1 k (by omega))
 have HMY1:=zH ((Mv.ofBelow HBV.out:Mv w V (fun k=>k=b)).trans HTY1.out (fun k e=>.inr (by have:=HBW.out; omega)))
 have k0:Y1.cell? ⟨Q,0,none⟩=some (zU 1):=Co hTV 0
 have k1:Y1.cell? ⟨Q,1,none⟩=some (.string Zp):=Co hTV 1
 have k2:Y1.cell? ⟨Q,2,none⟩=some (zU t.ty):=Co hTV 2
 have k3:Y1.cell? ⟨Q,3,none⟩=some (zI t.n):=Co hTV 3
 have m2:Y1.cell? ⟨Q+1,2,none⟩=some (zU 6):=Co hY1 2
 have f2:=Fo hY1 2
 have m3:Y1.cell? ⟨Q+1,3,none⟩=some (zI 0):=Co hY1 3
 have f3:=Fo hY1 3
 go_upto_region 14 with fail
 obtain⟨Y2,eY2⟩:∃ Y,Y1.setCell ⟨Q+1,3,none⟩ (zI 1)=Y:=⟨_,rfl⟩
 have hY2:Y2.heap[Q+1]? = some (.cells #[zU 1,zU 0,zU 6,zI 1,zU 0,.string ⟨#[]⟩,.slice none 0 0,zI t.p] 28 (0,0)):=by rw [← eY2]; exact Hs0 _ hY1
 have oY2:∀ k,k≠Q+1→Y2.heap[k]? = Y1.heap[k]?:=fun k hk=>by rw [← eY2]; exact Below.heap_setCell _ _ _ _ hk
 have zY2:Y2§=Y1§:=by rw [← eY2]; simp [World.setCell]
 have HTY2:Hid (Mv Y1 Y2 (fun k=>k=Q+1)):=by show Mv _ _ _; rw [← eY2]; exact Mv.setCell (F:=fun k=>k=Q+1) (a:=⟨Q+1,3,none⟩) (Mv.refl _ _) (.inl rfl) _
 have hY2t:Y2.heap[Q]? = some (.cells #[zU 1,.string Zp,zU t.ty,zI t.n,zI t.p] 143 (0,0)):=(oY2 _ (by omega)).trans hTV
 rw [eY2]
 clear eY2 k0 k1 k2 k3 m2 f2 m3 f3 hTV hY1
 have hTV:=hY2t
 clear hY2t
 have HZY2:Hid (Y2.heap[w§]? = some (.cells zA9 28 (0,0))):=(oY2 _ (by omega)).trans HZY1.out
 have HHY2:Hid (Lv Y2 b K (t :: ts)):=HHY1.out.off HLW.out (fun k hk=>oY2 k (by omega))
 have HMY2:=zH ((HMY1.out:Mv w Y1 (fun k=>k=b)).trans HTY2.out (fun k e=>.inr (by have:=HBW.out; omega)))
 have k0:Y2.cell? ⟨Q,0,none⟩=some (zU 1):=Co hTV 0
 have k1:Y2.cell? ⟨Q,1,none⟩=some (.string Zp):=Co hTV 1
 have k2:Y2.cell? ⟨Q,2,none⟩=some (zU t.ty):=Co hTV 2
 have k3:Y2.cell? ⟨Q,3,none⟩=some (zI t.n):=Co hTV 3
 have m2:Y2.cell? ⟨Q+1,2,none⟩=some (zU 6):=Co hY2 2
 have f2:=Fo hY2 2
 have m3:Y2.cell? ⟨Q+1,3,none⟩=some (zI 1):=Co hY2 3
 have f3:=Fo hY2 3
 go_upto_region 16 with fail
 obtain⟨Y3,eY3⟩:∃ Y,Y2.setCell ⟨Q+1,3,none⟩ (zI 2)=Y:=⟨_,rfl⟩
 have hY3:Y3.heap[Q+1]? = some (.cells #[zU 1,zU 0,zU 6,zI 2,zU 0,.string ⟨#[]⟩,.slice none 0 0,zI t.p] 28 (0,0)):=by rw [← eY3]; exact Hs0 _ hY2
 have oY3:∀ k,k≠Q+1→Y3.heap[k]? = Y2.heap[k]?:=fun k hk=>by rw [← eY3]; exact Below.heap_setCell _ _ _ _ hk
 have zY3:Y3§=Y2§:=by rw [← eY3]; simp [World.setCell]
 have HTY3:Hid (Mv Y2 Y3 (fun k=>k=Q+1)):=by show Mv _ _ _; rw [← eY3]; exact Mv.setCell (F:=fun k=>k=Q+1) (a:=⟨Q+1,3,none⟩) (Mv.refl _ _) (.inl rfl) _
 have hY3t:Y3.heap[Q]? = some (.cells #[zU 1,.string Zp,zU t.ty,zI t.n,zI t.p] 143 (0,0)):=(oY3 _ (by omega)).trans hTV
 rw [eY3]
 clear eY3 k0 k1 k2 k3 m2 f2 m3 f3 hTV hY2
 have hTV:=hY3t
 clear hY3t
 have HZY3:Hid (Y3.heap[w§]? = some (.cells zA9 28 (0,0))):=(oY3 _ (by omega)).trans HZY2.out
 have HHY3:Hid (Lv Y3 b K (t :: ts)):=HHY2.out.off HLW.out (fun k hk=>oY3 k (by omega))
 have HMY3:=zH ((HMY2.out:Mv w Y2 (fun k=>k=b)).trans HTY3.out (fun k e=>.inr (by have:=HBW.out; omega)))
 have k0:Y3.cell? ⟨Q,0,none⟩=some (zU 1):=Co hTV 0
 have k1:Y3.cell? ⟨Q,1,none⟩=some (.string Zp):=Co hTV 1
 have k2:Y3.cell? ⟨Q,2,none⟩=some (zU t.ty):=Co hTV 2
 have k3:Y3.cell? ⟨Q,3,none⟩=some (zI t.n):=Co hTV 3
 have m2:Y3.cell? ⟨Q+1,2,none⟩=some (zU 6):=Co hY3 2
 have f2:=Fo hY3 2
 have m3:Y3.cell? ⟨Q+1,3,none⟩=some (zI 2):=Co hY3 3
 have f3:=Fo hY3 3
 go_upto_region 16 with fail
 clear k0 k1 k2 k3 m2 f2 m3 f3
 obtain⟨i,c3,g3,hmx,hL,hM,ho,hsz⟩:=HHY3.out.at'
 go_upto_region 17 with fail
 obtain⟨Z,eZ⟩:∃ Z,Y3.setCell ⟨b,3,none⟩ (zI ((i:Int)+1))=Z:=⟨_,rfl⟩
 rw [eZ] at hL hM ho ⊢
 have hbw:=HBW.out
 have hNZ:Z.heap[Q+1]? = some (.cells #[zU 1,zU 0,zU 6,zI 2,zU 0,.string ⟨#[]⟩,.slice none 0 0,zI t.p] 28 (0,0)):=(ho _ (by omega)).trans hY3
 have HZZ:Hid (Z.heap[w§]? = some (.cells zA9 28 (0,0))):=(ho _ (by omega)).trans HZY3.out
 have HLZ:=hL.hid
 have HMZ:=zH (HMY3.out.trans hM (fun k e=>.inl e))
 clear eZ hL hM ho hsz c3 g3 hmx
 obtain⟨x0,x1,x2,x3,x4,x5,x6,x7⟩:=cl8 hNZ
 obtain⟨z0,z1,z2,z3,z4,z5,z6,z7⟩:=cl8 HZZ.out
 obtain⟨q0,q1,q2,q3,q4,q5,q6,q7⟩:=fz8 HZZ.out
 obtain⟨Y,eY,hY1,hY2,hY3,hY4⟩:=fin8 HZZ.out (zU 1) (zU 0) (zU 6) (zI 2) (zU 0) (.string ⟨#[]⟩) (.slice none 0 0) (zI t.p)
 have HF:Hid (Lv Y b K ts∧Mv w Y (fun k=>k=b)∧Y.heap[w§]? = some (.cells #[zU 1,zU 0,zU 6,zI 2,zU 0,.string ⟨#[]⟩,.slice none 0 0,zI t.p] 28 (0,0))):=by
  refine⟨?_,hY4 w _ HMZ.out (Nat.le_refl _),hY1⟩
  exact HLZ.out.off HLW.out (fun k hk=>hY3 k (by omega))
 have HEY:Hid (_=Y):=eY
 clear hNZ eY hY1 hY2 hY3 hY4
 go_wp2_with fail
 rw [HEY.out]
 exact bodyPost_ret (Rt2 (p:=2) (u:=3) (ty:=28) rfl _ _ w§ 28 #[zU 1,zU 0,zU 6,zI 2,zU 0,.string ⟨#[]⟩,.slice none 0 0,zI t.p] (0,0) _ rfl HF.out.2.2 Tryz.underlying28 rfl zK) rfl ⟨rfl,HF.out.1,HF.out.2.1⟩
theorem lit_dead {w:World}{b:Nat}{K:PK}{f:Ft}(h:Dd w b K f) :
  Calls zG 128 #[zP b] w fun e w'=>e=.returned (.tuple #[.agg zA9,.bool false])∧Below w§ w w':=by
 have hb0:=Bn w (.cells zA9 28)
 have hn0:=Hn w (.cells zA9 28)
 have HB0:=zH hb0
 have HN0:=zH hn0
 have HBW:Hid (b < w§):=h.lt
 have HLW:Hid (Lw w§ b K):=h.lw
 have cN:=dead_now (h.on hb0)
 have HH:=(h.on hb0).hid
 unfold tkA tk0 at cN
 clear h hb0 hn0
 go_enter Tryz.func128,Tryz.ntmps128
 go_wp2_with fail
 refine cN.mono ?_
 rintro e w1 ⟨rfl,hb⟩
 have HB1:=zH (below2 HB0.out hb)
 have HN1:Hid (w1.heap[w§]? = some (.cells zA9 28 (0,0))):=(hb.block _ (by rw [Sa]; omega)).trans HN0.out
 have hlw:w§ < w1§:=(Array.getElem?_eq_some_iff.1 HN1.out).1
 clear cN hb HB0 HH HN0
 go_upto_region 4 with fail
 have e1:=Bn w1 (.cells zA14 143)
 have e2:=Bn (w1.alloc (.cells zA14 143)) (.cells #[zU 1,zU 0,zU 0,zI 0,zU 0,.string ⟨#[]⟩,.slice none 0 0,zI 0] 28)
 have s1:=Sa w1 (.cells zA14 143)
 have t1:=Hn w1 (.cells zA14 143)
 obtain⟨V,eV⟩:∃ V,(w1.alloc (.cells zA14 143)).alloc (.cells #[zU 1,zU 0,zU 0,zI 0,zU 0,.string ⟨#[]⟩,.slice none 0 0,zI 0] 28)=V:=⟨_,rfl⟩
 have hTV:V.heap[w1§]? = some (.cells zA14 143 (0,0)):=by rw [← eV]; exact (e2.block _ (by rw [s1]; omega)).trans t1
 have hBV:Below w1§ w1 V:=by rw [← eV]; exact below2 e1 e2
 have HZV:Hid (V.heap[w§]? = some (.cells zA9 28 (0,0))):=(hBV.block _ hlw).trans HN1.out
 have HBV:=zH (below2 HB1.out hBV)
 rw [eV]
 clear e1 e2 s1 t1 eV hBV HB1 HN1
 obtain⟨Q,eQ⟩:∃ Q,w1§=Q:=⟨_,rfl⟩
 rw [eQ] at hTV hlw ⊢
 clear eQ
 have k0:V.cell? ⟨Q,0,none⟩=some (zU 0):=Co hTV 0
 have k1:V.cell? ⟨Q,1,none⟩=some (.string ⟨#[]⟩):=Co hTV 1
 go_upto_region 3 with fail
 clear k0 k1 hTV
 obtain⟨z0,z1,z2,z3,z4,z5,z6,z7⟩:=cl8 HZV.out
 obtain⟨q0,q1,q2,q3,q4,q5,q6,q7⟩:=fz8 HZV.out
 obtain⟨Y,eY,hY1,hY2,hY3,hY4⟩:=fin8 HZV.out (zU 0) (zU 0) (zU 0) (zI 0) (zU 0) (.string ⟨#[]⟩) (.slice none 0 0) (zI 0)
 have HF:Hid (Below w§ w Y∧Y.heap[w§]? = some (.cells zA9 28 (0,0))):=⟨(hY4 w (fun _=>False) (Mv.ofBelow HBV.out) (Nat.le_refl _)).below (Nat.le_refl _) (fun _ e=>e.elim),hY1⟩
 have HEY:Hid (_=Y):=eY
 clear eY hY1 hY2 hY3 hY4
 go_wp2_with fail
 rw [HEY.out]
 exact bodyPost_ret (Rt2 (p:=2) (u:=3) (ty:=28) rfl _ _ w§ 28 zA9 (0,0) _ rfl HF.out.2 Tryz.underlying28 rfl zK) rfl ⟨rfl,HF.out.1⟩
theorem lit_none {w:World}{b:Nat}{K:PK}{t:Tk}{ts:List Tk}(h:Lv w b K (t :: ts)) (hk3:¬ t.k=3) (hk1:¬ t.k=1) :
  Calls zG 128 #[zP b] w fun e w'=>e=.returned (.tuple #[.agg zA9,.bool false])∧Below w§ w w':=by
 have hb0:=Bn w (.cells zA9 28)
 have hn0:=Hn w (.cells zA9 28)
 have HB0:=zH hb0
 have HN0:=zH hn0
 have HBW:Hid (b < w§):=h.lt
 have HLW:Hid (Lw w§ b K):=h.lw
 have cN:=live_now (h.on hb0)
 have HH:=(h.on hb0).hid
 unfold tkA at cN
 clear h hb0 hn0
 go_enter Tryz.func128,Tryz.ntmps128
 go_wp2_with fail
 refine cN.mono ?_
 rintro e w1 ⟨rfl,hb⟩
 have HB1:=zH (below2 HB0.out hb)
 have HN1:Hid (w1.heap[w§]? = some (.cells zA9 28 (0,0))):=(hb.block _ (by rw [Sa]; omega)).trans HN0.out
 have hlw:w§ < w1§:=(Array.getElem?_eq_some_iff.1 HN1.out).1
 clear cN hb HB0 HH HN0
 go_upto_region 4 with fail
 have e1:=Bn w1 (.cells (zT t) 143)
 have e2:=Bn (w1.alloc (.cells (zT t) 143)) (.cells #[zU 1,zU 0,zU 0,zI 0,zU 0,.string ⟨#[]⟩,.slice none 0 0,zI t.p] 28)
 have s1:=Sa w1 (.cells (zT t) 143)
 have t1:=Hn w1 (.cells (zT t) 143)
 obtain⟨V,eV⟩:∃ V,(w1.alloc (.cells (zT t) 143)).alloc (.cells #[zU 1,zU 0,zU 0,zI 0,zU 0,.string ⟨#[]⟩,.slice none 0 0,zI t.p] 28)=V:=⟨_,rfl⟩
 have hTV:V.heap[w1§]? = some (.cells (zT t) 143 (0,0)):=by rw [← eV]; exact (e2.block _ (by rw [s1]; omega)).trans t1
 have hBV:Below w1§ w1 V:=by rw [← eV]; exact below2 e1 e2
 have HZV:Hid (V.heap[w§]? = some (.cells zA9 28 (0,0))):=(hBV.block _ hlw).trans HN1.out
 have HBV:=zH (below2 HB1.out hBV)
 rw [eV]
 clear e1 e2 s1 t1 eV hBV HB1 HN1
 obtain⟨Q,eQ⟩:∃ Q,w1§=Q:=⟨_,rfl⟩
 rw [eQ] at hTV hlw ⊢
 clear eQ
 have k0:V.cell? ⟨Q,0,none⟩=some (zU t.k):=Co hTV 0
 have k1:V.cell? ⟨Q,1,none⟩=some (.string t.x):=Co hTV 1
 go_upto_region 3 with fail
 clear k0 k1 hTV
 obtain⟨z0,z1,z2,z3,z4,z5,z6,z7⟩:=cl8 HZV.out
 obtain⟨q0,q1,q2,q3,q4,q5,q6,q7⟩:=fz8 HZV.out
 obtain⟨Y,eY,hY1,hY2,hY3,hY4⟩:=fin8 HZV.out (zU 0) (zU 0) (zU 0) (zI 0) (zU 0) (.string ⟨#[]⟩) (.slice none 0 0) (zI 0)
 have HF:Hid (Below w§ w Y∧Y.heap[w§]? = some (.cells zA9 28 (0,0))):=⟨(hY4 w (fun _=>False) (Mv.ofBelow HBV.out) (Nat.le_refl _)).below (Nat.le_refl _) (fun _ e=>e.elim),hY1⟩
 have HEY:Hid (_=Y):=eY
 clear eY hY1 hY2 hY3 hY4
 go_wp2_with fail
 rw [HEY.out]
 exact bodyPost_ret (Rt2 (p:=2) (u:=3) (ty:=28) rfl _ _ w§ 28 zA9 (0,0) _ rfl HF.out.2 Tryz.underlying28 rfl zK) rfl ⟨rfl,HF.out.1⟩
theorem lit_word {w:World}{b:Nat}{K:PK}{t:Tk}{ts:List Tk}(h:Lv w b K (t :: ts)) (hk:t.k=1) (s1:(t.x.toList == [116,114,117,101])=false) (s2:(t.x.toList == [102,97,108,115,101])=false) (s3:(t.x.toList == [98,117,121])=false) (s4:(t.x.toList == [115,101,108,108])=false) :
  Calls zG 128 #[zP b] w fun e w'=>e=.returned (.tuple #[.agg zA9,.bool false])∧Below w§ w w':=by
 have hb0:=Bn w (.cells zA9 28)
 have hn0:=Hn w (.cells zA9 28)
 have HB0:=zH hb0
 have HN0:=zH hn0
 have HBW:Hid (b < w§):=h.lt
 have HLW:Hid (Lw w§ b K):=h.lw
 have cN:=live_now (h.on hb0)
 have HH:=(h.on hb0).hid
 unfold tkA at cN
 clear h hb0 hn0
 rw [hk] at cN
 clear hk
 go_enter Tryz.func128,Tryz.ntmps128
 go_wp2_with fail
 refine cN.mono ?_
 rintro e w1 ⟨rfl,hb⟩
 have HB1:=zH (below2 HB0.out hb)
 have HN1:Hid (w1.heap[w§]? = some (.cells zA9 28 (0,0))):=(hb.block _ (by rw [Sa]; omega)).trans HN0.out
 have hlw:w§ < w1§:=(Array.getElem?_eq_some_iff.1 HN1.out).1
 clear cN hb HB0 HH HN0
 go_upto_region 4 with fail
 have e1:=Bn w1 (.cells #[zU 1,.string t.x,zU t.ty,zI t.n,zI t.p] 143)
 have e2:=Bn (w1.alloc (.cells #[zU 1,.string t.x,zU t.ty,zI t.n,zI t.p] 143)) (.cells #[zU 1,zU 0,zU 0,zI 0,zU 0,.string ⟨#[]⟩,.slice none 0 0,zI t.p] 28)
 have s1:=Sa w1 (.cells #[zU 1,.string t.x,zU t.ty,zI t.n,zI t.p] 143)
 have t1:=Hn w1 (.cells #[zU 1,.string t.x,zU t.ty,zI t.n,zI t.p] 143)
 obtain⟨V,eV⟩:∃ V,(w1.alloc (.cells #[zU 1,.string t.x,zU t.ty,zI t.n,zI t.p] 143)).alloc (.cells #[zU 1,zU 0,zU 0,zI 0,zU 0,.string ⟨#[]⟩,.slice none 0 0,zI t.p] 28)=V:=⟨_,rfl⟩
 have hTV:V.heap[w1§]? = some (.cells #[zU 1,.string t.x,zU t.ty,zI t.n,zI t.p] 143 (0,0)):=by rw [← eV]; exact (e2.block _ (by rw [s1]; omega)).trans t1
 have hBV:Below w1§ w1 V:=by rw [← eV]; exact below2 e1 e2
 have HZV:Hid (V.heap[w§]? = some (.cells zA9 28 (0,0))):=(hBV.block _ hlw).trans HN1.out
 have HBV:=zH (below2 HB1.out hBV)
 rw [eV]
 clear e1 e2 s1 t1 eV hBV HB1 HN1
 obtain⟨Q,eQ⟩:∃ Q,w1§=Q:=⟨_,rfl⟩
 rw [eQ] at hTV hlw ⊢
 clear eQ
 have k0:V.cell? ⟨Q,0,none⟩=some (zU 1):=Co hTV 0
 have k1:V.cell? ⟨Q,1,none⟩=some (.string t.x):=Co hTV 1
 go_upto_region 3 with fail
 clear k0 k1 hTV
 obtain⟨z0,z1,z2,z3,z4,z5,z6,z7⟩:=cl8 HZV.out
 obtain⟨q0,q1,q2,q3,q4,q5,q6,q7⟩:=fz8 HZV.out
 obtain⟨Y,eY,hY1,hY2,hY3,hY4⟩:=fin8 HZV.out (zU 0) (zU 0) (zU 0) (zI 0) (zU 0) (.string ⟨#[]⟩) (.slice none 0 0) (zI 0)
 have HF:Hid (Below w§ w Y∧Y.heap[w§]? = some (.cells zA9 28 (0,0))):=⟨(hY4 w (fun _=>False) (Mv.ofBelow HBV.out) (Nat.le_refl _)).below (Nat.le_refl _) (fun _ e=>e.elim),hY1⟩
 have HEY:Hid (_=Y):=eY
 clear eY hY1 hY2 hY3 hY4
 go_wp2_with fail
 rw [HEY.out]
 exact bodyPost_ret (Rt2 (p:=2) (u:=3) (ty:=28) rfl _ _ w§ 28 zA9 (0,0) _ rfl HF.out.2 Tryz.underlying28 rfl zK) rfl ⟨rfl,HF.out.1⟩
theorem eq_of_eqX {x:ByteArray}{a:Array UInt8}(h:eqX x a.toList=true):x=⟨a⟩:=by
 unfold eqX at h
 rw [ByteArray.toList_eq] at h
 exact ba_ext2 (by simpa using h)
theorem literal_ok {w:World}{b:Nat}{K:PK}{t:Tk}{ts:List Tk}(h:Lv w b K (t :: ts)) (ht:TkOk t) (hv:(valT t).1≠0) :
  Calls zG 128 #[zP b] w fun e w'=>e=.returned (.tuple #[.agg (litN t).vals,.bool true])∧Lv w' b K ts∧Mv w w' (fun k=>k=b):=by
 unfold litN
 by_cases e1:eqX t.x [116,114,117,101]=true
 ·have hx:t.x=Zs:=eq_of_eqX e1
  have hk:=ht.w _ (by simp [kwW]) hx
  have:=lit_true h hk hx
  simp only [valT,e1,if_true]
  exact this
 by_cases e2:eqX t.x [102,97,108,115,101]=true
 ·have hx:t.x=Zz:=eq_of_eqX e2
  have hk:=ht.w _ (by simp [kwW]) hx
  have:=lit_false h hk hx
  simp only [valT,e1,e2,if_true]
  exact this
 by_cases e3:eqX t.x [98,117,121]=true
 ·have hx:t.x=Zr:=eq_of_eqX e3
  have hk:=ht.w _ (by simp [kwW]) hx
  have:=lit_buy h hk hx
  simp only [valT,e1,e2,e3,if_true]
  exact this
 by_cases e4:eqX t.x [115,101,108,108]=true
 ·have hx:t.x=Zp:=eq_of_eqX e4
  have hk:=ht.w _ (by simp [kwW]) hx
  have:=lit_sell h hk hx
  simp only [valT,e1,e2,e3,e4,if_true]
  exact this
 have ev:valT t=(t.ty,t.n):=by unfold valT; rw [if_neg e1,if_neg e2,if_neg e3,if_neg e4]
 rw [ev] at hv ⊢
 exact lit_num h (ht.n.2 hv)
theorem literal_no {w:World}{b:Nat}{K:PK}{t:Tk}{ts:List Tk}(h:Lv w b K (t :: ts)) (ht:TkOk t) (hv:(valT t).1=0) :
  Calls zG 128 #[zP b] w fun e w'=>e=.returned (.tuple #[.agg nul8,.bool false])∧Below w§ w w':=by
 unfold nul8
 unfold valT at hv
 by_cases e1:eqX t.x [116,114,117,101]=true
 ·rw [if_pos e1] at hv; simp at hv
 rw [if_neg e1] at hv
 by_cases e2:eqX t.x [102,97,108,115,101]=true
 ·rw [if_pos e2] at hv; simp at hv
 rw [if_neg e2] at hv
 by_cases e3:eqX t.x [98,117,121]=true
 ·rw [if_pos e3] at hv; simp at hv
 rw [if_neg e3] at hv
 by_cases e4:eqX t.x [115,101,108,108]=true
 ·rw [if_pos e4] at hv; simp at hv
 rw [if_neg e4] at hv
 have h3:¬ t.k=3:=fun e=>ht.n.1 e hv
 by_cases h1:t.k=1
 ·exact lit_word h h1 (by simpa [eqX] using e1) (by simpa [eqX] using e2) (by simpa [eqX] using e3) (by simpa [eqX] using e4)
 ·exact lit_none h h3 h1
end Go.Proofs.YtjimaceccllnlaaGreatDoor
