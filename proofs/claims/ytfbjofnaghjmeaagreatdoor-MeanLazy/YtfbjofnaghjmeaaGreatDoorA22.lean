import Derived.Test.YtfbjofnaghjmeaaGreatDoorA21
namespace Go.Proofs.YtfbjofnaghjmeaaGreatDoor
open Go.Proofs.Tryz
set_option maxRecDepth 100000
open Go.RowKit
def fltE (c:Int):Ending:=.panicked [{ v:=.iface 146 (zI c),recovered:=false }]
def endV:Except Int Int→Ending
 | .ok v=>.returned (zI v)
 | .error c=>fltE c
def Ok64 (r:Except Int Int):Prop:=∀ v,r=.ok v→I64 v
def wn (x:Int):Except Int Int:=if Fx.fitB x=true then .ok x else .error 10
def tru (b:Bool):Int:=if b=true then 1 else 0
def op1 (o a:Int):Except Int Int:=if o=1 then wn (-a) else if o=2 then .ok (wrap64 (1 - a)) else if a < 0 then wn (-a) else .ok a
def op2 (o a b:Int):Except Int Int :=
 if o=4 then .ok (if a < b then a else b) else if o=5 then .ok (if b < a then a else b) else
 if o=6 then wn (a+b) else if o=7 then wn (a - b) else if o=8 then wn (a * b) else
 if o=9 then (if b=0 then .error 11 else wn (a.tdiv b)) else if o=10 then (if b=0 then .error 11 else .ok (a.tmod b)) else
 if o=11 then .ok (tru (decide (a=b))) else if o=12 then .ok (tru (decide (a≠b))) else if o=13 then .ok (tru (decide (a < b))) else
 if o=14 then .ok (tru (decide (a≤b))) else if o=15 then .ok (tru (decide (b < a))) else .ok (tru (decide (b≤a)))
def fldR (s:Sx.Sn) (f:Int):Except Int Int:=if f≤3∧Sx.getN s f=0 then .error 170 else .ok (Sx.getN s f)
def opR (o:Int) (r0 r1:Except Int Int):Except Int Int:=match r0 with
 | .error e=>.error e
 | .ok a=>if o≤3 then op1 o a else if o=17∧a=0 then .ok 0 else if o=18∧a=1 then .ok 1 else match r1 with
  | .error e=>.error e
  | .ok b=>if o=17∨o=18 then .ok b else op2 o a b
def cndR (r0 r1 r2:Except Int Int):Except Int Int:=match r0 with
 | .error e=>.error e
 | .ok a=>if a=1 then r1 else r2
def cmb (s:Sx.Sn) (G:yB→Option Int) (h:Hd) (l:List (Except Int Int)):Except Int Int :=
 if h.k=1 then .ok h.n else if h.k=2 then .ok ((G h.x).getD 0) else if h.k=3 then fldR s h.f else if h.k=4 then .ok (tru (decide (Sx.getN s h.f≠0))) else
 if h.k=7 then cndR (l.getD 0 (.ok 0)) (l.getD 1 (.ok 0)) (l.getD 2 (.ok 0)) else if h.k=9 then l.getD 0 (.ok 0) else opR h.o (l.getD 0 (.ok 0)) (l.getD 1 (.ok 0))
mutual
/-- What an expression comes to, or its fault. -/
def valR (s:Sx.Sn) (G:yB→Option Int):Nd→Except Int Int
 | .mk h _ _ ks=>cmb s G h (Jq s G ks)
def Jq (s:Sx.Sn) (G:yB→Option Int):List Nd→List (Except Int Int)
 | []=>[]
 | k :: ks=>valR s G k :: Jq s G ks
end
def OutV (w:yW) (r:Except Int Int) (e:Ending) (w':yW):Prop:=e=endV r∧yD w w'
structure KC (w:yW) (b:Nat) (m:Nd) (r:Except Int Int):Prop where
 i:Ok64 r
 c:∀ v,yD w v→Calls zG 37 #[zP b,.agg m.vals] v (OutV v r)
theorem KC.on {w w':yW}{b:Nat}{m:Nd}{r:Except Int Int}(h:KC w b m r) (k:yD w w'):KC w' b m r :=
 ⟨h.i,fun v hv=>h.c v (Qm k hv)⟩
theorem KC.ok {w:yW}{b:Nat}{m:Nd}{x:Int}(h:KC w b m (.ok x)) (v:yW) (hv:yD w v) :
  Calls zG 37 #[zP b,.agg (zV m)] v fun e w'=>e=.returned (zI x)∧yD v w':=h.c v hv
theorem KC.err {w:yW}{b:Nat}{m:Nd}{x:Int}(h:KC w b m (.error x)) (v:yW) (hv:yD w v) :
  Calls zG 37 #[zP b,.agg (zV m)] v fun e w'=>e=fltE x∧yD v w':=h.c v hv
theorem Ka (n:Int) (w:yW):Calls zG 164 #[zI n,.bool true] w fun e w'=>e=.returned (zI n)∧w'=w:=by
 go_enter func164,ntmps164
 go_wp2
 go_ret
 exact⟨rfl,rfl⟩
theorem Kv (n:Int) (w:yW):Calls zG 164 #[zI n,.bool false] w fun e w'=>e=fltE 10∧w'=w:=by
 go_enter func164,ntmps164
 go_wp2
 exact⟨rfl,rfl,rfl⟩
theorem JS (b:Bool) (w:yW):Calls zG 69 #[.bool b] w fun e w'=>e=.returned (zI (tru b))∧w'=w:=by
 cases b
 ·go_enter func69,ntmps69
  go_wp2
  go_ret
  exact⟨rfl,rfl⟩
 ·go_enter func69,ntmps69
  go_wp2
  go_ret
  exact⟨rfl,rfl⟩
def endB:Except Int Int→Except Int Int→Ending
 | .error e,_=>fltE e
 | .ok _,.error e=>fltE e
 | .ok x,.ok y=>.returned (.tuple #[zI x,zI y])
structure K2 (w:yW) (b kb ko l:Nat) (m0 m1:Nd) (r0 r1:Except Int Int):Prop where
 l:1 < l
 h0:NdAt w kb (ko+0 * 8) m0
 h1:NdAt w kb (ko+1 * 8) m1
 k0:KC w b m0 r0
 k1:KC w b m1 r1
theorem K2.on {w w':yW}{b kb ko l:Nat}{m0 m1:Nd}{r0 r1:Except Int Int}(h:K2 w b kb ko l m0 m1 r0 r1) (k:yD w w'):K2 w' b kb ko l m0 m1 r0 r1 :=
 ⟨h.l,h.h0.on k,h.h1.on k,h.k0.on k,h.k1.on k⟩
theorem Jn {w:yW}{b kb ko l c:Nat}{m0 m1:Nd}{r0 r1:Except Int Int}(h:K2 w b kb ko l m0 m1 r0 r1) :
  Calls zG 165 #[zP b,.slice (some kb¢ko) l c] w fun e w'=>e=endB r0 r1∧yD w w':=by
 have H:=h
 have HK0:Hid (KC w b m0 r0):=h.k0
 have HK1:Hid (KC w b m1 r1):=h.k1
 have h1l:(1:Int) < (l:Int):=by have:=h.l;omega
 have h0l:(0:Int) < (l:Int):=by omega
 have H1:=zH h.h1
 have q:=h.h0
 simp only [Nat.zero_mul,Nat.add_zero] at q
 obtain⟨y0,y1,y2,y3,y4,y5,y6,y7⟩:=q
 clear h H
 cases r0 with
 | error e0 =>
  have k:=HK0.out.err w (Below.refl _ _)
  go_enter func165,ntmps165
  go_wp2_with fail
  refine k.mono ?_
  rintro e w1 ⟨rfl,hb⟩
  exact⟨rfl,rfl,hb⟩
 | ok x0 =>
  have k:=HK0.out.ok w (Below.refl _ _)
  go_enter func165,ntmps165
  go_wp2_with fail
  refine k.mono ?_
  rintro e w1 ⟨rfl,hb⟩
  have HB:=zH hb
  obtain⟨x0',x1',x2',x3',x4',x5',x6',x7'⟩:=H1.out.on hb
  clear k hb y0 y1 y2 y3 y4 y5 y6 y7
  cases r1 with
  | error e1 =>
   have k:=(HK1.out.on HB.out).err w1 (Below.refl _ _)
   go_wp2_with fail
   refine k.mono ?_
   rintro e w2 ⟨rfl,hb⟩
   exact⟨rfl,rfl,Qm HB.out hb⟩
  | ok x1 =>
   have k:=(HK1.out.on HB.out).ok w1 (Below.refl _ _)
   go_wp2_with fail
   refine k.mono ?_
   rintro e w2 ⟨rfl,hb⟩
   have HB2:=zH (Qm HB.out hb)
   clear k hb
   go_wp2
   go_ret2
   exact⟨rfl,HB2.out⟩
def endR:Except Int Int→Except Int Int→Ending
 | .error e,_=>fltE e
 | .ok _,.error e=>fltE e
 | .ok x,.ok y=>if y=0 then fltE 11 else .returned (.tuple #[zI x,zI y])
theorem VP {w:yW}{b kb ko l c:Nat}{m0 m1:Nd}{r0 r1:Except Int Int}(h:K2 w b kb ko l m0 m1 r0 r1) :
  Calls zG 166 #[zP b,.slice (some kb¢ko) l c] w fun e w'=>e=endR r0 r1∧yD w w':=by
 have k:=Jn (c:=c) h
 clear h
 cases r0 with
 | error e0 =>
  go_enter func166,ntmps166
  go_wp2_with fail
  refine k.mono ?_
  rintro e w1 ⟨rfl,hb⟩
  exact⟨rfl,rfl,hb⟩
 | ok x0 =>
  cases r1 with
  | error e1 =>
   go_enter func166,ntmps166
   go_wp2_with fail
   refine k.mono ?_
   rintro e w1 ⟨rfl,hb⟩
   exact⟨rfl,rfl,hb⟩
  | ok x1 =>
   go_enter func166,ntmps166
   go_wp2_with fail
   refine k.mono ?_
   rintro e w1 ⟨rfl,hb⟩
   have HB:=zH hb
   clear k hb
   unfold endB
   by_cases h0:x1=0
   ·subst h0
    go_wp2_with fail
    exact⟨rfl,rfl,HB.out⟩
   ·have h0':(x1 == 0)=false:=by simpa using h0
    go_wp2
    go_ret2
    exact⟨Eq.symm (show endR (.ok x0) (.ok x1)=_ from if_neg h0),HB.out⟩
theorem wn_t {x:Int}(h:Fx.fitB x=true):wn x=.ok x:=if_pos h
theorem wn_f {x:Int}(h:Fx.fitB x=false):wn x=.error 10:=by unfold wn;rw [h];rfl
theorem Qdw (x y:Int):Builtin.min_ #[2,2] 2 #[zI x,zI y]=pure (zI (if y < x then y else x)):=by
 show (Builtin.min2 (zI x) (zI y) >>= fun v=>pure v)=_
 show (pure (Value.int .i64 (if y < x then y else x)) >>= fun v=>(pure v:Sem Value))=_
 rfl
theorem Qdx (x y:Int):Builtin.max_ #[2,2] 2 #[zI x,zI y]=pure (zI (if y > x then y else x)):=by
 show (Builtin.max2 (zI x) (zI y) >>= fun v=>pure v)=_
 show (pure (Value.int .i64 (if y > x then y else x)) >>= fun v=>(pure v:Sem Value))=_
 rfl
structure K1 (w:yW) (b kb ko l:Nat) (m0:Nd) (r0:Except Int Int):Prop where
 l:0 < l
 h0:NdAt w kb (ko+0 * 8) m0
 k0:KC w b m0 r0
theorem Qh9 {w:yW}{b kb ko l c:Nat}{m0:Nd}{r0 r1:Except Int Int}(h:K1 w b kb ko l m0 r0) :
  Calls zG 104 #[zP b,.slice (some kb¢ko) l c] w (OutV w (opR 1 r0 r1)):=by
 have h0l:(0:Int) < (l:Int):=by have:=h.l;omega
 have q:=h.h0
 simp only [Nat.zero_mul,Nat.add_zero] at q
 obtain⟨y0,y1,y2,y3,y4,y5,y6,y7⟩:=q
 have HI:Hid (Ok64 r0):=h.k0.i
 cases r0 with
 | error e0 =>
  have k:=h.k0.err w (Below.refl _ _)
  clear h
  go_enter func104,ntmps104
  go_wp2_with fail
  refine k.mono ?_
  rintro e w1 ⟨rfl,hb⟩
  exact⟨rfl,rfl,hb⟩
 | ok x =>
  have k:=h.k0.ok w (Below.refl _ _)
  clear h
  go_enter func104,ntmps104
  go_wp2_with fail
  refine k.mono ?_
  rintro e w1 ⟨rfl,hb⟩
  have HB:=zH hb
  clear k hb
  go_wp2_with fail
  refine (Fx.neg_any x (HI.out x rfl).1 (HI.out x rfl).2 _).mono ?_
  rintro e w2 ⟨rfl,e2⟩
  obtain rfl:=e2.symm
  cases hF:Fx.fitB (-x) with
  | true =>
   rw [Fx.fitN_true hF]
   go_wp2_with fail
   refine (Ka _ _).mono ?_
   rintro e w3 ⟨rfl,e3⟩
   obtain rfl:=e3.symm
   go_wp2
   go_ret
   exact⟨(congrArg endV (wn_t hF)).symm,HB.out⟩
  | false =>
   rw [Fx.fitN_false hF]
   go_wp2_with fail
   refine (Kv _ _).mono ?_
   rintro e w3 ⟨rfl,e3⟩
   obtain rfl:=e3.symm
   exact⟨rfl,(congrArg endV (wn_f hF)).symm,HB.out⟩
theorem Qh6 {w:yW}{b kb ko l c:Nat}{m0:Nd}{r0 r1:Except Int Int}(h:K1 w b kb ko l m0 r0) :
  Calls zG 105 #[zP b,.slice (some kb¢ko) l c] w (OutV w (opR 2 r0 r1)):=by
 have h0l:(0:Int) < (l:Int):=by have:=h.l;omega
 have q:=h.h0
 simp only [Nat.zero_mul,Nat.add_zero] at q
 obtain⟨y0,y1,y2,y3,y4,y5,y6,y7⟩:=q
 have HI:Hid (Ok64 r0):=h.k0.i
 cases r0 with
 | error e0 =>
  have k:=h.k0.err w (Below.refl _ _)
  clear h
  go_enter func105,ntmps105
  go_wp2_with fail
  refine k.mono ?_
  rintro e w1 ⟨rfl,hb⟩
  exact⟨rfl,rfl,hb⟩
 | ok x =>
  have k:=h.k0.ok w (Below.refl _ _)
  clear h
  go_enter func105,ntmps105
  go_wp2_with fail
  refine k.mono ?_
  rintro e w1 ⟨rfl,hb⟩
  have HB:=zH hb
  clear k hb
  go_wp2
  go_ret
  exact⟨rfl,HB.out⟩
theorem abs_op {w:yW}{b kb ko l c:Nat}{m0:Nd}{r0 r1:Except Int Int}(h:K1 w b kb ko l m0 r0) :
  Calls zG 106 #[zP b,.slice (some kb¢ko) l c] w (OutV w (opR 3 r0 r1)):=by
 have h0l:(0:Int) < (l:Int):=by have:=h.l;omega
 have q:=h.h0
 simp only [Nat.zero_mul,Nat.add_zero] at q
 obtain⟨y0,y1,y2,y3,y4,y5,y6,y7⟩:=q
 have HI:Hid (Ok64 r0):=h.k0.i
 cases r0 with
 | error e0 =>
  have k:=h.k0.err w (Below.refl _ _)
  clear h
  go_enter func106,ntmps106
  go_wp2_with fail
  refine k.mono ?_
  rintro e w1 ⟨rfl,hb⟩
  exact⟨rfl,rfl,hb⟩
 | ok x =>
  have k:=h.k0.ok w (Below.refl _ _)
  clear h
  go_enter func106,ntmps106
  go_wp2_with fail
  refine k.mono ?_
  rintro e w1 ⟨rfl,hb⟩
  have HB:=zH hb
  clear k hb
  by_cases hx:x < 0
  ·have hE:Hid (opR 3 (.ok x) r1=wn (-x)):=by show op1 3 x=_;unfold op1;rw [if_neg (by decide),if_neg (by decide),if_pos hx]
   go_wp2_with fail
   refine (Fx.neg_any x (HI.out x rfl).1 (HI.out x rfl).2 _).mono ?_
   rintro e w2 ⟨rfl,e2⟩
   obtain rfl:=e2.symm
   cases hF:Fx.fitB (-x) with
   | true =>
    rw [Fx.fitN_true hF]
    go_wp2_with fail
    refine (Ka _ _).mono ?_
    rintro e w3 ⟨rfl,e3⟩
    obtain rfl:=e3.symm
    go_wp2
    go_ret
    exact⟨(congrArg endV (hE.out.trans (wn_t hF))).symm,HB.out⟩
   | false =>
    rw [Fx.fitN_false hF]
    go_wp2_with fail
    refine (Kv _ _).mono ?_
    rintro e w3 ⟨rfl,e3⟩
    obtain rfl:=e3.symm
    exact⟨rfl,(congrArg endV (hE.out.trans (wn_f hF))).symm,HB.out⟩
  ·have hE:Hid (opR 3 (.ok x) r1=.ok x):=by show op1 3 x=_;unfold op1;rw [if_neg (by decide),if_neg (by decide),if_neg hx]
   go_wp2
   go_ret
   exact⟨(congrArg endV hE.out).symm,HB.out⟩
theorem Qil {w:yW}{b kb ko l c:Nat}{m0 m1:Nd}{r0 r1:Except Int Int}(h:K2 w b kb ko l m0 m1 r0 r1) :
  Calls zG 107 #[zP b,.slice (some kb¢ko) l c] w (OutV w (opR 4 r0 r1)):=by
 have HI0:Hid (Ok64 r0):=h.k0.i
 have HI1:Hid (Ok64 r1):=h.k1.i
 have k:=Jn (c:=c) h
 clear h
 cases r0 with
 | error e0 =>
  go_enter func107,ntmps107
  go_wp2_with fail
  refine k.mono ?_
  rintro e w1 ⟨rfl,hb⟩
  exact⟨rfl,rfl,hb⟩
 | ok x =>
  cases r1 with
  | error e1 =>
   go_enter func107,ntmps107
   go_wp2_with fail
   refine k.mono ?_
   rintro e w1 ⟨rfl,hb⟩
   exact⟨rfl,rfl,hb⟩
  | ok y =>
   go_enter func107,ntmps107
   go_wp2_with fail
   refine k.mono ?_
   rintro e w1 ⟨rfl,hb⟩
   have HB:=zH hb
   clear k hb
   unfold endB
   have hm:=fun x y=>Qdw x y
   go_wp2_with fail
   all_goals go_ret
   all_goals refine⟨?_,HB.out⟩
   all_goals (show Ending.returned (zI _)=.returned (zI (if x < y then x else y));split <;> first | rfl | (congr 2;omega))
theorem Qin {w:yW}{b kb ko l c:Nat}{m0 m1:Nd}{r0 r1:Except Int Int}(h:K2 w b kb ko l m0 m1 r0 r1) :
  Calls zG 108 #[zP b,.slice (some kb¢ko) l c] w (OutV w (opR 5 r0 r1)):=by
 have HI0:Hid (Ok64 r0):=h.k0.i
 have HI1:Hid (Ok64 r1):=h.k1.i
 have k:=Jn (c:=c) h
 clear h
 cases r0 with
 | error e0 =>
  go_enter func108,ntmps108
  go_wp2_with fail
  refine k.mono ?_
  rintro e w1 ⟨rfl,hb⟩
  exact⟨rfl,rfl,hb⟩
 | ok x =>
  cases r1 with
  | error e1 =>
   go_enter func108,ntmps108
   go_wp2_with fail
   refine k.mono ?_
   rintro e w1 ⟨rfl,hb⟩
   exact⟨rfl,rfl,hb⟩
  | ok y =>
   go_enter func108,ntmps108
   go_wp2_with fail
   refine k.mono ?_
   rintro e w1 ⟨rfl,hb⟩
   have HB:=zH hb
   clear k hb
   unfold endB
   have hm:=fun x y=>Qdx x y
   go_wp2_with fail
   all_goals go_ret
   all_goals refine⟨?_,HB.out⟩
   all_goals (show Ending.returned (zI _)=.returned (zI (if y < x then x else y));split <;> first | rfl | (congr 2;omega))
theorem add_op {w:yW}{b kb ko l c:Nat}{m0 m1:Nd}{r0 r1:Except Int Int}(h:K2 w b kb ko l m0 m1 r0 r1) :
  Calls zG 109 #[zP b,.slice (some kb¢ko) l c] w (OutV w (opR 6 r0 r1)):=by
 have HI0:Hid (Ok64 r0):=h.k0.i
 have HI1:Hid (Ok64 r1):=h.k1.i
 have k:=Jn (c:=c) h
 clear h
 cases r0 with
 | error e0 =>
  go_enter func109,ntmps109
  go_wp2_with fail
  refine k.mono ?_
  rintro e w1 ⟨rfl,hb⟩
  exact⟨rfl,rfl,hb⟩
 | ok x =>
  cases r1 with
  | error e1 =>
   go_enter func109,ntmps109
   go_wp2_with fail
   refine k.mono ?_
   rintro e w1 ⟨rfl,hb⟩
   exact⟨rfl,rfl,hb⟩
  | ok y =>
   go_enter func109,ntmps109
   go_wp2_with fail
   refine k.mono ?_
   rintro e w1 ⟨rfl,hb⟩
   have HB:=zH hb
   clear k hb
   unfold endB
   go_wp2_with fail
   refine (Fx.add_any x y (HI0.out x rfl).1 (HI0.out x rfl).2 (HI1.out y rfl).1 (HI1.out y rfl).2 _).mono ?_
   rintro e w2 ⟨rfl,e2⟩
   obtain rfl:=e2.symm
   cases hF:Fx.fitB (x+y) with
   | true =>
    rw [Fx.fitN_true hF]
    go_wp2_with fail
    refine (Ka _ _).mono ?_
    rintro e w3 ⟨rfl,e3⟩
    obtain rfl:=e3.symm
    go_wp2
    go_ret
    exact⟨(congrArg endV (wn_t hF)).symm,HB.out⟩
   | false =>
    rw [Fx.fitN_false hF]
    go_wp2_with fail
    refine (Kv _ _).mono ?_
    rintro e w3 ⟨rfl,e3⟩
    obtain rfl:=e3.symm
    exact⟨rfl,(congrArg endV (wn_f hF)).symm,HB.out⟩
theorem Qhv {w:yW}{b kb ko l c:Nat}{m0 m1:Nd}{r0 r1:Except Int Int}(h:K2 w b kb ko l m0 m1 r0 r1) :
  Calls zG 110 #[zP b,.slice (some kb¢ko) l c] w (OutV w (opR 7 r0 r1)):=by
 have HI0:Hid (Ok64 r0):=h.k0.i
 have HI1:Hid (Ok64 r1):=h.k1.i
 have k:=Jn (c:=c) h
 clear h
 cases r0 with
 | error e0 =>
  go_enter func110,ntmps110
  go_wp2_with fail
  refine k.mono ?_
  rintro e w1 ⟨rfl,hb⟩
  exact⟨rfl,rfl,hb⟩
 | ok x =>
  cases r1 with
  | error e1 =>
   go_enter func110,ntmps110
   go_wp2_with fail
   refine k.mono ?_
   rintro e w1 ⟨rfl,hb⟩
   exact⟨rfl,rfl,hb⟩
  | ok y =>
   go_enter func110,ntmps110
   go_wp2_with fail
   refine k.mono ?_
   rintro e w1 ⟨rfl,hb⟩
   have HB:=zH hb
   clear k hb
   unfold endB
   go_wp2_with fail
   refine (Fx.sub_any x y (HI0.out x rfl).1 (HI0.out x rfl).2 (HI1.out y rfl).1 (HI1.out y rfl).2 _).mono ?_
   rintro e w2 ⟨rfl,e2⟩
   obtain rfl:=e2.symm
   cases hF:Fx.fitB (x - y) with
   | true =>
    rw [Fx.fitN_true hF]
    go_wp2_with fail
    refine (Ka _ _).mono ?_
    rintro e w3 ⟨rfl,e3⟩
    obtain rfl:=e3.symm
    go_wp2
    go_ret
    exact⟨(congrArg endV (wn_t hF)).symm,HB.out⟩
   | false =>
    rw [Fx.fitN_false hF]
    go_wp2_with fail
    refine (Kv _ _).mono ?_
    rintro e w3 ⟨rfl,e3⟩
    obtain rfl:=e3.symm
    exact⟨rfl,(congrArg endV (wn_f hF)).symm,HB.out⟩
theorem Qii {w:yW}{b kb ko l c:Nat}{m0 m1:Nd}{r0 r1:Except Int Int}(h:K2 w b kb ko l m0 m1 r0 r1) :
  Calls zG 111 #[zP b,.slice (some kb¢ko) l c] w (OutV w (opR 8 r0 r1)):=by
 have HI0:Hid (Ok64 r0):=h.k0.i
 have HI1:Hid (Ok64 r1):=h.k1.i
 have k:=Jn (c:=c) h
 clear h
 cases r0 with
 | error e0 =>
  go_enter func111,ntmps111
  go_wp2_with fail
  refine k.mono ?_
  rintro e w1 ⟨rfl,hb⟩
  exact⟨rfl,rfl,hb⟩
 | ok x =>
  cases r1 with
  | error e1 =>
   go_enter func111,ntmps111
   go_wp2_with fail
   refine k.mono ?_
   rintro e w1 ⟨rfl,hb⟩
   exact⟨rfl,rfl,hb⟩
  | ok y =>
   go_enter func111,ntmps111
   go_wp2_with fail
   refine k.mono ?_
   rintro e w1 ⟨rfl,hb⟩
   have HB:=zH hb
   clear k hb
   unfold endB
   go_wp2_with fail
   refine (Fx.mul_any x y (HI0.out x rfl).1 (HI0.out x rfl).2 (HI1.out y rfl).1 (HI1.out y rfl).2 _).mono ?_
   rintro e w2 ⟨rfl,e2⟩
   obtain rfl:=e2.symm
   cases hF:Fx.fitB (x * y) with
   | true =>
    rw [Fx.fitN_true hF]
    go_wp2_with fail
    refine (Ka _ _).mono ?_
    rintro e w3 ⟨rfl,e3⟩
    obtain rfl:=e3.symm
    go_wp2
    go_ret
    exact⟨(congrArg endV (wn_t hF)).symm,HB.out⟩
   | false =>
    rw [Fx.fitN_false hF]
    go_wp2_with fail
    refine (Kv _ _).mono ?_
    rintro e w3 ⟨rfl,e3⟩
    obtain rfl:=e3.symm
    exact⟨rfl,(congrArg endV (wn_f hF)).symm,HB.out⟩
theorem div_op {w:yW}{b kb ko l c:Nat}{m0 m1:Nd}{r0 r1:Except Int Int}(h:K2 w b kb ko l m0 m1 r0 r1) :
  Calls zG 112 #[zP b,.slice (some kb¢ko) l c] w (OutV w (opR 9 r0 r1)):=by
 have HI0:Hid (Ok64 r0):=h.k0.i
 have HI1:Hid (Ok64 r1):=h.k1.i
 have k:=VP (c:=c) h
 clear h
 cases r0 with
 | error e0 =>
  go_enter func112,ntmps112
  go_wp2_with fail
  refine k.mono ?_
  rintro e w1 ⟨rfl,hb⟩
  exact⟨rfl,rfl,hb⟩
 | ok x =>
  cases r1 with
  | error e1 =>
   go_enter func112,ntmps112
   go_wp2_with fail
   refine k.mono ?_
   rintro e w1 ⟨rfl,hb⟩
   exact⟨rfl,rfl,hb⟩
  | ok y =>
   by_cases h0:y=0
   ·have hE:Hid (opR 9 (.ok x) (.ok y)=.error 11):=if_pos h0
    have k:Calls zG 166 #[zP b,.slice (some kb¢ko) l c] w fun e w'=>e=fltE 11∧yD w w':=k.mono (by
     rintro e w1 ⟨e1,hb⟩
     exact⟨e1.trans (if_pos h0),hb⟩)
    go_enter func112,ntmps112
    go_wp2_with fail
    refine k.mono ?_
    rintro e w1 ⟨rfl,hb⟩
    exact⟨rfl,rfl,hb⟩
   have k:Calls zG 166 #[zP b,.slice (some kb¢ko) l c] w fun e w'=>e=.returned (.tuple #[zI x,zI y])∧yD w w':=k.mono (by
    rintro e w1 ⟨e1,hb⟩
    exact⟨e1.trans (if_neg h0),hb⟩)
   have H0:Hid (¬ y=0):=h0
   go_enter func112,ntmps112
   go_wp2_with fail
   refine k.mono ?_
   rintro e w1 ⟨rfl,hb⟩
   have HB:Hid (yD w w1):=hb
   clear k hb
   go_wp2_with fail
   refine (Fx.div_any x y (HI0.out x rfl).1 (HI0.out x rfl).2 _).mono ?_
   rintro e w2 ⟨rfl,e2⟩
   obtain rfl:=e2.symm
   rw [Fx.byN_1 x H0.out,Fx.byB_1 x H0.out]
   have hE : Hid (opR 9 (.ok x) (.ok y) = wn (x.tdiv y)) := if_neg H0.out
   cases hF:Fx.fitB (x.tdiv y) with
   | true =>
    rw [Fx.fitN_true hF]
    go_wp2_with fail
    refine (Ka _ _).mono ?_
    rintro e w3 ⟨rfl,e3⟩
    obtain rfl:=e3.symm
    go_wp2
    go_ret
    exact⟨(congrArg endV (hE.out.trans (wn_t hF))).symm,HB.out⟩
   | false =>
    rw [Fx.fitN_false hF]
    go_wp2_with fail
    refine (Kv _ _).mono ?_
    rintro e w3 ⟨rfl,e3⟩
    obtain rfl:=e3.symm
    exact⟨rfl,(congrArg endV (hE.out.trans (wn_f hF))).symm,HB.out⟩
theorem Qij {w:yW}{b kb ko l c:Nat}{m0 m1:Nd}{r0 r1:Except Int Int}(h:K2 w b kb ko l m0 m1 r0 r1) :
  Calls zG 113 #[zP b,.slice (some kb¢ko) l c] w (OutV w (opR 10 r0 r1)):=by
 have HI0:Hid (Ok64 r0):=h.k0.i
 have HI1:Hid (Ok64 r1):=h.k1.i
 have k:=VP (c:=c) h
 clear h
 cases r0 with
 | error e0 =>
  go_enter func113,ntmps113
  go_wp2_with fail
  refine k.mono ?_
  rintro e w1 ⟨rfl,hb⟩
  exact⟨rfl,rfl,hb⟩
 | ok x =>
  cases r1 with
  | error e1 =>
   go_enter func113,ntmps113
   go_wp2_with fail
   refine k.mono ?_
   rintro e w1 ⟨rfl,hb⟩
   exact⟨rfl,rfl,hb⟩
  | ok y =>
   by_cases h0:y=0
   ·have hE:Hid (opR 10 (.ok x) (.ok y)=.error 11):=if_pos h0
    have k:Calls zG 166 #[zP b,.slice (some kb¢ko) l c] w fun e w'=>e=fltE 11∧yD w w':=k.mono (by
     rintro e w1 ⟨e1,hb⟩
     exact⟨e1.trans (if_pos h0),hb⟩)
    go_enter func113,ntmps113
    go_wp2_with fail
    refine k.mono ?_
    rintro e w1 ⟨rfl,hb⟩
    exact⟨rfl,rfl,hb⟩
   have k:Calls zG 166 #[zP b,.slice (some kb¢ko) l c] w fun e w'=>e=.returned (.tuple #[zI x,zI y])∧yD w w':=k.mono (by
    rintro e w1 ⟨e1,hb⟩
    exact⟨e1.trans (if_neg h0),hb⟩)
   have H0:Hid (¬ y=0):=h0
   go_enter func113,ntmps113
   go_wp2_with fail
   refine k.mono ?_
   rintro e w1 ⟨rfl,hb⟩
   have HB:Hid (yD w w1):=hb
   clear k hb
   go_wp2_with fail
   refine (Fx.mod_any x y _).mono ?_
   rintro e w2 ⟨rfl,e2⟩
   obtain rfl:=e2.symm
   rw [Fx.restN_1 x H0.out,Fx.restB_1 H0.out]
   have hE : Hid (opR 10 (.ok x) (.ok y) = .ok (x.tmod y)) := if_neg H0.out
   go_wp2_with fail
   refine (Ka _ _).mono ?_
   rintro e w3 ⟨rfl,e3⟩
   obtain rfl:=e3.symm
   go_wp2
   go_ret
   exact⟨(congrArg endV hE.out).symm,HB.out⟩
theorem eq_op {w:yW}{b kb ko l c:Nat}{m0 m1:Nd}{r0 r1:Except Int Int}(h:K2 w b kb ko l m0 m1 r0 r1) :
  Calls zG 114 #[zP b,.slice (some kb¢ko) l c] w (OutV w (opR 11 r0 r1)):=by
 have HI0:Hid (Ok64 r0):=h.k0.i
 have HI1:Hid (Ok64 r1):=h.k1.i
 have k:=Jn (c:=c) h
 clear h
 cases r0 with
 | error e0 =>
  go_enter func114,ntmps114
  go_wp2_with fail
  refine k.mono ?_
  rintro e w1 ⟨rfl,hb⟩
  exact⟨rfl,rfl,hb⟩
 | ok x =>
  cases r1 with
  | error e1 =>
   go_enter func114,ntmps114
   go_wp2_with fail
   refine k.mono ?_
   rintro e w1 ⟨rfl,hb⟩
   exact⟨rfl,rfl,hb⟩
  | ok y =>
   go_enter func114,ntmps114
   go_wp2_with fail
   refine k.mono ?_
   rintro e w1 ⟨rfl,hb⟩
   have HB:=zH hb
   clear k hb
   unfold endB
   go_wp2_with fail
   refine (Fx.cmp_any x y _).mono ?_
   rintro e w2 ⟨rfl,e2⟩
   obtain rfl:=e2.symm
   go_wp2_with fail
   refine (JS _ _).mono ?_
   rintro e w3 ⟨rfl,e3⟩
   obtain rfl:=e3.symm
   go_wp2
   go_ret
   exact⟨congrArg (fun b=>endV (.ok (tru b))) (show _=decide (x=y) by unfold Fx.cmpN;by_cases h1:x < y <;> by_cases h2:y < x <;> simp [h1,h2] <;> omega),HB.out⟩
theorem ne_op {w:yW}{b kb ko l c:Nat}{m0 m1:Nd}{r0 r1:Except Int Int}(h:K2 w b kb ko l m0 m1 r0 r1) :
  Calls zG 115 #[zP b,.slice (some kb¢ko) l c] w (OutV w (opR 12 r0 r1)):=by
 have HI0:Hid (Ok64 r0):=h.k0.i
 have HI1:Hid (Ok64 r1):=h.k1.i
 have k:=Jn (c:=c) h
 clear h
 cases r0 with
 | error e0 =>
  go_enter func115,ntmps115
  go_wp2_with fail
  refine k.mono ?_
  rintro e w1 ⟨rfl,hb⟩
  exact⟨rfl,rfl,hb⟩
 | ok x =>
  cases r1 with
  | error e1 =>
   go_enter func115,ntmps115
   go_wp2_with fail
   refine k.mono ?_
   rintro e w1 ⟨rfl,hb⟩
   exact⟨rfl,rfl,hb⟩
  | ok y =>
   go_enter func115,ntmps115
   go_wp2_with fail
   refine k.mono ?_
   rintro e w1 ⟨rfl,hb⟩
   have HB:=zH hb
   clear k hb
   unfold endB
   go_wp2_with fail
   refine (Fx.cmp_any x y _).mono ?_
   rintro e w2 ⟨rfl,e2⟩
   obtain rfl:=e2.symm
   go_wp2_with fail
   refine (JS _ _).mono ?_
   rintro e w3 ⟨rfl,e3⟩
   obtain rfl:=e3.symm
   go_wp2
   go_ret
   exact⟨congrArg (fun b=>endV (.ok (tru b))) (show _=decide (x≠y) by unfold Fx.cmpN;by_cases h1:x < y <;> by_cases h2:y < x <;> simp [h1,h2] <;> omega),HB.out⟩
theorem lt_op {w:yW}{b kb ko l c:Nat}{m0 m1:Nd}{r0 r1:Except Int Int}(h:K2 w b kb ko l m0 m1 r0 r1) :
  Calls zG 116 #[zP b,.slice (some kb¢ko) l c] w (OutV w (opR 13 r0 r1)):=by
 have HI0:Hid (Ok64 r0):=h.k0.i
 have HI1:Hid (Ok64 r1):=h.k1.i
 have k:=Jn (c:=c) h
 clear h
 cases r0 with
 | error e0 =>
  go_enter func116,ntmps116
  go_wp2_with fail
  refine k.mono ?_
  rintro e w1 ⟨rfl,hb⟩
  exact⟨rfl,rfl,hb⟩
 | ok x =>
  cases r1 with
  | error e1 =>
   go_enter func116,ntmps116
   go_wp2_with fail
   refine k.mono ?_
   rintro e w1 ⟨rfl,hb⟩
   exact⟨rfl,rfl,hb⟩
  | ok y =>
   go_enter func116,ntmps116
   go_wp2_with fail
   refine k.mono ?_
   rintro e w1 ⟨rfl,hb⟩
   have HB:=zH hb
   clear k hb
   unfold endB
   go_wp2_with fail
   refine (Fx.cmp_any x y _).mono ?_
   rintro e w2 ⟨rfl,e2⟩
   obtain rfl:=e2.symm
   go_wp2_with fail
   refine (JS _ _).mono ?_
   rintro e w3 ⟨rfl,e3⟩
   obtain rfl:=e3.symm
   go_wp2
   go_ret
   exact⟨congrArg (fun b=>endV (.ok (tru b))) (show _=decide (x < y) by unfold Fx.cmpN;by_cases h1:x < y <;> by_cases h2:y < x <;> simp [h1,h2] <;> omega),HB.out⟩
theorem le_op {w:yW}{b kb ko l c:Nat}{m0 m1:Nd}{r0 r1:Except Int Int}(h:K2 w b kb ko l m0 m1 r0 r1) :
  Calls zG 117 #[zP b,.slice (some kb¢ko) l c] w (OutV w (opR 14 r0 r1)):=by
 have HI0:Hid (Ok64 r0):=h.k0.i
 have HI1:Hid (Ok64 r1):=h.k1.i
 have k:=Jn (c:=c) h
 clear h
 cases r0 with
 | error e0 =>
  go_enter func117,ntmps117
  go_wp2_with fail
  refine k.mono ?_
  rintro e w1 ⟨rfl,hb⟩
  exact⟨rfl,rfl,hb⟩
 | ok x =>
  cases r1 with
  | error e1 =>
   go_enter func117,ntmps117
   go_wp2_with fail
   refine k.mono ?_
   rintro e w1 ⟨rfl,hb⟩
   exact⟨rfl,rfl,hb⟩
  | ok y =>
   go_enter func117,ntmps117
   go_wp2_with fail
   refine k.mono ?_
   rintro e w1 ⟨rfl,hb⟩
   have HB:=zH hb
   clear k hb
   unfold endB
   go_wp2_with fail
   refine (Fx.cmp_any x y _).mono ?_
   rintro e w2 ⟨rfl,e2⟩
   obtain rfl:=e2.symm
   go_wp2_with fail
   refine (JS _ _).mono ?_
   rintro e w3 ⟨rfl,e3⟩
   obtain rfl:=e3.symm
   go_wp2
   go_ret
   exact⟨congrArg (fun b=>endV (.ok (tru b))) (show _=decide (x≤y) by unfold Fx.cmpN;by_cases h1:x < y <;> by_cases h2:y < x <;> simp [h1,h2] <;> omega),HB.out⟩
theorem gt_op {w:yW}{b kb ko l c:Nat}{m0 m1:Nd}{r0 r1:Except Int Int}(h:K2 w b kb ko l m0 m1 r0 r1) :
  Calls zG 118 #[zP b,.slice (some kb¢ko) l c] w (OutV w (opR 15 r0 r1)):=by
 have HI0:Hid (Ok64 r0):=h.k0.i
 have HI1:Hid (Ok64 r1):=h.k1.i
 have k:=Jn (c:=c) h
 clear h
 cases r0 with
 | error e0 =>
  go_enter func118,ntmps118
  go_wp2_with fail
  refine k.mono ?_
  rintro e w1 ⟨rfl,hb⟩
  exact⟨rfl,rfl,hb⟩
 | ok x =>
  cases r1 with
  | error e1 =>
   go_enter func118,ntmps118
   go_wp2_with fail
   refine k.mono ?_
   rintro e w1 ⟨rfl,hb⟩
   exact⟨rfl,rfl,hb⟩
  | ok y =>
   go_enter func118,ntmps118
   go_wp2_with fail
   refine k.mono ?_
   rintro e w1 ⟨rfl,hb⟩
   have HB:=zH hb
   clear k hb
   unfold endB
   go_wp2_with fail
   refine (Fx.cmp_any x y _).mono ?_
   rintro e w2 ⟨rfl,e2⟩
   obtain rfl:=e2.symm
   go_wp2_with fail
   refine (JS _ _).mono ?_
   rintro e w3 ⟨rfl,e3⟩
   obtain rfl:=e3.symm
   go_wp2
   go_ret
   exact⟨congrArg (fun b=>endV (.ok (tru b))) (show _=decide (y < x) by unfold Fx.cmpN;by_cases h1:x < y <;> by_cases h2:y < x <;> simp [h1,h2] <;> omega),HB.out⟩
theorem ge_op {w:yW}{b kb ko l c:Nat}{m0 m1:Nd}{r0 r1:Except Int Int}(h:K2 w b kb ko l m0 m1 r0 r1) :
  Calls zG 119 #[zP b,.slice (some kb¢ko) l c] w (OutV w (opR 16 r0 r1)):=by
 have HI0:Hid (Ok64 r0):=h.k0.i
 have HI1:Hid (Ok64 r1):=h.k1.i
 have k:=Jn (c:=c) h
 clear h
 cases r0 with
 | error e0 =>
  go_enter func119,ntmps119
  go_wp2_with fail
  refine k.mono ?_
  rintro e w1 ⟨rfl,hb⟩
  exact⟨rfl,rfl,hb⟩
 | ok x =>
  cases r1 with
  | error e1 =>
   go_enter func119,ntmps119
   go_wp2_with fail
   refine k.mono ?_
   rintro e w1 ⟨rfl,hb⟩
   exact⟨rfl,rfl,hb⟩
  | ok y =>
   go_enter func119,ntmps119
   go_wp2_with fail
   refine k.mono ?_
   rintro e w1 ⟨rfl,hb⟩
   have HB:=zH hb
   clear k hb
   unfold endB
   go_wp2_with fail
   refine (Fx.cmp_any x y _).mono ?_
   rintro e w2 ⟨rfl,e2⟩
   obtain rfl:=e2.symm
   go_wp2_with fail
   refine (JS _ _).mono ?_
   rintro e w3 ⟨rfl,e3⟩
   obtain rfl:=e3.symm
   go_wp2
   go_ret
   exact⟨congrArg (fun b=>endV (.ok (tru b))) (show _=decide (y≤x) by unfold Fx.cmpN;by_cases h1:x < y <;> by_cases h2:y < x <;> simp [h1,h2] <;> omega),HB.out⟩
theorem and_op {w:yW}{b kb ko l c:Nat}{m0 m1:Nd}{r0 r1:Except Int Int}(h:K2 w b kb ko l m0 m1 r0 r1) :
  Calls zG 120 #[zP b,.slice (some kb¢ko) l c] w (OutV w (opR 17 r0 r1)):=by
 have h1l:(1:Int) < (l:Int):=by have:=h.l;omega
 have h0l:(0:Int) < (l:Int):=by have:=h.l;omega
 have q:=h.h0
 simp only [Nat.zero_mul,Nat.add_zero] at q
 obtain⟨y0,y1,y2,y3,y4,y5,y6,y7⟩:=q
 have HK1:Hid (KC w b m1 r1):=h.k1
 have H1:=zH h.h1
 cases r0 with
 | error e0 =>
  have k:=h.k0.err w (Below.refl _ _)
  clear h
  go_enter func120,ntmps120
  go_wp2_with fail
  refine k.mono ?_
  rintro e w1 ⟨rfl,hb⟩
  exact⟨rfl,rfl,hb⟩
 | ok x =>
  have k:=h.k0.ok w (Below.refl _ _)
  clear h
  by_cases hx:x=0
  ·subst hx
   go_enter func120,ntmps120
   go_wp2_with fail
   refine k.mono ?_
   rintro e w1 ⟨rfl,hb⟩
   clear k
   go_wp2
   go_ret
   exact⟨rfl,hb⟩
  ·have hx':(x == 0)=false:=by simpa using hx
   have hE:Hid (opR 17 (.ok x) r1=r1):=by
    show opR 17 (.ok x) r1=r1
    unfold opR
    dsimp only
    rw [if_neg (show ¬ ((17:Int)≤3) by decide),if_neg (show ¬ ((17:Int)=17∧x=0) from fun k=>by first | exact hx k.2 | exact absurd k.1 (by decide)),if_neg (show ¬ ((17:Int)=18∧x=1) from fun k=>by first | exact hx k.2 | exact absurd k.1 (by decide))]
    cases r1 with
    | error e=>rfl
    | ok z=>rfl
   rw [hE.out]
   go_enter func120,ntmps120
   go_wp2_with fail
   refine k.mono ?_
   rintro e w1 ⟨rfl,hb⟩
   have HB:=zH hb
   obtain⟨z0,z1,z2,z3,z4,z5,z6,z7⟩:=H1.out.on hb
   clear k hb y0 y1 y2 y3 y4 y5 y6 y7
   cases r1 with
   | error e1 =>
    have k:=(HK1.out.on HB.out).err w1 (Below.refl _ _)
    go_wp2_with fail
    refine k.mono ?_
    rintro e w2 ⟨rfl,hb⟩
    exact⟨rfl,rfl,Qm HB.out hb⟩
   | ok z =>
    have k:=(HK1.out.on HB.out).ok w1 (Below.refl _ _)
    go_wp2_with fail
    refine k.mono ?_
    rintro e w2 ⟨rfl,hb⟩
    have HB2:=zH (Qm HB.out hb)
    clear k hb
    go_wp2
    go_ret
    exact⟨rfl,HB2.out⟩
theorem or_op {w:yW}{b kb ko l c:Nat}{m0 m1:Nd}{r0 r1:Except Int Int}(h:K2 w b kb ko l m0 m1 r0 r1) :
  Calls zG 121 #[zP b,.slice (some kb¢ko) l c] w (OutV w (opR 18 r0 r1)):=by
 have h1l:(1:Int) < (l:Int):=by have:=h.l;omega
 have h0l:(0:Int) < (l:Int):=by have:=h.l;omega
 have q:=h.h0
 simp only [Nat.zero_mul,Nat.add_zero] at q
 obtain⟨y0,y1,y2,y3,y4,y5,y6,y7⟩:=q
 have HK1:Hid (KC w b m1 r1):=h.k1
 have H1:=zH h.h1
 cases r0 with
 | error e0 =>
  have k:=h.k0.err w (Below.refl _ _)
  clear h
  go_enter func121,ntmps121
  go_wp2_with fail
  refine k.mono ?_
  rintro e w1 ⟨rfl,hb⟩
  exact⟨rfl,rfl,hb⟩
 | ok x =>
  have k:=h.k0.ok w (Below.refl _ _)
  clear h
  by_cases hx:x=1
  ·subst hx
   go_enter func121,ntmps121
   go_wp2_with fail
   refine k.mono ?_
   rintro e w1 ⟨rfl,hb⟩
   clear k
   go_wp2
   go_ret
   exact⟨rfl,hb⟩
  ·have hx':(x == 1)=false:=by simpa using hx
   have hE:Hid (opR 18 (.ok x) r1=r1):=by
    show opR 18 (.ok x) r1=r1
    unfold opR
    dsimp only
    rw [if_neg (show ¬ ((18:Int)≤3) by decide),if_neg (show ¬ ((18:Int)=17∧x=0) from fun k=>by first | exact hx k.2 | exact absurd k.1 (by decide)),if_neg (show ¬ ((18:Int)=18∧x=1) from fun k=>by first | exact hx k.2 | exact absurd k.1 (by decide))]
    cases r1 with
    | error e=>rfl
    | ok z=>rfl
   rw [hE.out]
   go_enter func121,ntmps121
   go_wp2_with fail
   refine k.mono ?_
   rintro e w1 ⟨rfl,hb⟩
   have HB:=zH hb
   obtain⟨z0,z1,z2,z3,z4,z5,z6,z7⟩:=H1.out.on hb
   clear k hb y0 y1 y2 y3 y4 y5 y6 y7
   cases r1 with
   | error e1 =>
    have k:=(HK1.out.on HB.out).err w1 (Below.refl _ _)
    go_wp2_with fail
    refine k.mono ?_
    rintro e w2 ⟨rfl,hb⟩
    exact⟨rfl,rfl,Qm HB.out hb⟩
   | ok z =>
    have k:=(HK1.out.on HB.out).ok w1 (Below.refl _ _)
    go_wp2_with fail
    refine k.mono ?_
    rintro e w2 ⟨rfl,hb⟩
    have HB2:=zH (Qm HB.out hb)
    clear k hb
    go_wp2
    go_ret
    exact⟨rfl,HB2.out⟩
end Go.Proofs.YtfbjofnaghjmeaaGreatDoor
