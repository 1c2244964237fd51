import Derived.Test.YtfbjofnaghjmeaaGreatDoorA0
import Derived.Test.YtfbjofnaghjmeaaGreatDoorA27
import Derived.Test.YtfbjofnaghjmeaaGreatDoorA11
import Derived.Laws.Tables
import Derived.Deep.MidRow
import Derived.Maps.OwnOps
namespace Go.Proofs.YtfbjofnaghjmeaaGreatDoor
set_option maxRecDepth 100000
open Go.RowKit
theorem wn_t {x:Int}(h:Fx.fitB x=true):wn x=.ok x:=if_pos h
theorem wn_f {x:Int}(h:Fx.fitB x=false):wn x=.error 10:=by unfold wn; rw [h]; rfl
theorem run_min2 (x y:Int):Builtin.min_ #[2,2] 2 #[zI x,zI y]=pure (zI (if y < x then y else x)):=by
 show (Builtin.min2 (zI x) (zI y) >>= fun v=>pure v)=_
 show (pure (Value.int .i64 (if y < x then y else x)) >>= fun v=>(pure v:Sem Value))=_
 rfl
theorem run_max2 (x y:Int):Builtin.max_ #[2,2] 2 #[zI x,zI y]=pure (zI (if y > x then y else x)):=by
 show (Builtin.max2 (zI x) (zI y) >>= fun v=>pure v)=_
 show (pure (Value.int .i64 (if y > x then y else x)) >>= fun v=>(pure v:Sem Value))=_
 rfl
structure K1 (w:yW) (b kb ko l:Nat) (m0:Nd) (r0:Except Int Int):Prop where
 l:0 < l
 h0:NdAt w kb (ko+0 * 8) m0
 k0:KC w b m0 r0
theorem neg_op {w:yW}{b kb ko l c:Nat}{m0:Nd}{r0 r1:Except Int Int}(h:K1 w b kb ko l m0 r0) :
  Calls zG 104 #[zP b,.slice (some kb¢ko) l c] w (OutV w (opR 1 r0 r1)):=by
 have h0l:(0:Int) < (l:Int):=by have:=h.l; omega
 have q:=h.h0
 simp only [Nat.zero_mul,Nat.add_zero] at q
 obtain⟨y0,y1,y2,y3,y4,y5,y6,y7⟩:=q
 have HI:Hid (Ok64 r0):=h.k0.i
 cases r0 with
 | error e0 =>
  have k:=h.k0.err w (Below.refl _ _)
  clear h
  go_enter Tryz.func104,Tryz.ntmps104
  go_wp2_with fail
  refine k.mono ?_
  rintro e w1 ⟨rfl,hb⟩
  exact⟨rfl,rfl,hb⟩
 | ok x =>
  have k:=h.k0.ok w (Below.refl _ _)
  clear h
  go_enter Tryz.func104,Tryz.ntmps104
  go_wp2_with fail
  refine k.mono ?_
  rintro e w1 ⟨rfl,hb⟩
  have HB:Hid (yD w w1):=hb
  clear k hb
  go_wp2_with fail
  refine (Fx.neg_any x (HI.out x rfl).1 (HI.out x rfl).2 _).mono ?_
  rintro e w2 ⟨rfl,e2⟩
  obtain rfl:=e2.symm
  cases hF:Fx.fitB (-x) with
  | true =>
   rw [Fx.fitN_true hF]
   go_wp2_with fail
   refine (within_t _ _).mono ?_
   rintro e w3 ⟨rfl,e3⟩
   obtain rfl:=e3.symm
   go_wp2_with fail
   go_ret
   exact⟨(congrArg endV (wn_t hF)).symm,HB.out⟩
  | false =>
   rw [Fx.fitN_false hF]
   go_wp2_with fail
   refine (within_f _ _).mono ?_
   rintro e w3 ⟨rfl,e3⟩
   obtain rfl:=e3.symm
   exact⟨rfl,(congrArg endV (wn_f hF)).symm,HB.out⟩
theorem not_op {w:yW}{b kb ko l c:Nat}{m0:Nd}{r0 r1:Except Int Int}(h:K1 w b kb ko l m0 r0) :
  Calls zG 105 #[zP b,.slice (some kb¢ko) l c] w (OutV w (opR 2 r0 r1)):=by
 have h0l:(0:Int) < (l:Int):=by have:=h.l; omega
 have q:=h.h0
 simp only [Nat.zero_mul,Nat.add_zero] at q
 obtain⟨y0,y1,y2,y3,y4,y5,y6,y7⟩:=q
 have HI:Hid (Ok64 r0):=h.k0.i
 cases r0 with
 | error e0 =>
  have k:=h.k0.err w (Below.refl _ _)
  clear h
  go_enter Tryz.func105,Tryz.ntmps105
  go_wp2_with fail
  refine k.mono ?_
  rintro e w1 ⟨rfl,hb⟩
  exact⟨rfl,rfl,hb⟩
 | ok x =>
  have k:=h.k0.ok w (Below.refl _ _)
  clear h
  go_enter Tryz.func105,Tryz.ntmps105
  go_wp2_with fail
  refine k.mono ?_
  rintro e w1 ⟨rfl,hb⟩
  have HB:Hid (yD w w1):=hb
  clear k hb
  go_wp2_with fail
  go_ret
  exact⟨rfl,HB.out⟩
theorem abs_op {w:yW}{b kb ko l c:Nat}{m0:Nd}{r0 r1:Except Int Int}(h:K1 w b kb ko l m0 r0) :
  Calls zG 106 #[zP b,.slice (some kb¢ko) l c] w (OutV w (opR 3 r0 r1)):=by
 have h0l:(0:Int) < (l:Int):=by have:=h.l; omega
 have q:=h.h0
 simp only [Nat.zero_mul,Nat.add_zero] at q
 obtain⟨y0,y1,y2,y3,y4,y5,y6,y7⟩:=q
 have HI:Hid (Ok64 r0):=h.k0.i
 cases r0 with
 | error e0 =>
  have k:=h.k0.err w (Below.refl _ _)
  clear h
  go_enter Tryz.func106,Tryz.ntmps106
  go_wp2_with fail
  refine k.mono ?_
  rintro e w1 ⟨rfl,hb⟩
  exact⟨rfl,rfl,hb⟩
 | ok x =>
  have k:=h.k0.ok w (Below.refl _ _)
  clear h
  go_enter Tryz.func106,Tryz.ntmps106
  go_wp2_with fail
  refine k.mono ?_
  rintro e w1 ⟨rfl,hb⟩
  have HB:Hid (yD w w1):=hb
  clear k hb
  by_cases hx:x < 0
  ·have hE:Hid (opR 3 (.ok x) r1=wn (-x)):=by show op1 3 x=_; unfold op1; rw [if_neg (by decide),if_neg (by decide),if_pos hx]
   go_wp2_with fail
   refine (Fx.neg_any x (HI.out x rfl).1 (HI.out x rfl).2 _).mono ?_
   rintro e w2 ⟨rfl,e2⟩
   obtain rfl:=e2.symm
   cases hF:Fx.fitB (-x) with
   | true =>
    rw [Fx.fitN_true hF]
    go_wp2_with fail
    refine (within_t _ _).mono ?_
    rintro e w3 ⟨rfl,e3⟩
    obtain rfl:=e3.symm
    go_wp2_with fail
    go_ret
    exact⟨(congrArg endV (hE.out.trans (wn_t hF))).symm,HB.out⟩
   | false =>
    rw [Fx.fitN_false hF]
    go_wp2_with fail
    refine (within_f _ _).mono ?_
    rintro e w3 ⟨rfl,e3⟩
    obtain rfl:=e3.symm
    exact⟨rfl,(congrArg endV (hE.out.trans (wn_f hF))).symm,HB.out⟩
  ·have hE:Hid (opR 3 (.ok x) r1=.ok x):=by show op1 3 x=_; unfold op1; rw [if_neg (by decide),if_neg (by decide),if_neg hx]
   go_wp2_with fail
   go_ret
   exact⟨(congrArg endV hE.out).symm,HB.out⟩
theorem min_op {w:yW}{b kb ko l c:Nat}{m0 m1:Nd}{r0 r1:Except Int Int}(h:K2 w b kb ko l m0 m1 r0 r1) :
  Calls zG 107 #[zP b,.slice (some kb¢ko) l c] w (OutV w (opR 4 r0 r1)):=by
 have HI0:Hid (Ok64 r0):=h.k0.i
 have HI1:Hid (Ok64 r1):=h.k1.i
 have k:=both_any (c:=c) h
 clear h
 cases r0 with
 | error e0 =>
  go_enter Tryz.func107,Tryz.ntmps107
  go_wp2_with fail
  refine k.mono ?_
  rintro e w1 ⟨rfl,hb⟩
  exact⟨rfl,rfl,hb⟩
 | ok x =>
  cases r1 with
  | error e1 =>
   go_enter Tryz.func107,Tryz.ntmps107
   go_wp2_with fail
   refine k.mono ?_
   rintro e w1 ⟨rfl,hb⟩
   exact⟨rfl,rfl,hb⟩
  | ok y =>
   go_enter Tryz.func107,Tryz.ntmps107
   go_wp2_with fail
   refine k.mono ?_
   rintro e w1 ⟨rfl,hb⟩
   have HB:Hid (yD w w1):=hb
   clear k hb
   unfold endB
   have hm:=fun x y=>run_min2 x y
   go_wp2_with fail
   all_goals go_ret
   all_goals refine⟨?_,HB.out⟩
   all_goals (show Ending.returned (zI _)=.returned (zI (if x < y then x else y)); split <;> first | rfl | (congr 2; omega))
theorem max_op {w:yW}{b kb ko l c:Nat}{m0 m1:Nd}{r0 r1:Except Int Int}(h:K2 w b kb ko l m0 m1 r0 r1) :
  Calls zG 108 #[zP b,.slice (some kb¢ko) l c] w (OutV w (opR 5 r0 r1)):=by
 have HI0:Hid (Ok64 r0):=h.k0.i
 have HI1:Hid (Ok64 r1):=h.k1.i
 have k:=both_any (c:=c) h
 clear h
 cases r0 with
 | error e0 =>
  go_enter Tryz.func108,Tryz.ntmps108
  go_wp2_with fail
  refine k.mono ?_
  rintro e w1 ⟨rfl,hb⟩
  exact⟨rfl,rfl,hb⟩
 | ok x =>
  cases r1 with
  | error e1 =>
   go_enter Tryz.func108,Tryz.ntmps108
   go_wp2_with fail
   refine k.mono ?_
   rintro e w1 ⟨rfl,hb⟩
   exact⟨rfl,rfl,hb⟩
  | ok y =>
   go_enter Tryz.func108,Tryz.ntmps108
   go_wp2_with fail
   refine k.mono ?_
   rintro e w1 ⟨rfl,hb⟩
   have HB:Hid (yD w w1):=hb
   clear k hb
   unfold endB
   have hm:=fun x y=>run_max2 x y
   go_wp2_with fail
   all_goals go_ret
   all_goals refine⟨?_,HB.out⟩
   all_goals (show Ending.returned (zI _)=.returned (zI (if y < x then x else y)); split <;> first | rfl | (congr 2; omega))
theorem add_op {w:yW}{b kb ko l c:Nat}{m0 m1:Nd}{r0 r1:Except Int Int}(h:K2 w b kb ko l m0 m1 r0 r1) :
  Calls zG 109 #[zP b,.slice (some kb¢ko) l c] w (OutV w (opR 6 r0 r1)):=by
 have HI0:Hid (Ok64 r0):=h.k0.i
 have HI1:Hid (Ok64 r1):=h.k1.i
 have k:=both_any (c:=c) h
 clear h
 cases r0 with
 | error e0 =>
  go_enter Tryz.func109,Tryz.ntmps109
  go_wp2_with fail
  refine k.mono ?_
  rintro e w1 ⟨rfl,hb⟩
  exact⟨rfl,rfl,hb⟩
 | ok x =>
  cases r1 with
  | error e1 =>
   go_enter Tryz.func109,Tryz.ntmps109
   go_wp2_with fail
   refine k.mono ?_
   rintro e w1 ⟨rfl,hb⟩
   exact⟨rfl,rfl,hb⟩
  | ok y =>
   go_enter Tryz.func109,Tryz.ntmps109
   go_wp2_with fail
   refine k.mono ?_
   rintro e w1 ⟨rfl,hb⟩
   have HB:Hid (yD w w1):=hb
   clear k hb
   unfold endB
   go_wp2_with fail
   refine (Fx.add_any x y (HI0.out x rfl).1 (HI0.out x rfl).2 (HI1.out y rfl).1 (HI1.out y rfl).2 _).mono ?_
   rintro e w2 ⟨rfl,e2⟩
   obtain rfl:=e2.symm
   cases hF:Fx.fitB (x+y) with
   | true =>
    rw [Fx.fitN_true hF]
    go_wp2_with fail
    refine (within_t _ _).mono ?_
    rintro e w3 ⟨rfl,e3⟩
    obtain rfl:=e3.symm
    go_wp2_with fail
    go_ret
    exact⟨(congrArg endV (wn_t hF)).symm,HB.out⟩
   | false =>
    rw [Fx.fitN_false hF]
    go_wp2_with fail
    refine (within_f _ _).mono ?_
    rintro e w3 ⟨rfl,e3⟩
    obtain rfl:=e3.symm
    exact⟨rfl,(congrArg endV (wn_f hF)).symm,HB.out⟩
theorem sub_op {w:yW}{b kb ko l c:Nat}{m0 m1:Nd}{r0 r1:Except Int Int}(h:K2 w b kb ko l m0 m1 r0 r1) :
  Calls zG 110 #[zP b,.slice (some kb¢ko) l c] w (OutV w (opR 7 r0 r1)):=by
 have HI0:Hid (Ok64 r0):=h.k0.i
 have HI1:Hid (Ok64 r1):=h.k1.i
 have k:=both_any (c:=c) h
 clear h
 cases r0 with
 | error e0 =>
  go_enter Tryz.func110,Tryz.ntmps110
  go_wp2_with fail
  refine k.mono ?_
  rintro e w1 ⟨rfl,hb⟩
  exact⟨rfl,rfl,hb⟩
 | ok x =>
  cases r1 with
  | error e1 =>
   go_enter Tryz.func110,Tryz.ntmps110
   go_wp2_with fail
   refine k.mono ?_
   rintro e w1 ⟨rfl,hb⟩
   exact⟨rfl,rfl,hb⟩
  | ok y =>
   go_enter Tryz.func110,Tryz.ntmps110
   go_wp2_with fail
   refine k.mono ?_
   rintro e w1 ⟨rfl,hb⟩
   have HB:Hid (yD w w1):=hb
   clear k hb
   unfold endB
   go_wp2_with fail
   refine (Fx.sub_any x y (HI0.out x rfl).1 (HI0.out x rfl).2 (HI1.out y rfl).1 (HI1.out y rfl).2 _).mono ?_
   rintro e w2 ⟨rfl,e2⟩
   obtain rfl:=e2.symm
   cases hF:Fx.fitB (x - y) with
   | true =>
    rw [Fx.fitN_true hF]
    go_wp2_with fail
    refine (within_t _ _).mono ?_
    rintro e w3 ⟨rfl,e3⟩
    obtain rfl:=e3.symm
    go_wp2_with fail
    go_ret
    exact⟨(congrArg endV (wn_t hF)).symm,HB.out⟩
   | false =>
    rw [Fx.fitN_false hF]
    go_wp2_with fail
    refine (within_f _ _).mono ?_
    rintro e w3 ⟨rfl,e3⟩
    obtain rfl:=e3.symm
    exact⟨rfl,(congrArg endV (wn_f hF)).symm,HB.out⟩
theorem mul_op {w:yW}{b kb ko l c:Nat}{m0 m1:Nd}{r0 r1:Except Int Int}(h:K2 w b kb ko l m0 m1 r0 r1) :
  Calls zG 111 #[zP b,.slice (some kb¢ko) l c] w (OutV w (opR 8 r0 r1)):=by
 have HI0:Hid (Ok64 r0):=h.k0.i
 have HI1:Hid (Ok64 r1):=h.k1.i
 have k:=both_any (c:=c) h
 clear h
 cases r0 with
 | error e0 =>
  go_enter Tryz.func111,Tryz.ntmps111
  go_wp2_with fail
  refine k.mono ?_
  rintro e w1 ⟨rfl,hb⟩
  exact⟨rfl,rfl,hb⟩
 | ok x =>
  cases r1 with
  | error e1 =>
   go_enter Tryz.func111,Tryz.ntmps111
   go_wp2_with fail
   refine k.mono ?_
   rintro e w1 ⟨rfl,hb⟩
   exact⟨rfl,rfl,hb⟩
  | ok y =>
   go_enter Tryz.func111,Tryz.ntmps111
   go_wp2_with fail
   refine k.mono ?_
   rintro e w1 ⟨rfl,hb⟩
   have HB:Hid (yD w w1):=hb
   clear k hb
   unfold endB
   go_wp2_with fail
   refine (Fx.mul_any x y (HI0.out x rfl).1 (HI0.out x rfl).2 (HI1.out y rfl).1 (HI1.out y rfl).2 _).mono ?_
   rintro e w2 ⟨rfl,e2⟩
   obtain rfl:=e2.symm
   cases hF:Fx.fitB (x * y) with
   | true =>
    rw [Fx.fitN_true hF]
    go_wp2_with fail
    refine (within_t _ _).mono ?_
    rintro e w3 ⟨rfl,e3⟩
    obtain rfl:=e3.symm
    go_wp2_with fail
    go_ret
    exact⟨(congrArg endV (wn_t hF)).symm,HB.out⟩
   | false =>
    rw [Fx.fitN_false hF]
    go_wp2_with fail
    refine (within_f _ _).mono ?_
    rintro e w3 ⟨rfl,e3⟩
    obtain rfl:=e3.symm
    exact⟨rfl,(congrArg endV (wn_f hF)).symm,HB.out⟩
theorem div_op {w:yW}{b kb ko l c:Nat}{m0 m1:Nd}{r0 r1:Except Int Int}(h:K2 w b kb ko l m0 m1 r0 r1) :
  Calls zG 112 #[zP b,.slice (some kb¢ko) l c] w (OutV w (opR 9 r0 r1)):=by
 have HI0:Hid (Ok64 r0):=h.k0.i
 have HI1:Hid (Ok64 r1):=h.k1.i
 have k:=ratio_any (c:=c) h
 clear h
 cases r0 with
 | error e0 =>
  go_enter Tryz.func112,Tryz.ntmps112
  go_wp2_with fail
  refine k.mono ?_
  rintro e w1 ⟨rfl,hb⟩
  exact⟨rfl,rfl,hb⟩
 | ok x =>
  cases r1 with
  | error e1 =>
   go_enter Tryz.func112,Tryz.ntmps112
   go_wp2_with fail
   refine k.mono ?_
   rintro e w1 ⟨rfl,hb⟩
   exact⟨rfl,rfl,hb⟩
  | ok y =>
   by_cases h0:y=0
   ·have hE:Hid (opR 9 (.ok x) (.ok y)=.error 11):=if_pos h0
    have k:Calls zG 166 #[zP b,.slice (some kb¢ko) l c] w fun e w'=>e=fltE 11∧yD w w':=k.mono (by
     rintro e w1 ⟨e1,hb⟩
     exact⟨e1.trans (if_pos h0),hb⟩)
    go_enter Tryz.func112,Tryz.ntmps112
    go_wp2_with fail
    refine k.mono ?_
    rintro e w1 ⟨rfl,hb⟩
    exact⟨rfl,rfl,hb⟩
   have k:Calls zG 166 #[zP b,.slice (some kb¢ko) l c] w fun e w'=>e=.returned (.tuple #[zI x,zI y])∧yD w w':=k.mono (by
    rintro e w1 ⟨e1,hb⟩
    exact⟨e1.trans (if_neg h0),hb⟩)
   have H0:Hid (¬ y=0):=h0
   go_enter Tryz.func112,Tryz.ntmps112
   go_wp2_with fail
   refine k.mono ?_
   rintro e w1 ⟨rfl,hb⟩
   have HB:Hid (yD w w1):=hb
   clear k hb
   go_wp2_with fail
   refine (Fx.div_any x y (HI0.out x rfl).1 (HI0.out x rfl).2 _).mono ?_
   rintro e w2 ⟨rfl,e2⟩
   obtain rfl:=e2.symm
   rw [Fx.byN_1 x H0.out,Fx.byB_1 x H0.out]
   have hE:Hid (opR 9 (.ok x) (.ok y)=wn (x.tdiv y)):=if_neg H0.out
   cases hF:Fx.fitB (x.tdiv y) with
   | true =>
    rw [Fx.fitN_true hF]
    go_wp2_with fail
    refine (within_t _ _).mono ?_
    rintro e w3 ⟨rfl,e3⟩
    obtain rfl:=e3.symm
    go_wp2_with fail
    go_ret
    exact⟨(congrArg endV (hE.out.trans (wn_t hF))).symm,HB.out⟩
   | false =>
    rw [Fx.fitN_false hF]
    go_wp2_with fail
    refine (within_f _ _).mono ?_
    rintro e w3 ⟨rfl,e3⟩
    obtain rfl:=e3.symm
    exact⟨rfl,(congrArg endV (hE.out.trans (wn_f hF))).symm,HB.out⟩
theorem mod_op {w:yW}{b kb ko l c:Nat}{m0 m1:Nd}{r0 r1:Except Int Int}(h:K2 w b kb ko l m0 m1 r0 r1) :
  Calls zG 113 #[zP b,.slice (some kb¢ko) l c] w (OutV w (opR 10 r0 r1)):=by
 have HI0:Hid (Ok64 r0):=h.k0.i
 have HI1:Hid (Ok64 r1):=h.k1.i
 have k:=ratio_any (c:=c) h
 clear h
 cases r0 with
 | error e0 =>
  go_enter Tryz.func113,Tryz.ntmps113
  go_wp2_with fail
  refine k.mono ?_
  rintro e w1 ⟨rfl,hb⟩
  exact⟨rfl,rfl,hb⟩
 | ok x =>
  cases r1 with
  | error e1 =>
   go_enter Tryz.func113,Tryz.ntmps113
   go_wp2_with fail
   refine k.mono ?_
   rintro e w1 ⟨rfl,hb⟩
   exact⟨rfl,rfl,hb⟩
  | ok y =>
   by_cases h0:y=0
   ·have hE:Hid (opR 10 (.ok x) (.ok y)=.error 11):=if_pos h0
    have k:Calls zG 166 #[zP b,.slice (some kb¢ko) l c] w fun e w'=>e=fltE 11∧yD w w':=k.mono (by
     rintro e w1 ⟨e1,hb⟩
     exact⟨e1.trans (if_pos h0),hb⟩)
    go_enter Tryz.func113,Tryz.ntmps113
    go_wp2_with fail
    refine k.mono ?_
    rintro e w1 ⟨rfl,hb⟩
    exact⟨rfl,rfl,hb⟩
   have k:Calls zG 166 #[zP b,.slice (some kb¢ko) l c] w fun e w'=>e=.returned (.tuple #[zI x,zI y])∧yD w w':=k.mono (by
    rintro e w1 ⟨e1,hb⟩
    exact⟨e1.trans (if_neg h0),hb⟩)
   have H0:Hid (¬ y=0):=h0
   go_enter Tryz.func113,Tryz.ntmps113
   go_wp2_with fail
   refine k.mono ?_
   rintro e w1 ⟨rfl,hb⟩
   have HB:Hid (yD w w1):=hb
   clear k hb
   go_wp2_with fail
   refine (Fx.mod_any x y _).mono ?_
   rintro e w2 ⟨rfl,e2⟩
   obtain rfl:=e2.symm
   rw [Fx.restN_1 x H0.out,Fx.restB_1 H0.out]
   have hE:Hid (opR 10 (.ok x) (.ok y)=.ok (x.tmod y)):=if_neg H0.out
   go_wp2_with fail
   refine (within_t _ _).mono ?_
   rintro e w3 ⟨rfl,e3⟩
   obtain rfl:=e3.symm
   go_wp2_with fail
   go_ret
   exact⟨(congrArg endV hE.out).symm,HB.out⟩
theorem eq_op {w:yW}{b kb ko l c:Nat}{m0 m1:Nd}{r0 r1:Except Int Int}(h:K2 w b kb ko l m0 m1 r0 r1) :
  Calls zG 114 #[zP b,.slice (some kb¢ko) l c] w (OutV w (opR 11 r0 r1)):=by
 have HI0:Hid (Ok64 r0):=h.k0.i
 have HI1:Hid (Ok64 r1):=h.k1.i
 have k:=both_any (c:=c) h
 clear h
 cases r0 with
 | error e0 =>
  go_enter Tryz.func114,Tryz.ntmps114
  go_wp2_with fail
  refine k.mono ?_
  rintro e w1 ⟨rfl,hb⟩
  exact⟨rfl,rfl,hb⟩
 | ok x =>
  cases r1 with
  | error e1 =>
   go_enter Tryz.func114,Tryz.ntmps114
   go_wp2_with fail
   refine k.mono ?_
   rintro e w1 ⟨rfl,hb⟩
   exact⟨rfl,rfl,hb⟩
  | ok y =>
   go_enter Tryz.func114,Tryz.ntmps114
   go_wp2_with fail
   refine k.mono ?_
   rintro e w1 ⟨rfl,hb⟩
   have HB:Hid (yD w w1):=hb
   clear k hb
   unfold endB
   go_wp2_with fail
   refine (Fx.cmp_any x y _).mono ?_
   rintro e w2 ⟨rfl,e2⟩
   obtain rfl:=e2.symm
   go_wp2_with fail
   refine (truth_any _ _).mono ?_
   rintro e w3 ⟨rfl,e3⟩
   obtain rfl:=e3.symm
   go_wp2_with fail
   go_ret
   exact⟨congrArg (fun b=>endV (.ok (tru b))) (show _=decide (x=y) by unfold Fx.cmpN; by_cases h1:x < y <;> by_cases h2:y < x <;> simp [h1,h2] <;> omega),HB.out⟩
theorem ne_op {w:yW}{b kb ko l c:Nat}{m0 m1:Nd}{r0 r1:Except Int Int}(h:K2 w b kb ko l m0 m1 r0 r1) :
  Calls zG 115 #[zP b,.slice (some kb¢ko) l c] w (OutV w (opR 12 r0 r1)):=by
 have HI0:Hid (Ok64 r0):=h.k0.i
 have HI1:Hid (Ok64 r1):=h.k1.i
 have k:=both_any (c:=c) h
 clear h
 cases r0 with
 | error e0 =>
  go_enter Tryz.func115,Tryz.ntmps115
  go_wp2_with fail
  refine k.mono ?_
  rintro e w1 ⟨rfl,hb⟩
  exact⟨rfl,rfl,hb⟩
 | ok x =>
  cases r1 with
  | error e1 =>
   go_enter Tryz.func115,Tryz.ntmps115
   go_wp2_with fail
   refine k.mono ?_
   rintro e w1 ⟨rfl,hb⟩
   exact⟨rfl,rfl,hb⟩
  | ok y =>
   go_enter Tryz.func115,Tryz.ntmps115
   go_wp2_with fail
   refine k.mono ?_
   rintro e w1 ⟨rfl,hb⟩
   have HB:Hid (yD w w1):=hb
   clear k hb
   unfold endB
   go_wp2_with fail
   refine (Fx.cmp_any x y _).mono ?_
   rintro e w2 ⟨rfl,e2⟩
   obtain rfl:=e2.symm
   go_wp2_with fail
   refine (truth_any _ _).mono ?_
   rintro e w3 ⟨rfl,e3⟩
   obtain rfl:=e3.symm
   go_wp2_with fail
   go_ret
   exact⟨congrArg (fun b=>endV (.ok (tru b))) (show _=decide (x≠y) by unfold Fx.cmpN; by_cases h1:x < y <;> by_cases h2:y < x <;> simp [h1,h2] <;> omega),HB.out⟩
theorem lt_op {w:yW}{b kb ko l c:Nat}{m0 m1:Nd}{r0 r1:Except Int Int}(h:K2 w b kb ko l m0 m1 r0 r1) :
  Calls zG 116 #[zP b,.slice (some kb¢ko) l c] w (OutV w (opR 13 r0 r1)):=by
 have HI0:Hid (Ok64 r0):=h.k0.i
 have HI1:Hid (Ok64 r1):=h.k1.i
 have k:=both_any (c:=c) h
 clear h
 cases r0 with
 | error e0 =>
  go_enter Tryz.func116,Tryz.ntmps116
  go_wp2_with fail
  refine k.mono ?_
  rintro e w1 ⟨rfl,hb⟩
  exact⟨rfl,rfl,hb⟩
 | ok x =>
  cases r1 with
  | error e1 =>
   go_enter Tryz.func116,Tryz.ntmps116
   go_wp2_with fail
   refine k.mono ?_
   rintro e w1 ⟨rfl,hb⟩
   exact⟨rfl,rfl,hb⟩
  | ok y =>
   go_enter Tryz.func116,Tryz.ntmps116
   go_wp2_with fail
   refine k.mono ?_
   rintro e w1 ⟨rfl,hb⟩
   have HB:Hid (yD w w1):=hb
   clear k hb
   unfold endB
   go_wp2_with fail
   refine (Fx.cmp_any x y _).mono ?_
   rintro e w2 ⟨rfl,e2⟩
   obtain rfl:=e2.symm
   go_wp2_with fail
   refine (truth_any _ _).mono ?_
   rintro e w3 ⟨rfl,e3⟩
   obtain rfl:=e3.symm
   go_wp2_with fail
   go_ret
   exact⟨congrArg (fun b=>endV (.ok (tru b))) (show _=decide (x < y) by unfold Fx.cmpN; by_cases h1:x < y <;> by_cases h2:y < x <;> simp [h1,h2] <;> omega),HB.out⟩
theorem le_op {w:yW}{b kb ko l c:Nat}{m0 m1:Nd}{r0 r1:Except Int Int}(h:K2 w b kb ko l m0 m1 r0 r1) :
  Calls zG 117 #[zP b,.slice (some kb¢ko) l c] w (OutV w (opR 14 r0 r1)):=by
 have HI0:Hid (Ok64 r0):=h.k0.i
 have HI1:Hid (Ok64 r1):=h.k1.i
 have k:=both_any (c:=c) h
 clear h
 cases r0 with
 | error e0 =>
  go_enter Tryz.func117,Tryz.ntmps117
  go_wp2_with fail
  refine k.mono ?_
  rintro e w1 ⟨rfl,hb⟩
  exact⟨rfl,rfl,hb⟩
 | ok x =>
  cases r1 with
  | error e1 =>
   go_enter Tryz.func117,Tryz.ntmps117
   go_wp2_with fail
   refine k.mono ?_
   rintro e w1 ⟨rfl,hb⟩
   exact⟨rfl,rfl,hb⟩
  | ok y =>
   go_enter Tryz.func117,Tryz.ntmps117
   go_wp2_with fail
   refine k.mono ?_
   rintro e w1 ⟨rfl,hb⟩
   have HB:Hid (yD w w1):=hb
   clear k hb
   unfold endB
   go_wp2_with fail
   refine (Fx.cmp_any x y _).mono ?_
   rintro e w2 ⟨rfl,e2⟩
   obtain rfl:=e2.symm
   go_wp2_with fail
   refine (truth_any _ _).mono ?_
   rintro e w3 ⟨rfl,e3⟩
   obtain rfl:=e3.symm
   go_wp2_with fail
   go_ret
   exact⟨congrArg (fun b=>endV (.ok (tru b))) (show _=decide (x≤y) by unfold Fx.cmpN; by_cases h1:x < y <;> by_cases h2:y < x <;> simp [h1,h2] <;> omega),HB.out⟩
theorem gt_op {w:yW}{b kb ko l c:Nat}{m0 m1:Nd}{r0 r1:Except Int Int}(h:K2 w b kb ko l m0 m1 r0 r1) :
  Calls zG 118 #[zP b,.slice (some kb¢ko) l c] w (OutV w (opR 15 r0 r1)):=by
 have HI0:Hid (Ok64 r0):=h.k0.i
 have HI1:Hid (Ok64 r1):=h.k1.i
 have k:=both_any (c:=c) h
 clear h
 cases r0 with
 | error e0 =>
  go_enter Tryz.func118,Tryz.ntmps118
  go_wp2_with fail
  refine k.mono ?_
  rintro e w1 ⟨rfl,hb⟩
  exact⟨rfl,rfl,hb⟩
 | ok x =>
  cases r1 with
  | error e1 =>
   go_enter Tryz.func118,Tryz.ntmps118
   go_wp2_with fail
   refine k.mono ?_
   rintro e w1 ⟨rfl,hb⟩
   exact⟨rfl,rfl,hb⟩
  | ok y =>
   go_enter Tryz.func118,Tryz.ntmps118
   go_wp2_with fail
   refine k.mono ?_
   rintro e w1 ⟨rfl,hb⟩
   have HB:Hid (yD w w1):=hb
   clear k hb
   unfold endB
   go_wp2_with fail
   refine (Fx.cmp_any x y _).mono ?_
   rintro e w2 ⟨rfl,e2⟩
   obtain rfl:=e2.symm
   go_wp2_with fail
   refine (truth_any _ _).mono ?_
   rintro e w3 ⟨rfl,e3⟩
   obtain rfl:=e3.symm
   go_wp2_with fail
   go_ret
   exact⟨congrArg (fun b=>endV (.ok (tru b))) (show _=decide (y < x) by unfold Fx.cmpN; by_cases h1:x < y <;> by_cases h2:y < x <;> simp [h1,h2] <;> omega),HB.out⟩
theorem ge_op {w:yW}{b kb ko l c:Nat}{m0 m1:Nd}{r0 r1:Except Int Int}(h:K2 w b kb ko l m0 m1 r0 r1) :
  Calls zG 119 #[zP b,.slice (some kb¢ko) l c] w (OutV w (opR 16 r0 r1)):=by
 have HI0:Hid (Ok64 r0):=h.k0.i
 have HI1:Hid (Ok64 r1):=h.k1.i
 have k:=both_any (c:=c) h
 clear h
 cases r0 with
 | error e0 =>
  go_enter Tryz.func119,Tryz.ntmps119
  go_wp2_with fail
  refine k.mono ?_
  rintro e w1 ⟨rfl,hb⟩
  exact⟨rfl,rfl,hb⟩
 | ok x =>
  cases r1 with
  | error e1 =>
   go_enter Tryz.func119,Tryz.ntmps119
   go_wp2_with fail
   refine k.mono ?_
   rintro e w1 ⟨rfl,hb⟩
   exact⟨rfl,rfl,hb⟩
  | ok y =>
   go_enter Tryz.func119,Tryz.ntmps119
   go_wp2_with fail
   refine k.mono ?_
   rintro e w1 ⟨rfl,hb⟩
   have HB:Hid (yD w w1):=hb
   clear k hb
   unfold endB
   go_wp2_with fail
   refine (Fx.cmp_any x y _).mono ?_
   rintro e w2 ⟨rfl,e2⟩
   obtain rfl:=e2.symm
   go_wp2_with fail
   refine (truth_any _ _).mono ?_
   rintro e w3 ⟨rfl,e3⟩
   obtain rfl:=e3.symm
   go_wp2_with fail
   go_ret
   exact⟨congrArg (fun b=>endV (.ok (tru b))) (show _=decide (y≤x) by unfold Fx.cmpN; by_cases h1:x < y <;> by_cases h2:y < x <;> simp [h1,h2] <;> omega),HB.out⟩
theorem and_op {w:yW}{b kb ko l c:Nat}{m0 m1:Nd}{r0 r1:Except Int Int}(h:K2 w b kb ko l m0 m1 r0 r1) :
  Calls zG 120 #[zP b,.slice (some kb¢ko) l c] w (OutV w (opR 17 r0 r1)):=by
 have h1l:(1:Int) < (l:Int):=by have:=h.l; omega
 have h0l:(0:Int) < (l:Int):=by have:=h.l; omega
 have q:=h.h0
 simp only [Nat.zero_mul,Nat.add_zero] at q
 obtain⟨y0,y1,y2,y3,y4,y5,y6,y7⟩:=q
 have HK1:Hid (KC w b m1 r1):=h.k1
 have H1:Hid (NdAt w kb (ko+8) m1):=h.h1
 cases r0 with
 | error e0 =>
  have k:=h.k0.err w (Below.refl _ _)
  clear h
  go_enter Tryz.func120,Tryz.ntmps120
  go_wp2_with fail
  refine k.mono ?_
  rintro e w1 ⟨rfl,hb⟩
  exact⟨rfl,rfl,hb⟩
 | ok x =>
  have k:=h.k0.ok w (Below.refl _ _)
  clear h
  by_cases hx:x=0
  ·subst hx
   go_enter Tryz.func120,Tryz.ntmps120
   go_wp2_with fail
   refine k.mono ?_
   rintro e w1 ⟨rfl,hb⟩
   clear k
   go_wp2_with fail
   go_ret
   exact⟨rfl,hb⟩
  ·have hx':(x == 0)=false:=by simpa using hx
   have hE:Hid (opR 17 (.ok x) r1=r1):=by
    show opR 17 (.ok x) r1=r1
    unfold opR
    dsimp only
    rw [if_neg (show ¬ ((17:Int)≤3) by decide),if_neg (show ¬ ((17:Int)=17∧x=0) from fun k=>by first | exact hx k.2 | exact absurd k.1 (by decide)),if_neg (show ¬ ((17:Int)=18∧x=1) from fun k=>by first | exact hx k.2 | exact absurd k.1 (by decide))]
    cases r1 with
    | error e=>rfl
    | ok z=>rfl
   rw [hE.out]
   go_enter Tryz.func120,Tryz.ntmps120
   go_wp2_with fail
   refine k.mono ?_
   rintro e w1 ⟨rfl,hb⟩
   have HB:Hid (yD w w1):=hb
   obtain⟨z0,z1,z2,z3,z4,z5,z6,z7⟩:=H1.out.on hb
   clear k hb y0 y1 y2 y3 y4 y5 y6 y7
   cases r1 with
   | error e1 =>
    have k:=(HK1.out.on HB.out).err w1 (Below.refl _ _)
    go_wp2_with fail
    refine k.mono ?_
    rintro e w2 ⟨rfl,hb⟩
    exact⟨rfl,rfl,below2T HB.out hb⟩
   | ok z =>
    have k:=(HK1.out.on HB.out).ok w1 (Below.refl _ _)
    go_wp2_with fail
    refine k.mono ?_
    rintro e w2 ⟨rfl,hb⟩
    have HB2:Hid (yD w w2):=below2T HB.out hb
    clear k hb
    go_wp2_with fail
    go_ret
    exact⟨rfl,HB2.out⟩
theorem or_op {w:yW}{b kb ko l c:Nat}{m0 m1:Nd}{r0 r1:Except Int Int}(h:K2 w b kb ko l m0 m1 r0 r1) :
  Calls zG 121 #[zP b,.slice (some kb¢ko) l c] w (OutV w (opR 18 r0 r1)):=by
 have h1l:(1:Int) < (l:Int):=by have:=h.l; omega
 have h0l:(0:Int) < (l:Int):=by have:=h.l; omega
 have q:=h.h0
 simp only [Nat.zero_mul,Nat.add_zero] at q
 obtain⟨y0,y1,y2,y3,y4,y5,y6,y7⟩:=q
 have HK1:Hid (KC w b m1 r1):=h.k1
 have H1:Hid (NdAt w kb (ko+8) m1):=h.h1
 cases r0 with
 | error e0 =>
  have k:=h.k0.err w (Below.refl _ _)
  clear h
  go_enter Tryz.func121,Tryz.ntmps121
  go_wp2_with fail
  refine k.mono ?_
  rintro e w1 ⟨rfl,hb⟩
  exact⟨rfl,rfl,hb⟩
 | ok x =>
  have k:=h.k0.ok w (Below.refl _ _)
  clear h
  by_cases hx:x=1
  ·subst hx
   go_enter Tryz.func121,Tryz.ntmps121
   go_wp2_with fail
   refine k.mono ?_
   rintro e w1 ⟨rfl,hb⟩
   clear k
   go_wp2_with fail
   go_ret
   exact⟨rfl,hb⟩
  ·have hx':(x == 1)=false:=by simpa using hx
   have hE:Hid (opR 18 (.ok x) r1=r1):=by
    show opR 18 (.ok x) r1=r1
    unfold opR
    dsimp only
    rw [if_neg (show ¬ ((18:Int)≤3) by decide),if_neg (show ¬ ((18:Int)=17∧x=0) from fun k=>by first | exact hx k.2 | exact absurd k.1 (by decide)),if_neg (show ¬ ((18:Int)=18∧x=1) from fun k=>by first | exact hx k.2 | exact absurd k.1 (by decide))]
    cases r1 with
    | error e=>rfl
    | ok z=>rfl
   rw [hE.out]
   go_enter Tryz.func121,Tryz.ntmps121
   go_wp2_with fail
   refine k.mono ?_
   rintro e w1 ⟨rfl,hb⟩
   have HB:Hid (yD w w1):=hb
   obtain⟨z0,z1,z2,z3,z4,z5,z6,z7⟩:=H1.out.on hb
   clear k hb y0 y1 y2 y3 y4 y5 y6 y7
   cases r1 with
   | error e1 =>
    have k:=(HK1.out.on HB.out).err w1 (Below.refl _ _)
    go_wp2_with fail
    refine k.mono ?_
    rintro e w2 ⟨rfl,hb⟩
    exact⟨rfl,rfl,below2T HB.out hb⟩
   | ok z =>
    have k:=(HK1.out.on HB.out).ok w1 (Below.refl _ _)
    go_wp2_with fail
    refine k.mono ?_
    rintro e w2 ⟨rfl,hb⟩
    have HB2:Hid (yD w w2):=below2T HB.out hb
    clear k hb
    go_wp2_with fail
    go_ret
    exact⟨rfl,HB2.out⟩
theorem field_any {w:yW}{b:Nat}{s:Sx.Sn}(h:Sx.SnAt w b s) (f:Int) (f0:1≤f) (f1:f≤6):Calls zG 68 #[zP b,zU f] w (OutV w (fldR s f)):=by
 have k:=Sx.get_any s f (by omega) (by omega) w
 unfold Sx.snA at k
 obtain⟨c0,c1,c2,c3,c4,c5⟩:=h
 obtain⟨g,eg⟩:∃ g,Sx.getN s f=g:=⟨_,rfl⟩
 have hE:Hid (fldR s f=if f≤3∧g=0 then .error 170 else .ok g):=by show fldR s f=_; unfold fldR; rw [eg]
 rw [eg] at k
 clear eg
 by_cases hz:g=0
 ·subst hz
  by_cases h3:f≤3
  ·have hE2:Hid (fldR s f=.error 170):=hE.out.trans (if_pos ⟨h3,rfl⟩)
   have hf:f=1∨f=2∨f=3:=by omega
   clear hE
   rcases hf with rfl | rfl | rfl
   all_goals
    go_enter Tryz.func68,Tryz.ntmps68
    go_wp2_with fail
    refine k.mono ?_
    rintro e w1 ⟨rfl,hb⟩
    go_wp2_with fail
    exact⟨rfl,(congrArg endV hE2.out).symm,hb⟩
  ·have hE2:Hid (fldR s f=.ok 0):=hE.out.trans (if_neg (fun k=>h3 k.1))
   have hf:f=4∨f=5∨f=6:=by omega
   clear hE
   rcases hf with rfl | rfl | rfl
   all_goals
    go_enter Tryz.func68,Tryz.ntmps68
    go_wp2_with fail
    refine k.mono ?_
    rintro e w1 ⟨rfl,hb⟩
    go_wp2_with fail
    go_ret
    exact⟨(congrArg endV hE2.out).symm,hb⟩
 ·have hE2:Hid (fldR s f=.ok g):=hE.out.trans (if_neg (fun k=>hz k.2))
  have hz':(g == 0)=false:=by simpa using hz
  have hf:f=1∨f=2∨f=3∨f=4∨f=5∨f=6:=by omega
  clear hE
  rcases hf with rfl | rfl | rfl | rfl | rfl | rfl
  all_goals
   go_enter Tryz.func68,Tryz.ntmps68
   go_wp2_with fail
   refine k.mono ?_
   rintro e w1 ⟨rfl,hb⟩
   go_wp2_with fail
   go_ret
   exact⟨(congrArg endV hE2.out).symm,hb⟩
def fnV (n:Nat):Value:=.func (.func n) #[] #[]
def tabA:Array Value:=#[.nilFunc,fnV 104,fnV 105,fnV 106,fnV 107,fnV 108,fnV 109,fnV 110,fnV 111,fnV 112,fnV 113,fnV 114,fnV 115,fnV 116,fnV 117,fnV 118,fnV 119,fnV 120,fnV 121]
def parA:Array (Nat × Operand):=#[(1,Operand.func 104),(2,Operand.func 105),(3,Operand.func 106),(4,Operand.func 107),(5,Operand.func 108),(6,Operand.func 109),(7,Operand.func 110),(8,Operand.func 111),(9,Operand.func 112),(10,Operand.func 113),(11,Operand.func 114),(12,Operand.func 115),(13,Operand.func 116),(14,Operand.func 117),(15,Operand.func 118),(16,Operand.func 119),(17,Operand.func 120),(18,Operand.func 121)]
def parV:List (Nat × Value):=[(1,fnV 104),(2,fnV 105),(3,fnV 106),(4,fnV 107),(5,fnV 108),(6,fnV 109),(7,fnV 110),(8,fnV 111),(9,fnV 112),(10,fnV 113),(11,fnV 114),(12,fnV 115),(13,fnV 116),(14,fnV 117),(15,fnV 118),(16,fnV 119),(17,fnV 120),(18,fnV 121)]
theorem built191:Tryz.prog.built 191 parV=some tabA:=by kernel_rfl
theorem par_eval (a:Act):(parA.map fun (i,x)=>(i,a.eval x)).toList=parV:=by
 simp [parA,parV,fnV,go_sem]
theorem wpList_tab {w:yW}{ops:Array Oper}{rest:List Oper}{o:Oper}{a:Act}{Q:Exit→Act→yW→Prop}(hgd:o.guard=none) (ho:o.op=.build 191 parA)
  (h:wpList Tryz.prog ops Q rest (a.put o.dst (.agg tabA)) w):wpList Tryz.prog ops Q (o :: rest) a w:=by
 refine wpList_build hgd 191 parA ho ?_ ?_
 ·rw [par_eval,built191]; rfl
 ·rw [par_eval,built191]; exact h
theorem tab_at (o:Nat) (h1:1≤o) (h2:o≤18):tabA[o]? = some (fnV (103+o)):=by
 have:o=1∨o=2∨o=3∨o=4∨o=5∨o=6∨o=7∨o=8∨o=9∨o=10∨o=11∨o=12∨o=13∨o=14∨o=15∨o=16∨o=17∨o=18:=by omega
 rcases this with rfl | rfl | rfl | rfl | rfl | rfl | rfl | rfl | rfl | rfl | rfl | rfl | rfl | rfl | rfl | rfl | rfl | rfl <;> rfl
def zerA:Array Value:=#[.nilFunc,.nilFunc,.nilFunc,.nilFunc,.nilFunc,.nilFunc,.nilFunc,.nilFunc,.nilFunc,.nilFunc,.nilFunc,.nilFunc,.nilFunc,.nilFunc,.nilFunc,.nilFunc,.nilFunc,.nilFunc,.nilFunc]
theorem size191:(Tryz.prog.info? 191).map (·.size)=some tabA.size:=by kernel_rfl
theorem all191:tabA.all (·.oneCell')=true:=by kernel_rfl
theorem deed_any (o:Nat) (h1:1≤o) (h2:o≤18) (w:yW):Calls zG 71 #[zU (o:Int)] w fun e w'=>e=.returned (fnV (103+o))∧yD w w':=by
 have hb:Hid (yD w ((w.alloc (.cells zerA 191)).setRow w§ tabA)):=below_row (below_new _ _) (Nat.le_refl _) _
 have hZ:Hid ((w.alloc (.cells zerA 191)).heap[w§]? = (zC zerA 191)):=heap_new _ _
 have hN:Hid (((w.alloc (.cells zerA 191)).setRow w§ tabA).heap[w§]? = (zC tabA 191)):=setRow_heap _ _ _ _ _ _ hZ.out
 have hc:Hid (((w.alloc (.cells zerA 191)).setRow w§ tabA).cell? w§¢o=some (fnV (103+o))):=by show World.cell? _ _=_; unfold World.cell?; simp only; rw [hN.out]; exact tab_at o h1 h2
 have h19:(o:Int) < 19:=by omega
 have h0:(0:Int)≤(o:Int):=by omega
 obtain⟨F,eF⟩:∃ F,fnV (103+o)=F:=⟨_,rfl⟩
 rw [eF] at hc ⊢
 clear hN eF
 go_enter Tryz.func71,Tryz.ntmps71
 go_upto_region 2 with (first | (refine wpList_tab rfl rfl ?_) | (refine wpList_store_row rfl 191 (.tmp 3) (.tmp 4) rfl w§ tabA rfl rfl 191 zerA hZ.out size191 rfl all191 ?_))
 generalize hWX:World.setRow _ _ _=WX
 have hWY:(w.alloc (.cells zerA 191)).setRow w§ tabA=WX:=hWX
 rw [hWY] at hb hc
 clear hWX hWY hZ
 have c:=hc.out
 clear hc
 go_wp2_with fail
 go_ret
 exact⟨rfl,hb.out⟩
structure Sv (w:yW) (b:Nat) (s:Sx.Sn) (G:yB→Option Int):Prop where
 sn:Sx.SnAt w b s
 rg:∀ x v,x.size≤maxLen→G x=some v→I64 v∧∃ (rb ro n c mb i nn:Nat) (D:DataW Unit),w.cell? b¢6=some (.slice (some rb¢ro) n c)∧w.cell? b¢7=some (.map (some mb)) ∧
  w.ownsMap Tryz.prog 9 (plainElem Tryz.prog 3) mb nn D∧D.atKey (.string x.data.toList) (.lit (.int .i64 0))=.lit (.int .i64 i)∧i < n∧w.cell? ⟨rb,ro+i,none⟩=some (zI v)
theorem own_on {w w':yW}{mb nn:Nat}{D:DataW Unit}(ho:w.ownsMap Tryz.prog 9 (plainElem Tryz.prog 3) mb nn D) (k:yD w w'):w'.ownsMap Tryz.prog 9 (plainElem Tryz.prog 3) mb nn D:=by
 have hlt:=ho.lt
 obtain⟨es,clock,hb,F,hs,hD⟩:=ho
 exact⟨es,clock,(k.block mb hlt).trans hb,F,hs,hD⟩
theorem cell_on {w w':yW}{p:Addr}{v:Value}(h:w.cell? p=some v) (k:yD w w'):w'.cell? p=some v:=(k.cell (World.block_lt_of_cell? w _ h)).trans h
theorem Sv.on {w w':yW}{b:Nat}{s:Sx.Sn}{G:yB→Option Int}(h:Sv w b s G) (k:yD w w'):Sv w' b s G:=by
 refine⟨h.sn.on k (World.block_lt_of_cell? w _ h.sn.c0),fun x v hx hv=>?_⟩
 obtain⟨hi,rb,ro,n,c,mb,i,nn,D,h6,h7,ho,hk,hl,hc⟩:=h.rg x v hx hv
 exact⟨hi,rb,ro,n,c,mb,i,nn,D,cell_on h6 k,cell_on h7 k,own_on ho k,hk,hl,cell_on hc k⟩
inductive Res (G:yB→Option Int):Nd→Prop
 | mk (h:Hd) (a:Option Addr) (c:Nat) (ks:List Nd) (hf:fitB h ks.length=true) (hn:h.k=2→(G h.x).isSome=true) (hs:∀ k ∈ ks,Res G k):Res G (.mk h a c ks)
end Go.Proofs.YtfbjofnaghjmeaaGreatDoor
