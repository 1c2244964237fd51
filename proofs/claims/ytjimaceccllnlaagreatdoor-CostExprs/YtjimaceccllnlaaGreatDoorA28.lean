import Derived.Test.YtjimaceccllnlaaGreatDoorA0
import Derived.Test.YtjimaceccllnlaaGreatDoorA27
import Derived.Deep.RegionHeld
namespace Go.Proofs.YtjimaceccllnlaaGreatDoor
set_option maxRecDepth 100000
set_option maxHeartbeats 8000000
open Go.RowKit
set_option linter.unusedVariables false
set_option linter.unusedSimpArgs false
def pw (m:Nd):Nat:=if m.h.k=0 then 0 else wgt m
def rsW (d:DoM):Nat→Nat
 | 0 => pw d.sd + (pw d.qt + (pw d.pr + pw d.vl))
 | 1 => pw d.qt + (pw d.pr + pw d.vl)
 | 2 => pw d.pr + pw d.vl
 | 3 => pw d.vl
 | _ => 0
def bdy:List DoM→Nat
 | [] => 0
 | d :: ds => rsW d 0 + bdy ds
def DoW (d:DoM):Prop:=∀ m, (m=d.sd ∨ m=d.qt ∨ m=d.pr ∨ m=d.vl)→¬ m.h.k=0→formB m=true
theorem ixd0 (d:DoM) (w:World):Sem.run Tryz.prog (Instr.index 209 (.agg #[zU d.sd.h.k, zU d.sd.h.o, zU d.sd.h.t, zI d.sd.h.n, zU d.sd.h.f, .string d.sd.h.x, .slice d.sd.a d.sd.ks.length d.sd.c, zI d.sd.h.p, zU d.qt.h.k, zU d.qt.h.o, zU d.qt.h.t, zI d.qt.h.n, zU d.qt.h.f, .string d.qt.h.x, .slice d.qt.a d.qt.ks.length d.qt.c, zI d.qt.h.p, zU d.pr.h.k, zU d.pr.h.o, zU d.pr.h.t, zI d.pr.h.n, zU d.pr.h.f, .string d.pr.h.x, .slice d.pr.a d.pr.ks.length d.pr.c, zI d.pr.h.p, zU d.vl.h.k, zU d.vl.h.o, zU d.vl.h.t, zI d.vl.h.n, zU d.vl.h.f, .string d.vl.h.x, .slice d.vl.a d.vl.ks.length d.vl.c, zI d.vl.h.p]) (zI 0)) w=.ok (.agg zNd d.sd.h d.sd.a d.sd.ks.length d.sd.c) w:=by kernel_rfl
theorem ixd1 (d:DoM) (w:World):Sem.run Tryz.prog (Instr.index 209 (.agg #[zU d.sd.h.k, zU d.sd.h.o, zU d.sd.h.t, zI d.sd.h.n, zU d.sd.h.f, .string d.sd.h.x, .slice d.sd.a d.sd.ks.length d.sd.c, zI d.sd.h.p, zU d.qt.h.k, zU d.qt.h.o, zU d.qt.h.t, zI d.qt.h.n, zU d.qt.h.f, .string d.qt.h.x, .slice d.qt.a d.qt.ks.length d.qt.c, zI d.qt.h.p, zU d.pr.h.k, zU d.pr.h.o, zU d.pr.h.t, zI d.pr.h.n, zU d.pr.h.f, .string d.pr.h.x, .slice d.pr.a d.pr.ks.length d.pr.c, zI d.pr.h.p, zU d.vl.h.k, zU d.vl.h.o, zU d.vl.h.t, zI d.vl.h.n, zU d.vl.h.f, .string d.vl.h.x, .slice d.vl.a d.vl.ks.length d.vl.c, zI d.vl.h.p]) (zI 1)) w=.ok (.agg zNd d.qt.h d.qt.a d.qt.ks.length d.qt.c) w:=by kernel_rfl
theorem ixd2 (d:DoM) (w:World):Sem.run Tryz.prog (Instr.index 209 (.agg #[zU d.sd.h.k, zU d.sd.h.o, zU d.sd.h.t, zI d.sd.h.n, zU d.sd.h.f, .string d.sd.h.x, .slice d.sd.a d.sd.ks.length d.sd.c, zI d.sd.h.p, zU d.qt.h.k, zU d.qt.h.o, zU d.qt.h.t, zI d.qt.h.n, zU d.qt.h.f, .string d.qt.h.x, .slice d.qt.a d.qt.ks.length d.qt.c, zI d.qt.h.p, zU d.pr.h.k, zU d.pr.h.o, zU d.pr.h.t, zI d.pr.h.n, zU d.pr.h.f, .string d.pr.h.x, .slice d.pr.a d.pr.ks.length d.pr.c, zI d.pr.h.p, zU d.vl.h.k, zU d.vl.h.o, zU d.vl.h.t, zI d.vl.h.n, zU d.vl.h.f, .string d.vl.h.x, .slice d.vl.a d.vl.ks.length d.vl.c, zI d.vl.h.p]) (zI 2)) w=.ok (.agg zNd d.pr.h d.pr.a d.pr.ks.length d.pr.c) w:=by kernel_rfl
theorem ixd3 (d:DoM) (w:World):Sem.run Tryz.prog (Instr.index 209 (.agg #[zU d.sd.h.k, zU d.sd.h.o, zU d.sd.h.t, zI d.sd.h.n, zU d.sd.h.f, .string d.sd.h.x, .slice d.sd.a d.sd.ks.length d.sd.c, zI d.sd.h.p, zU d.qt.h.k, zU d.qt.h.o, zU d.qt.h.t, zI d.qt.h.n, zU d.qt.h.f, .string d.qt.h.x, .slice d.qt.a d.qt.ks.length d.qt.c, zI d.qt.h.p, zU d.pr.h.k, zU d.pr.h.o, zU d.pr.h.t, zI d.pr.h.n, zU d.pr.h.f, .string d.pr.h.x, .slice d.pr.a d.pr.ks.length d.pr.c, zI d.pr.h.p, zU d.vl.h.k, zU d.vl.h.o, zU d.vl.h.t, zI d.vl.h.n, zU d.vl.h.f, .string d.vl.h.x, .slice d.vl.a d.vl.ks.length d.vl.c, zI d.vl.h.p]) (zI 3)) w=.ok (.agg zNd d.vl.h d.vl.a d.vl.ks.length d.vl.c) w:=by kernel_rfl
theorem wpList_index {w:World} {ops:Array Oper} {rest:List Oper} {o:Oper} {a:Act} {Q:Exit→Act→World→Prop} (hgd:o.guard=none) (t:TypeId) (x y:Operand) (ho:o.op=.index t x y) (v u r:Value) (hx:a.eval x=v) (hy:a.eval y=u) (hr:∀ w, Sem.run Tryz.prog (Instr.index t v u) w=.ok r w)
  (h:wpList Tryz.prog ops Q rest (a.put o.dst r) w):wpList Tryz.prog ops Q (o :: rest) a w:=by
 refine wpList_plain hgd fun Kk hK => ?_
 unfold Oper.wp execOp
 simp only [ho, hx, hy, Sem.run_bind, hr, Result.andThen_ok]
 exact hK _ _ h
theorem body_any (r:RuleM) (w:World) (hl:RuleL w r) (hf:∀ d ∈ r.ds, DoW d) (hb:bdy r.ds≤9000000000000000000):Calls zG 108 #[.agg r.vals] w fun e w' => e=.returned (zI (bdy r.ds))∧Below w§ w w':=by
 have hmf:∀ (fn:Fn) (first cap:Array Value) (w:World), (Instr.makeFunc fn first cap).run Tryz.prog w=.ok (.func fn first cap) w:=fun _ _ _ _ => rfl
 have hb1:=Bn w (.cells r.vals 88)
 have hn1:=Hn w (.cells r.vals 88)
 have hs1:=Sa w (.cells r.vals 88)
 obtain ⟨W1, e1⟩:∃ W, w.alloc (.cells r.vals 88)=W:=⟨_, rfl⟩
 have E1:Hid (w.alloc (.cells r.vals 88)=W1):=e1
 rw [e1] at hb1 hn1 hs1
 have hb2:=Bn W1 (.cells #[zI 0] 3)
 have hn2:=Hn W1 (.cells #[zI 0] 3)
 have hk2:=(hb2.block _ (Array.getElem?_eq_some_iff.1 hn1).1).trans hn1
 have hbw:=below2 hb1 hb2
 rw [hs1] at hn2
 have HS1:Hid (W1§=w§ + 1):=hs1
 obtain ⟨W2, e2⟩:∃ W, W1.alloc (.cells #[zI 0] 3)=W:=⟨_, rfl⟩
 have E2:Hid (W1.alloc (.cells #[zI 0] 3)=W2):=e2
 rw [e2] at hn2 hk2 hbw
 have c8:W2.cell? ⟨w§, 8, none⟩=some (.slice r.a r.ds.length r.c):=Co hk2 8
 have HA2:Hid (Ac w W2 (w§ + 1) ((0:Nat):Int)):=⟨hbw, by omega, hn2⟩
 have HSL:Hid (SlAt w 36 r.a r.c (r.ds.map DoM.vals)):=hl.2.1
 have HDS:Hid (∀ d ∈ r.ds, DoL w d∧DoW d):=fun d hd => ⟨hl.2.2.1 d hd, hf d hd⟩
 have HBD:Hid (bdy r.ds≤9000000000000000000):=hb
 obtain ⟨ds, eds⟩:∃ ds, r.ds=ds:=⟨_, rfl⟩
 obtain ⟨ra, era⟩:∃ q, r.a=q:=⟨_, rfl⟩
 rw [eds] at HSL HDS HBD c8 ⊢
 rw [era] at HSL c8
 clear hb1 hn1 hs1 hb2 hn2 hk2 hbw e1 e2 hl hf hb eds era
 go_enter Tryz.func108, Tryz.ntmps108
 go_upto_region 2 with fail
 rw [E1.out]
 try rw [HS1.out]
 rw [E2.out]
 clear E1 E2 HS1
 obtain ⟨g, eg⟩:∃ g, w§ + 1=g:=⟨_, rfl⟩
 rw [eg] at HA2 ⊢
 clear eg
 go_wp2_with fail
 go_loopw [13] (fun t wr => ∃ (i m:Nat), i≤ds.length∧t=zI i∧Hid (Ac w wr g (m:Nat))∧Hid (bdy ds=m + bdy (ds.drop i))) (fun t _ => ds.length - (intOf t).toNat)
 case atStart => exact ⟨0, 0, by omega, rfl, HA2, by show _=_; simp⟩
 case round =>
  obtain ⟨i, m, hi, rfl, HAR, HR⟩:=hrel
  by_cases hlt:i < ds.length
  ·have hlt':(i:Int) < (ds.length:Int):=by omega
   have hmx:(i:Int) + 1≤9223372036854775807:=by have h1:=HSL.out.1; have h2:=HSL.out.2.1; rw [List.length_map] at h1; omega
   obtain ⟨bb, o, ea, hat⟩:=(HSL.out.on (mapz DoM.sz _) HAR.out.B).2.2 i (by rw [List.length_map]; exact hlt)
   simp only [List.getElem_map] at hat
   have HMEM:Hid (ds[i] ∈ ds):=List.getElem_mem hlt
   have HD:Hid (bdy ds=m + (rsW ds[i] 0 + bdy (ds.drop (i + 1)))):=by show _=_; rw [HR.out, List.drop_eq_getElem_cons hlt]; rfl
   obtain ⟨d, ed⟩:∃ d, ds[i]=d:=⟨_, rfl⟩
   rw [ed] at hat HD HMEM
   clear HR
   have HRG:Hid (wr.rangeAt bb (o + i * 36) d.vals.toList):=fun j v hv => by
    have hj:j < 36:=(List.getElem?_eq_some_iff.1 hv).1
    rw [hat j hj, ← hv]; simp
   have HZ:Hid ((wr.alloc (.cells #[zU 0, zU 0, .string ⟨#[]⟩, zU 0, zU 0, zU 0, zI 0, zU 0, .string ⟨#[]⟩, .slice none 0 0, zI 0, zU 0, zU 0, zU 0, zI 0, zU 0, .string ⟨#[]⟩, .slice none 0 0, zI 0, zU 0, zU 0, zU 0, zI 0, zU 0, .string ⟨#[]⟩, .slice none 0 0, zI 0, zU 0, zU 0, zU 0, zI 0, zU 0, .string ⟨#[]⟩, .slice none 0 0, zI 0, zI 0] 92)).heap[wr§]?=some (.cells #[zU 0, zU 0, .string ⟨#[]⟩, zU 0, zU 0, zU 0, zI 0, zU 0, .string ⟨#[]⟩, .slice none 0 0, zI 0, zU 0, zU 0, zU 0, zI 0, zU 0, .string ⟨#[]⟩, .slice none 0 0, zI 0, zU 0, zU 0, zU 0, zI 0, zU 0, .string ⟨#[]⟩, .slice none 0 0, zI 0, zU 0, zU 0, zU 0, zI 0, zU 0, .string ⟨#[]⟩, .slice none 0 0, zI 0, zI 0] 92 (0, 0))):=Hn _ _
   have hbx:Below wr§ wr ((wr.alloc (.cells #[zU 0, zU 0, .string ⟨#[]⟩, zU 0, zU 0, zU 0, zI 0, zU 0, .string ⟨#[]⟩, .slice none 0 0, zI 0, zU 0, zU 0, zU 0, zI 0, zU 0, .string ⟨#[]⟩, .slice none 0 0, zI 0, zU 0, zU 0, zU 0, zI 0, zU 0, .string ⟨#[]⟩, .slice none 0 0, zI 0, zU 0, zU 0, zU 0, zI 0, zU 0, .string ⟨#[]⟩, .slice none 0 0, zI 0, zI 0] 92)).setRow wr§ d.vals):=below_row (Bn _ _) (Nat.le_refl _) _
   have HWX:Hid (Below wr§ wr ((wr.alloc (.cells #[zU 0, zU 0, .string ⟨#[]⟩, zU 0, zU 0, zU 0, zI 0, zU 0, .string ⟨#[]⟩, .slice none 0 0, zI 0, zU 0, zU 0, zU 0, zI 0, zU 0, .string ⟨#[]⟩, .slice none 0 0, zI 0, zU 0, zU 0, zU 0, zI 0, zU 0, .string ⟨#[]⟩, .slice none 0 0, zI 0, zU 0, zU 0, zU 0, zI 0, zU 0, .string ⟨#[]⟩, .slice none 0 0, zI 0, zI 0] 92)).setRow wr§ d.vals)):=hbx
   have HNX:Hid (((wr.alloc (.cells #[zU 0, zU 0, .string ⟨#[]⟩, zU 0, zU 0, zU 0, zI 0, zU 0, .string ⟨#[]⟩, .slice none 0 0, zI 0, zU 0, zU 0, zU 0, zI 0, zU 0, .string ⟨#[]⟩, .slice none 0 0, zI 0, zU 0, zU 0, zU 0, zI 0, zU 0, .string ⟨#[]⟩, .slice none 0 0, zI 0, zU 0, zU 0, zU 0, zI 0, zU 0, .string ⟨#[]⟩, .slice none 0 0, zI 0, zI 0] 92)).setRow wr§ d.vals).heap[wr§]?=some (.cells d.vals 92 (0, 0))):=setRow_heap _ _ _ _ _ _ HZ.out
   subst ea
   clear hat ed hbx
   go_upto_region 6 with (first | (refine wpList_load_mid rfl 92 (.tmp 15) rfl bb (o + i * 36) rfl d.vals.toList _ HRG.out Tryz.underlying92 rfl (by show _=some 36; exact size110') ?_; rw [Array.toArray_toList]) | (refine wpList_store_row rfl 92 (.tmp 6) (.tmp 16) rfl wr§ d.vals rfl rfl 92 #[zU 0, zU 0, .string ⟨#[]⟩, zU 0, zU 0, zU 0, zI 0, zU 0, .string ⟨#[]⟩, .slice none 0 0, zI 0, zU 0, zU 0, zU 0, zI 0, zU 0, .string ⟨#[]⟩, .slice none 0 0, zI 0, zU 0, zU 0, zU 0, zI 0, zU 0, .string ⟨#[]⟩, .slice none 0 0, zI 0, zU 0, zU 0, zU 0, zI 0, zU 0, .string ⟨#[]⟩, .slice none 0 0, zI 0, zI 0] HZ.out size110' rfl (all36 ..) ?_))
   generalize hWX:World.setRow _ _ _=WX
   rw [hWX] at HWX HNX
   clear hWX HZ HRG
   have HAX:Hid (Ac w WX g (m:Nat)):=HAR.out.on HWX.out
   have HDO:Hid (DoL w d∧DoW d):=HDS.out d HMEM.out
   clear HAR HWX HMEM
   have q3:WX.cell? ⟨wr§, 3, none⟩=some (zU d.sd.h.k):=Co HNX.out 3
   have q4:WX.cell? ⟨wr§, 4, none⟩=some (zU d.sd.h.o):=Co HNX.out 4
   have q5:WX.cell? ⟨wr§, 5, none⟩=some (zU d.sd.h.t):=Co HNX.out 5
   have q6:WX.cell? ⟨wr§, 6, none⟩=some (zI d.sd.h.n):=Co HNX.out 6
   have q7:WX.cell? ⟨wr§, 7, none⟩=some (zU d.sd.h.f):=Co HNX.out 7
   have q8:WX.cell? ⟨wr§, 8, none⟩=some (.string d.sd.h.x):=Co HNX.out 8
   have q9:WX.cell? ⟨wr§, 9, none⟩=some (.slice d.sd.a d.sd.ks.length d.sd.c):=Co HNX.out 9
   have q10:WX.cell? ⟨wr§, 10, none⟩=some (zI d.sd.h.p):=Co HNX.out 10
   have q11:WX.cell? ⟨wr§, 11, none⟩=some (zU d.qt.h.k):=Co HNX.out 11
   have q12:WX.cell? ⟨wr§, 12, none⟩=some (zU d.qt.h.o):=Co HNX.out 12
   have q13:WX.cell? ⟨wr§, 13, none⟩=some (zU d.qt.h.t):=Co HNX.out 13
   have q14:WX.cell? ⟨wr§, 14, none⟩=some (zI d.qt.h.n):=Co HNX.out 14
   have q15:WX.cell? ⟨wr§, 15, none⟩=some (zU d.qt.h.f):=Co HNX.out 15
   have q16:WX.cell? ⟨wr§, 16, none⟩=some (.string d.qt.h.x):=Co HNX.out 16
   have q17:WX.cell? ⟨wr§, 17, none⟩=some (.slice d.qt.a d.qt.ks.length d.qt.c):=Co HNX.out 17
   have q18:WX.cell? ⟨wr§, 18, none⟩=some (zI d.qt.h.p):=Co HNX.out 18
   have q19:WX.cell? ⟨wr§, 19, none⟩=some (zU d.pr.h.k):=Co HNX.out 19
   have q20:WX.cell? ⟨wr§, 20, none⟩=some (zU d.pr.h.o):=Co HNX.out 20
   have q21:WX.cell? ⟨wr§, 21, none⟩=some (zU d.pr.h.t):=Co HNX.out 21
   have q22:WX.cell? ⟨wr§, 22, none⟩=some (zI d.pr.h.n):=Co HNX.out 22
   have q23:WX.cell? ⟨wr§, 23, none⟩=some (zU d.pr.h.f):=Co HNX.out 23
   have q24:WX.cell? ⟨wr§, 24, none⟩=some (.string d.pr.h.x):=Co HNX.out 24
   have q25:WX.cell? ⟨wr§, 25, none⟩=some (.slice d.pr.a d.pr.ks.length d.pr.c):=Co HNX.out 25
   have q26:WX.cell? ⟨wr§, 26, none⟩=some (zI d.pr.h.p):=Co HNX.out 26
   have q27:WX.cell? ⟨wr§, 27, none⟩=some (zU d.vl.h.k):=Co HNX.out 27
   have q28:WX.cell? ⟨wr§, 28, none⟩=some (zU d.vl.h.o):=Co HNX.out 28
   have q29:WX.cell? ⟨wr§, 29, none⟩=some (zU d.vl.h.t):=Co HNX.out 29
   have q30:WX.cell? ⟨wr§, 30, none⟩=some (zI d.vl.h.n):=Co HNX.out 30
   have q31:WX.cell? ⟨wr§, 31, none⟩=some (zU d.vl.h.f):=Co HNX.out 31
   have q32:WX.cell? ⟨wr§, 32, none⟩=some (.string d.vl.h.x):=Co HNX.out 32
   have q33:WX.cell? ⟨wr§, 33, none⟩=some (.slice d.vl.a d.vl.ks.length d.vl.c):=Co HNX.out 33
   have q34:WX.cell? ⟨wr§, 34, none⟩=some (zI d.vl.h.p):=Co HNX.out 34
   clear HNX
   generalize wr§=M1 at q3 q4 q5 q6 q7 q8 q9 q10 q11 q12 q13 q14 q15 q16 q17 q18 q19 q20 q21 q22 q23 q24 q25 q26 q27 q28 q29 q30 q31 q32 q33 q34 ⊢
   go_wp2_with fail
   clear q3 q4 q5 q6 q7 q8 q9 q10 q11 q12 q13 q14 q15 q16 q17 q18 q19 q20 q21 q22 q23 q24 q25 q26 q27 q28 q29 q30 q31 q32 q33 q34
   obtain ⟨AV, eAV⟩:∃ v, Value.agg #[zU d.sd.h.k, zU d.sd.h.o, zU d.sd.h.t, zI d.sd.h.n, zU d.sd.h.f, .string d.sd.h.x, .slice d.sd.a d.sd.ks.length d.sd.c, zI d.sd.h.p, zU d.qt.h.k, zU d.qt.h.o, zU d.qt.h.t, zI d.qt.h.n, zU d.qt.h.f, .string d.qt.h.x, .slice d.qt.a d.qt.ks.length d.qt.c, zI d.qt.h.p, zU d.pr.h.k, zU d.pr.h.o, zU d.pr.h.t, zI d.pr.h.n, zU d.pr.h.f, .string d.pr.h.x, .slice d.pr.a d.pr.ks.length d.pr.c, zI d.pr.h.p, zU d.vl.h.k, zU d.vl.h.o, zU d.vl.h.t, zI d.vl.h.n, zU d.vl.h.f, .string d.vl.h.x, .slice d.vl.a d.vl.ks.length d.vl.c, zI d.vl.h.p]=v:=⟨_, rfl⟩
   have i0:∀ w, Sem.run Tryz.prog (Instr.index 209 AV (zI 0)) w=.ok (.agg zNd d.sd.h d.sd.a d.sd.ks.length d.sd.c) w:=fun w => by rw [← eAV]; exact ixd0 d w
   have i1:∀ w, Sem.run Tryz.prog (Instr.index 209 AV (zI 1)) w=.ok (.agg zNd d.qt.h d.qt.a d.qt.ks.length d.qt.c) w:=fun w => by rw [← eAV]; exact ixd1 d w
   have i2:∀ w, Sem.run Tryz.prog (Instr.index 209 AV (zI 2)) w=.ok (.agg zNd d.pr.h d.pr.a d.pr.ks.length d.pr.c) w:=fun w => by rw [← eAV]; exact ixd2 d w
   have i3:∀ w, Sem.run Tryz.prog (Instr.index 209 AV (zI 3)) w=.ok (.agg zNd d.vl.h d.vl.a d.vl.ks.length d.vl.c) w:=fun w => by rw [← eAV]; exact ixd3 d w
   rw [eAV]
   clear eAV
   generalize Value.agg zNd d.sd.h d.sd.a d.sd.ks.length d.sd.c=A1 at ⊢
   generalize Value.agg zNd d.qt.h d.qt.a d.qt.ks.length d.qt.c=A2 at ⊢
   generalize Value.agg zNd d.pr.h d.pr.a d.pr.ks.length d.pr.c=A3 at ⊢
   generalize Value.agg zNd d.vl.h d.vl.a d.vl.ks.length d.vl.c=A4 at ⊢
   have HAI:Hid (i < ds.length∧(i:Int) + 1≤9223372036854775807):=⟨hlt, hmx⟩
   clear hlt hlt' hmx hi
   go_loopw [26] (fun t wr => ∃ (j m':Nat), j≤4∧t=zI j∧Hid (Ac w wr g (m':Nat))∧Hid (m + rsW d 0=m' + rsW d j)) (fun t _ => 4 - (intOf t).toNat)
   case atStart => exact ⟨0, m, by omega, rfl, HAX, rfl⟩
   case round =>
    obtain ⟨j, m', hj, rfl, HAQ, HRQ⟩:=hrel
    have HLE:Hid (m' + rsW d j≤9000000000000000000):=by have h1:=HBD.out; have h2:=HD.out; have h3:=HRQ.out; show _≤_; omega
    by_cases hj4:j < 4
    ·obtain rfl | rfl | rfl | rfl:j=0 ∨ j=1 ∨ j=2 ∨ j=3:=by omega
     ·have hbx:=Bn wr (.cells zNd d.sd.h d.sd.a d.sd.ks.length d.sd.c 28)
      have HAY:Hid (Ac w (wr.alloc (.cells zNd d.sd.h d.sd.a d.sd.ks.length d.sd.c 28)) g (m':Nat)):=HAQ.out.on hbx
      have z0:(wr.alloc (.cells zNd d.sd.h d.sd.a d.sd.ks.length d.sd.c 28)).cell? ⟨wr§, 0, none⟩=some (zU d.sd.h.k):=Co (Hn _ _) 0
      have z1:(wr.alloc (.cells zNd d.sd.h d.sd.a d.sd.ks.length d.sd.c 28)).cell? ⟨wr§, 1, none⟩=some (zU d.sd.h.o):=Co (Hn _ _) 1
      have z2:(wr.alloc (.cells zNd d.sd.h d.sd.a d.sd.ks.length d.sd.c 28)).cell? ⟨wr§, 2, none⟩=some (zU d.sd.h.t):=Co (Hn _ _) 2
      have z3:(wr.alloc (.cells zNd d.sd.h d.sd.a d.sd.ks.length d.sd.c 28)).cell? ⟨wr§, 3, none⟩=some (zI d.sd.h.n):=Co (Hn _ _) 3
      have z4:(wr.alloc (.cells zNd d.sd.h d.sd.a d.sd.ks.length d.sd.c 28)).cell? ⟨wr§, 4, none⟩=some (zU d.sd.h.f):=Co (Hn _ _) 4
      have z5:(wr.alloc (.cells zNd d.sd.h d.sd.a d.sd.ks.length d.sd.c 28)).cell? ⟨wr§, 5, none⟩=some (.string d.sd.h.x):=Co (Hn _ _) 5
      have z6:(wr.alloc (.cells zNd d.sd.h d.sd.a d.sd.ks.length d.sd.c 28)).cell? ⟨wr§, 6, none⟩=some (.slice d.sd.a d.sd.ks.length d.sd.c):=Co (Hn _ _) 6
      have z7:(wr.alloc (.cells zNd d.sd.h d.sd.a d.sd.ks.length d.sd.c 28)).cell? ⟨wr§, 7, none⟩=some (zI d.sd.h.p):=Co (Hn _ _) 7
      clear hbx HAQ
      rw [show ((0:Nat):Int)=0 from rfl]
      have HIX:Hid (∀ w, Sem.run Tryz.prog (Instr.index 209 AV (zI 0)) w=.ok (.agg zNd d.sd.h d.sd.a d.sd.ks.length d.sd.c) w):=i0
      clear i0 i1 i2 i3
      go_upto_region 9 with (refine wpList_index rfl 209 (.tmp 25) (.tmp 26) rfl AV (zI 0) _ rfl rfl HIX.out ?_)
      generalize (wr.alloc (.cells zNd d.sd.h d.sd.a d.sd.ks.length d.sd.c 28))=WY at HAY z0 z1 z2 z3 z4 z5 z6 z7 ⊢
      generalize wr§=M2 at z0 z1 z2 z3 z4 z5 z6 z7 ⊢
      generalize Value.agg zNd d.sd.h d.sd.a d.sd.ks.length d.sd.c=AX at ⊢
      clear HIX hj hj4
      obtain ⟨K0, eK0⟩:∃ k, d.sd.h.k=k:=⟨_, rfl⟩
      have HK0:Hid (d.sd.h.k=K0):=eK0
      rw [eK0] at z0
      clear eK0
      cases hk:(K0 == 0) with
      | true =>
       have HN:Hid (m + rsW d 0=m' + rsW d 1):=by have h1:=HRQ.out; have h2:pw d.sd=0:=if_pos (by rw [HK0.out]; simpa using hk); show _=_; simp only [rsW] at h1 ⊢; omega
       clear HRQ
       go_wp2_with fail
       exact ⟨⟨1, m', by omega, rfl, HAY, HN⟩, by simp only [intOf]; omega⟩
      | false =>
       have hk0:¬ d.sd.h.k=0:=by rw [HK0.out]; simpa using hk
       have HN:Hid (m + rsW d 0=(m' + wgt d.sd) + rsW d 1):=by have h1:=HRQ.out; have h2:pw d.sd=wgt d.sd:=if_neg hk0; show _=_; simp only [rsW] at h1 ⊢; omega
       have cI:Calls zG 61 #[.agg zNd d.sd.h d.sd.a d.sd.ks.length d.sd.c, .func (.func 145) #[] #[.pointer (some ⟨g, 0, none⟩)]] WY fun e w' => e=.returned (.tuple #[])∧Ac w w' g ((m' + wgt d.sd:Nat):Int)∧Mv WY w' (fun k => k=g):=wgC_all d.sd (HDO.out.2 d.sd (.inl rfl) hk0) 145 ent145 add145 w _ g m' HDO.out.1.1 HAY.out (by have h1:=HLE.out; have h2:=HN.out; have h3:=HRQ.out; omega)
       rw [HK0.out] at cI
       clear HRQ hk0
       go_wp2_with fail
       refine cI.mono ?_
       rintro e w5 ⟨rfl, hac, _⟩
       have HA5:Hid (Ac w w5 g ((m' + wgt d.sd:Nat):Int)):=hac
       clear cI hac z0 z1 z2 z3 z4 z5 z6 z7
       go_wp2_with fail
       exact ⟨⟨1, m' + wgt d.sd, by omega, rfl, HA5, HN⟩, by simp only [intOf]; omega⟩
     ·have hbx:=Bn wr (.cells zNd d.qt.h d.qt.a d.qt.ks.length d.qt.c 28)
      have HAY:Hid (Ac w (wr.alloc (.cells zNd d.qt.h d.qt.a d.qt.ks.length d.qt.c 28)) g (m':Nat)):=HAQ.out.on hbx
      have z0:(wr.alloc (.cells zNd d.qt.h d.qt.a d.qt.ks.length d.qt.c 28)).cell? ⟨wr§, 0, none⟩=some (zU d.qt.h.k):=Co (Hn _ _) 0
      have z1:(wr.alloc (.cells zNd d.qt.h d.qt.a d.qt.ks.length d.qt.c 28)).cell? ⟨wr§, 1, none⟩=some (zU d.qt.h.o):=Co (Hn _ _) 1
      have z2:(wr.alloc (.cells zNd d.qt.h d.qt.a d.qt.ks.length d.qt.c 28)).cell? ⟨wr§, 2, none⟩=some (zU d.qt.h.t):=Co (Hn _ _) 2
      have z3:(wr.alloc (.cells zNd d.qt.h d.qt.a d.qt.ks.length d.qt.c 28)).cell? ⟨wr§, 3, none⟩=some (zI d.qt.h.n):=Co (Hn _ _) 3
      have z4:(wr.alloc (.cells zNd d.qt.h d.qt.a d.qt.ks.length d.qt.c 28)).cell? ⟨wr§, 4, none⟩=some (zU d.qt.h.f):=Co (Hn _ _) 4
      have z5:(wr.alloc (.cells zNd d.qt.h d.qt.a d.qt.ks.length d.qt.c 28)).cell? ⟨wr§, 5, none⟩=some (.string d.qt.h.x):=Co (Hn _ _) 5
      have z6:(wr.alloc (.cells zNd d.qt.h d.qt.a d.qt.ks.length d.qt.c 28)).cell? ⟨wr§, 6, none⟩=some (.slice d.qt.a d.qt.ks.length d.qt.c):=Co (Hn _ _) 6
      have z7:(wr.alloc (.cells zNd d.qt.h d.qt.a d.qt.ks.length d.qt.c 28)).cell? ⟨wr§, 7, none⟩=some (zI d.qt.h.p):=Co (Hn _ _) 7
      clear hbx HAQ
      rw [show ((1:Nat):Int)=1 from rfl]
      have HIX:Hid (∀ w, Sem.run Tryz.prog (Instr.index 209 AV (zI 1)) w=.ok (.agg zNd d.qt.h d.qt.a d.qt.ks.length d.qt.c) w):=i1
      clear i0 i1 i2 i3
      go_upto_region 9 with (refine wpList_index rfl 209 (.tmp 25) (.tmp 26) rfl AV (zI 1) _ rfl rfl HIX.out ?_)
      generalize (wr.alloc (.cells zNd d.qt.h d.qt.a d.qt.ks.length d.qt.c 28))=WY at HAY z0 z1 z2 z3 z4 z5 z6 z7 ⊢
      generalize wr§=M2 at z0 z1 z2 z3 z4 z5 z6 z7 ⊢
      generalize Value.agg zNd d.qt.h d.qt.a d.qt.ks.length d.qt.c=AX at ⊢
      clear HIX hj hj4
      obtain ⟨K0, eK0⟩:∃ k, d.qt.h.k=k:=⟨_, rfl⟩
      have HK0:Hid (d.qt.h.k=K0):=eK0
      rw [eK0] at z0
      clear eK0
      cases hk:(K0 == 0) with
      | true =>
       have HN:Hid (m + rsW d 0=m' + rsW d 2):=by have h1:=HRQ.out; have h2:pw d.qt=0:=if_pos (by rw [HK0.out]; simpa using hk); show _=_; simp only [rsW] at h1 ⊢; omega
       clear HRQ
       go_wp2_with fail
       exact ⟨⟨2, m', by omega, rfl, HAY, HN⟩, by simp only [intOf]; omega⟩
      | false =>
       have hk0:¬ d.qt.h.k=0:=by rw [HK0.out]; simpa using hk
       have HN:Hid (m + rsW d 0=(m' + wgt d.qt) + rsW d 2):=by have h1:=HRQ.out; have h2:pw d.qt=wgt d.qt:=if_neg hk0; show _=_; simp only [rsW] at h1 ⊢; omega
       have cI:Calls zG 61 #[.agg zNd d.qt.h d.qt.a d.qt.ks.length d.qt.c, .func (.func 145) #[] #[.pointer (some ⟨g, 0, none⟩)]] WY fun e w' => e=.returned (.tuple #[])∧Ac w w' g ((m' + wgt d.qt:Nat):Int)∧Mv WY w' (fun k => k=g):=wgC_all d.qt (HDO.out.2 d.qt (.inr (.inl rfl)) hk0) 145 ent145 add145 w _ g m' HDO.out.1.2.1 HAY.out (by have h1:=HLE.out; have h2:=HN.out; have h3:=HRQ.out; omega)
       rw [HK0.out] at cI
       clear HRQ hk0
       go_wp2_with fail
       refine cI.mono ?_
       rintro e w5 ⟨rfl, hac, _⟩
       have HA5:Hid (Ac w w5 g ((m' + wgt d.qt:Nat):Int)):=hac
       clear cI hac z0 z1 z2 z3 z4 z5 z6 z7
       go_wp2_with fail
       exact ⟨⟨2, m' + wgt d.qt, by omega, rfl, HA5, HN⟩, by simp only [intOf]; omega⟩
     ·have hbx:=Bn wr (.cells zNd d.pr.h d.pr.a d.pr.ks.length d.pr.c 28)
      have HAY:Hid (Ac w (wr.alloc (.cells zNd d.pr.h d.pr.a d.pr.ks.length d.pr.c 28)) g (m':Nat)):=HAQ.out.on hbx
      have z0:(wr.alloc (.cells zNd d.pr.h d.pr.a d.pr.ks.length d.pr.c 28)).cell? ⟨wr§, 0, none⟩=some (zU d.pr.h.k):=Co (Hn _ _) 0
      have z1:(wr.alloc (.cells zNd d.pr.h d.pr.a d.pr.ks.length d.pr.c 28)).cell? ⟨wr§, 1, none⟩=some (zU d.pr.h.o):=Co (Hn _ _) 1
      have z2:(wr.alloc (.cells zNd d.pr.h d.pr.a d.pr.ks.length d.pr.c 28)).cell? ⟨wr§, 2, none⟩=some (zU d.pr.h.t):=Co (Hn _ _) 2
      have z3:(wr.alloc (.cells zNd d.pr.h d.pr.a d.pr.ks.length d.pr.c 28)).cell? ⟨wr§, 3, none⟩=some (zI d.pr.h.n):=Co (Hn _ _) 3
      have z4:(wr.alloc (.cells zNd d.pr.h d.pr.a d.pr.ks.length d.pr.c 28)).cell? ⟨wr§, 4, none⟩=some (zU d.pr.h.f):=Co (Hn _ _) 4
      have z5:(wr.alloc (.cells zNd d.pr.h d.pr.a d.pr.ks.length d.pr.c 28)).cell? ⟨wr§, 5, none⟩=some (.string d.pr.h.x):=Co (Hn _ _) 5
      have z6:(wr.alloc (.cells zNd d.pr.h d.pr.a d.pr.ks.length d.pr.c 28)).cell? ⟨wr§, 6, none⟩=some (.slice d.pr.a d.pr.ks.length d.pr.c):=Co (Hn _ _) 6
      have z7:(wr.alloc (.cells zNd d.pr.h d.pr.a d.pr.ks.length d.pr.c 28)).cell? ⟨wr§, 7, none⟩=some (zI d.pr.h.p):=Co (Hn _ _) 7
      clear hbx HAQ
      rw [show ((2:Nat):Int)=2 from rfl]
      have HIX:Hid (∀ w, Sem.run Tryz.prog (Instr.index 209 AV (zI 2)) w=.ok (.agg zNd d.pr.h d.pr.a d.pr.ks.length d.pr.c) w):=i2
      clear i0 i1 i2 i3
      go_upto_region 9 with (refine wpList_index rfl 209 (.tmp 25) (.tmp 26) rfl AV (zI 2) _ rfl rfl HIX.out ?_)
      generalize (wr.alloc (.cells zNd d.pr.h d.pr.a d.pr.ks.length d.pr.c 28))=WY at HAY z0 z1 z2 z3 z4 z5 z6 z7 ⊢
      generalize wr§=M2 at z0 z1 z2 z3 z4 z5 z6 z7 ⊢
      generalize Value.agg zNd d.pr.h d.pr.a d.pr.ks.length d.pr.c=AX at ⊢
      clear HIX hj hj4
      obtain ⟨K0, eK0⟩:∃ k, d.pr.h.k=k:=⟨_, rfl⟩
      have HK0:Hid (d.pr.h.k=K0):=eK0
      rw [eK0] at z0
      clear eK0
      cases hk:(K0 == 0) with
      | true =>
       have HN:Hid (m + rsW d 0=m' + rsW d 3):=by have h1:=HRQ.out; have h2:pw d.pr=0:=if_pos (by rw [HK0.out]; simpa using hk); show _=_; simp only [rsW] at h1 ⊢; omega
       clear HRQ
       go_wp2_with fail
       exact ⟨⟨3, m', by omega, rfl, HAY, HN⟩, by simp only [intOf]; omega⟩
      | false =>
       have hk0:¬ d.pr.h.k=0:=by rw [HK0.out]; simpa using hk
       have HN:Hid (m + rsW d 0=(m' + wgt d.pr) + rsW d 3):=by have h1:=HRQ.out; have h2:pw d.pr=wgt d.pr:=if_neg hk0; show _=_; simp only [rsW] at h1 ⊢; omega
       have cI:Calls zG 61 #[.agg zNd d.pr.h d.pr.a d.pr.ks.length d.pr.c, .func (.func 145) #[] #[.pointer (some ⟨g, 0, none⟩)]] WY fun e w' => e=.returned (.tuple #[])∧Ac w w' g ((m' + wgt d.pr:Nat):Int)∧Mv WY w' (fun k => k=g):=wgC_all d.pr (HDO.out.2 d.pr (.inr (.inr (.inl rfl))) hk0) 145 ent145 add145 w _ g m' HDO.out.1.2.2.1 HAY.out (by have h1:=HLE.out; have h2:=HN.out; have h3:=HRQ.out; omega)
       rw [HK0.out] at cI
       clear HRQ hk0
       go_wp2_with fail
       refine cI.mono ?_
       rintro e w5 ⟨rfl, hac, _⟩
       have HA5:Hid (Ac w w5 g ((m' + wgt d.pr:Nat):Int)):=hac
       clear cI hac z0 z1 z2 z3 z4 z5 z6 z7
       go_wp2_with fail
       exact ⟨⟨3, m' + wgt d.pr, by omega, rfl, HA5, HN⟩, by simp only [intOf]; omega⟩
     ·have hbx:=Bn wr (.cells zNd d.vl.h d.vl.a d.vl.ks.length d.vl.c 28)
      have HAY:Hid (Ac w (wr.alloc (.cells zNd d.vl.h d.vl.a d.vl.ks.length d.vl.c 28)) g (m':Nat)):=HAQ.out.on hbx
      have z0:(wr.alloc (.cells zNd d.vl.h d.vl.a d.vl.ks.length d.vl.c 28)).cell? ⟨wr§, 0, none⟩=some (zU d.vl.h.k):=Co (Hn _ _) 0
      have z1:(wr.alloc (.cells zNd d.vl.h d.vl.a d.vl.ks.length d.vl.c 28)).cell? ⟨wr§, 1, none⟩=some (zU d.vl.h.o):=Co (Hn _ _) 1
      have z2:(wr.alloc (.cells zNd d.vl.h d.vl.a d.vl.ks.length d.vl.c 28)).cell? ⟨wr§, 2, none⟩=some (zU d.vl.h.t):=Co (Hn _ _) 2
      have z3:(wr.alloc (.cells zNd d.vl.h d.vl.a d.vl.ks.length d.vl.c 28)).cell? ⟨wr§, 3, none⟩=some (zI d.vl.h.n):=Co (Hn _ _) 3
      have z4:(wr.alloc (.cells zNd d.vl.h d.vl.a d.vl.ks.length d.vl.c 28)).cell? ⟨wr§, 4, none⟩=some (zU d.vl.h.f):=Co (Hn _ _) 4
      have z5:(wr.alloc (.cells zNd d.vl.h d.vl.a d.vl.ks.length d.vl.c 28)).cell? ⟨wr§, 5, none⟩=some (.string d.vl.h.x):=Co (Hn _ _) 5
      have z6:(wr.alloc (.cells zNd d.vl.h d.vl.a d.vl.ks.length d.vl.c 28)).cell? ⟨wr§, 6, none⟩=some (.slice d.vl.a d.vl.ks.length d.vl.c):=Co (Hn _ _) 6
      have z7:(wr.alloc (.cells zNd d.vl.h d.vl.a d.vl.ks.length d.vl.c 28)).cell? ⟨wr§, 7, none⟩=some (zI d.vl.h.p):=Co (Hn _ _) 7
      clear hbx HAQ
      rw [show ((3:Nat):Int)=3 from rfl]
      have HIX:Hid (∀ w, Sem.run Tryz.prog (Instr.index 209 AV (zI 3)) w=.ok (.agg zNd d.vl.h d.vl.a d.vl.ks.length d.vl.c) w):=i3
      clear i0 i1 i2 i3
      go_upto_region 9 with (refine wpList_index rfl 209 (.tmp 25) (.tmp 26) rfl AV (zI 3) _ rfl rfl HIX.out ?_)
      generalize (wr.alloc (.cells zNd d.vl.h d.vl.a d.vl.ks.length d.vl.c 28))=WY at HAY z0 z1 z2 z3 z4 z5 z6 z7 ⊢
      generalize wr§=M2 at z0 z1 z2 z3 z4 z5 z6 z7 ⊢
      generalize Value.agg zNd d.vl.h d.vl.a d.vl.ks.length d.vl.c=AX at ⊢
      clear HIX hj hj4
      obtain ⟨K0, eK0⟩:∃ k, d.vl.h.k=k:=⟨_, rfl⟩
      have HK0:Hid (d.vl.h.k=K0):=eK0
      rw [eK0] at z0
      clear eK0
      cases hk:(K0 == 0) with
      | true =>
       have HN:Hid (m + rsW d 0=m' + rsW d 4):=by have h1:=HRQ.out; have h2:pw d.vl=0:=if_pos (by rw [HK0.out]; simpa using hk); show _=_; simp only [rsW] at h1 ⊢; omega
       clear HRQ
       go_wp2_with fail
       exact ⟨⟨4, m', by omega, rfl, HAY, HN⟩, by simp only [intOf]; omega⟩
      | false =>
       have hk0:¬ d.vl.h.k=0:=by rw [HK0.out]; simpa using hk
       have HN:Hid (m + rsW d 0=(m' + wgt d.vl) + rsW d 4):=by have h1:=HRQ.out; have h2:pw d.vl=wgt d.vl:=if_neg hk0; show _=_; simp only [rsW] at h1 ⊢; omega
       have cI:Calls zG 61 #[.agg zNd d.vl.h d.vl.a d.vl.ks.length d.vl.c, .func (.func 145) #[] #[.pointer (some ⟨g, 0, none⟩)]] WY fun e w' => e=.returned (.tuple #[])∧Ac w w' g ((m' + wgt d.vl:Nat):Int)∧Mv WY w' (fun k => k=g):=wgC_all d.vl (HDO.out.2 d.vl (.inr (.inr (.inr rfl))) hk0) 145 ent145 add145 w _ g m' HDO.out.1.2.2.2.1 HAY.out (by have h1:=HLE.out; have h2:=HN.out; have h3:=HRQ.out; omega)
       rw [HK0.out] at cI
       clear HRQ hk0
       go_wp2_with fail
       refine cI.mono ?_
       rintro e w5 ⟨rfl, hac, _⟩
       have HA5:Hid (Ac w w5 g ((m' + wgt d.vl:Nat):Int)):=hac
       clear cI hac z0 z1 z2 z3 z4 z5 z6 z7
       go_wp2_with fail
       exact ⟨⟨4, m' + wgt d.vl, by omega, rfl, HA5, HN⟩, by simp only [intOf]; omega⟩
    ·obtain rfl:j=4:=by omega
     have HN:Hid (bdy ds=m' + bdy (ds.drop (i + 1))):=by have h1:=HD.out; have h2:=HRQ.out; show _=_; simp only [rsW] at h1 h2; omega
     have hmx:=HAI.out.2
     clear HRQ
     go_wp2_with fail
     exact ⟨⟨i + 1, m', HAI.out.1, rfl, HAQ, HN⟩, by have:=HAI.out.1; simp only [intOf]; omega⟩
  ·obtain rfl:i=ds.length:=by omega
   have hnot:¬ (ds.length:Int) < (ds.length:Int):=by omega
   have HM:Hid (bdy ds=m):=by show _=_; rw [HR.out, List.drop_length]; simp [bdy]
   have g0:wr.cell? ⟨g, 0, none⟩=some (zI (m:Nat)):=Co HAR.out.C 0
   clear HR
   go_wp2_with fail
   go_ret
   exact ⟨by rw [HM.out]; rfl, HAR.out.B⟩
def rB (r:RuleM):Nat:=bdy r.ds
def rA (r:RuleM):Nat:=actL r.ds
def rW (r:RuleM):Nat:=wgt r.m
def stp (rs:List RuleM):Nat:=mxs (rs.map rB) + (rs.map rW).sum
def RuW (r:RuleM):Prop:=formB r.m=true∧(∀ d ∈ r.ds, DoW d)∧bdy r.ds≤9000000000000000000
theorem ent108:EntF 108:=fun _ _ => by kernel_rfl
theorem ent110:EntF 110:=fun _ _ => by kernel_rfl
theorem grtB {rs:List RuleM} {a:Option Addr} {c:Nat} {w:World} (hk:SlAt w 10 a c (rs.map RuleM.vals)) (hl:∀ r ∈ rs, RuleL w r∧RuW r):Calls zG 107 #[.slice a rs.length c, .func (.func 108) #[] #[]] w fun e w' => e=.returned (zI (mxs (rs.map rB)))∧Below w§ w w' :=
 grtR_of 108 ent108 rB rs a c w hk fun r hr v hv => body_any r v ((hl r hr).1.on hv) (hl r hr).2.2.1 (hl r hr).2.2.2
theorem grtA {rs:List RuleM} {a:Option Addr} {c:Nat} {w:World} (hk:SlAt w 10 a c (rs.map RuleM.vals)) (hl:∀ r ∈ rs, RuleL w r∧RuW r):Calls zG 107 #[.slice a rs.length c, .func (.func 110) #[] #[]] w fun e w' => e=.returned (zI (mxs (rs.map rA)))∧Below w§ w w' :=
 grtR_of 110 ent110 rA rs a c w hk fun r hr v hv => acts_any r v ((hl r hr).1.on hv)
theorem costOf_any (rs:List RuleM) (a:Option Addr) (c:Nat) (w:World) (hk:SlAt w 10 a c (rs.map RuleM.vals)) (hl:∀ r ∈ rs, RuleL w r∧RuW r) (hb:stp rs≤9000000000000000000) :
  Calls zG 68 #[.slice a rs.length c] w fun e w' => e=.returned (.agg #[zI (stp rs), zI (mxs (rs.map rA))])∧Below w§ w w':=by
 have hmf:∀ (fn:Fn) (first cap:Array Value) (w:World), (Instr.makeFunc fn first cap).run Tryz.prog w=.ok (.func fn first cap) w:=fun _ _ _ _ => rfl
 have hb1:=Bn w (.cells #[zI 0, zI 0] 56)
 have hn1:=Hn w (.cells #[zI 0, zI 0] 56)
 obtain ⟨W1, e1⟩:∃ W, w.alloc (.cells #[zI 0, zI 0] 56)=W:=⟨_, rfl⟩
 have E1:Hid (w.alloc (.cells #[zI 0, zI 0] 56)=W1):=e1
 rw [e1] at hb1 hn1
 have HB1:Hid (Below w§ w W1):=hb1
 have HN1:Hid (W1.heap[w§]?=some (.cells #[zI 0, zI 0] 56 (0, 0))):=hn1
 have HSL:Hid (SlAt w 10 a c (rs.map RuleM.vals)):=hk
 have HLL:Hid (∀ r ∈ rs, RuleL w r∧RuW r):=hl
 have HBD:Hid (stp rs≤9000000000000000000):=hb
 have cB:=grtB (hk.on (mapz RuleM.sz _) hb1) (fun r hr => ⟨(hl r hr).1.on hb1, (hl r hr).2⟩)
 clear hb1 hn1 e1 hk hl hb
 go_enter Tryz.func68, Tryz.ntmps68
 go_upto_region 1 with fail
 rw [E1.out]
 clear E1
 go_wp2_with fail
 refine cB.mono ?_
 rintro e w2 ⟨rfl, hb2⟩
 obtain ⟨MB, eMB⟩:∃ m, mxs (rs.map rB)=m:=⟨_, rfl⟩
 have HST:Hid (stp rs=MB + (rs.map rW).sum):=by show _=_; unfold stp; rw [eMB]
 rw [eMB]
 have h3:=Bn w2 (.cells #[zI (MB:Nat)] 3)
 have hb3:=below2 hb2 h3
 have HA3:Hid (Ac w (w2.alloc (.cells #[zI (MB:Nat)] 3)) w2§ ((MB:Nat):Int)):=⟨below2 HB1.out hb3, Nat.le_trans HB1.out.size hb2.size, Hn _ _⟩
 have HN3:Hid ((w2.alloc (.cells #[zI (MB:Nat)] 3)).heap[w§]?=some (.cells #[zI 0, zI 0] 56 (0, 0))∧w§ ≠ w2§):=⟨(hb3.block _ (Array.getElem?_eq_some_iff.1 HN1.out).1).trans HN1.out, by have h1:=(Array.getElem?_eq_some_iff.1 HN1.out).1; have h2:=hb2.size; omega⟩
 clear cB hb2 h3 hb3 eMB HB1 HN1
 go_upto_region 2 with fail
 generalize w2.alloc (.cells #[zI (MB:Nat)] 3)=W3 at HA3 HN3 ⊢
 generalize w2§=g at HA3 HN3 ⊢
 go_wp2_with fail
 go_loopw [12] (fun t wr => ∃ (i m:Nat), i≤rs.length∧t=zI i∧Hid (Ac w wr g (m:Nat))∧Hid (wr.heap[w§]?=some (.cells #[zI 0, zI 0] 56 (0, 0)))∧Hid (stp rs=m + ((rs.drop i).map rW).sum)) (fun t _ => rs.length - (intOf t).toNat)
 case atStart => exact ⟨0, MB, by omega, rfl, HA3, HN3.out.1, by show _=_; rw [List.drop_zero]; exact HST.out⟩
 case round =>
  obtain ⟨i, m, hi, rfl, HAR, HNR, HR⟩:=hrel
  by_cases hlt:i < rs.length
  ·have hlt':(i:Int) < (rs.length:Int):=by omega
   have hmx:(i:Int) + 1≤9223372036854775807:=by have h1:=HSL.out.1; have h2:=HSL.out.2.1; rw [List.length_map] at h1; omega
   obtain ⟨bb, o, ea, hat⟩:=(HSL.out.on (mapz RuleM.sz _) HAR.out.B).2.2 i (by rw [List.length_map]; exact hlt)
   simp only [List.getElem_map] at hat
   have HMEM:Hid (rs[i] ∈ rs):=List.getElem_mem hlt
   have HD:Hid (stp rs=m + (rW rs[i] + ((rs.drop (i + 1)).map rW).sum)):=by show _=_; rw [HR.out, List.drop_eq_getElem_cons hlt, List.map_cons, List.sum_cons]
   obtain ⟨d, ed⟩:∃ d, rs[i]=d:=⟨_, rfl⟩
   rw [ed] at hat HD HMEM
   clear HR
   have HRG:Hid (wr.rangeAt bb (o + i * 10) d.vals.toList):=fun j v hv => by
    have hj:j < 10:=(List.getElem?_eq_some_iff.1 hv).1
    rw [hat j hj, ← hv]; simp
   have HZ:Hid ((wr.alloc (.cells #[zU 0, zU 0, zU 0, zI 0, zU 0, .string ⟨#[]⟩, .slice none 0 0, zI 0, .slice none 0 0, zI 0] 88)).heap[wr§]?=some (.cells #[zU 0, zU 0, zU 0, zI 0, zU 0, .string ⟨#[]⟩, .slice none 0 0, zI 0, .slice none 0 0, zI 0] 88 (0, 0))):=Hn _ _
   have hbx:Below wr§ wr ((wr.alloc (.cells #[zU 0, zU 0, zU 0, zI 0, zU 0, .string ⟨#[]⟩, .slice none 0 0, zI 0, .slice none 0 0, zI 0] 88)).setRow wr§ d.vals):=below_row (Bn _ _) (Nat.le_refl _) _
   have HWX:Hid (Below wr§ wr ((wr.alloc (.cells #[zU 0, zU 0, zU 0, zI 0, zU 0, .string ⟨#[]⟩, .slice none 0 0, zI 0, .slice none 0 0, zI 0] 88)).setRow wr§ d.vals)):=hbx
   have HNX:Hid (((wr.alloc (.cells #[zU 0, zU 0, zU 0, zI 0, zU 0, .string ⟨#[]⟩, .slice none 0 0, zI 0, .slice none 0 0, zI 0] 88)).setRow wr§ d.vals).heap[wr§]?=some (.cells d.vals 88 (0, 0))):=setRow_heap _ _ _ _ _ _ HZ.out
   subst ea
   clear hat ed hbx
   go_upto_region 6 with (first | (refine wpList_load_mid rfl 88 (.tmp 14) rfl bb (o + i * 10) rfl d.vals.toList _ HRG.out Tryz.underlying88 rfl (by show _=some 10; exact size106') ?_; rw [Array.toArray_toList]) | (refine wpList_store_row rfl 88 (.tmp 6) (.tmp 15) rfl wr§ d.vals rfl rfl 88 #[zU 0, zU 0, zU 0, zI 0, zU 0, .string ⟨#[]⟩, .slice none 0 0, zI 0, .slice none 0 0, zI 0] HZ.out size106' rfl (all10' d) ?_))
   generalize hWX:World.setRow _ _ _=WX
   rw [hWX] at HWX HNX
   clear hWX HZ HRG
   have HAX:Hid (Ac w WX g (m:Nat)):=HAR.out.on HWX.out
   have HNW:Hid (WX.heap[w§]?=some (.cells #[zI 0, zI 0] 56 (0, 0))):=(HWX.out.block _ (Array.getElem?_eq_some_iff.1 HNR.out).1).trans HNR.out
   have q0:WX.cell? ⟨wr§, 0, none⟩=some (zU d.m.h.k):=Co HNX.out 0
   have q1:WX.cell? ⟨wr§, 1, none⟩=some (zU d.m.h.o):=Co HNX.out 1
   have q2:WX.cell? ⟨wr§, 2, none⟩=some (zU d.m.h.t):=Co HNX.out 2
   have q3:WX.cell? ⟨wr§, 3, none⟩=some (zI d.m.h.n):=Co HNX.out 3
   have q4:WX.cell? ⟨wr§, 4, none⟩=some (zU d.m.h.f):=Co HNX.out 4
   have q5:WX.cell? ⟨wr§, 5, none⟩=some (.string d.m.h.x):=Co HNX.out 5
   have q6:WX.cell? ⟨wr§, 6, none⟩=some (.slice d.m.a d.m.ks.length d.m.c):=Co HNX.out 6
   have q7:WX.cell? ⟨wr§, 7, none⟩=some (zI d.m.h.p):=Co HNX.out 7
   have cI:Calls zG 61 #[.agg zNd d.m.h d.m.a d.m.ks.length d.m.c, .func (.func 109) #[] #[.pointer (some ⟨g, 0, none⟩)]] WX fun e w' => e=.returned (.tuple #[])∧Ac w w' g ((m + wgt d.m:Nat):Int)∧Mv WX w' (fun k => k=g):=wgC_all d.m (HLL.out d HMEM.out).2.1 109 ent109 add109 w _ g m (HLL.out d HMEM.out).1.1 HAX.out (by have h1:=HBD.out; have h2:=HD.out; unfold rW at h2; omega)
   clear HNX HWX HAR HNR
   go_wp2_with fail
   refine cI.mono ?_
   rintro e w5 ⟨rfl, hac, hmv⟩
   have HA5:Hid (Ac w w5 g ((m + wgt d.m:Nat):Int)):=hac
   have HN5:Hid (w5.heap[w§]?=some (.cells #[zI 0, zI 0] 56 (0, 0))):=(hmv.block _ (Array.getElem?_eq_some_iff.1 HNW.out).1 HN3.out.2).trans HNW.out
   have HE:Hid (stp rs=(m + wgt d.m) + ((rs.drop (i + 1)).map rW).sum):=by have h:=HD.out; show _=_; unfold rW at h ⊢; omega
   clear cI hac hmv q0 q1 q2 q3 q4 q5 q6 q7
   go_wp2_with fail
   exact ⟨⟨i + 1, m + wgt d.m, hlt, rfl, HA5, HN5, HE⟩, by simp only [intOf]; omega⟩
  ·obtain rfl:i=rs.length:=by omega
   have hnot:¬ (rs.length:Int) < (rs.length:Int):=by omega
   have HM:Hid (stp rs=m):=by show _=_; rw [HR.out, List.drop_length]; simp
   clear HR
   go_upto_region 8 with fail
   refine wp_region_held_drew (S:=fun v => v.cell? ⟨g, 0, none⟩=some (zI (m:Nat))) zK (Co HAR.out.C 0) (fun hHeld => ?_)
   refine wpAnyH_take (i:=0) (v:=?_) rfl zK zK zK (fun _ _ _ h => h) (Or.inl ⟨by rfl, ?_⟩) (by assumption) ?_
   rotate_left
   ·(intro v hv; go_simp; try (with_reducible rfl))
   try simp [Act.put]
   refine wpAnyH_take (i:=1) (v:=?_) rfl zK zK zK (fun _ _ _ h => h) (Or.inl ⟨by rfl, ?_⟩) (by assumption) ?_
   rotate_left
   ·(intro v hv; go_simp; try (with_reducible rfl))
   try simp [Act.put]
   have hdr:Below wr§ wr wr.drew:=⟨rfl, rfl, rfl, Nat.le_refl _, fun _ _ => rfl⟩
   have hbd:=below2 HAR.out.B hdr
   have cA:=grtA (HSL.out.on (mapz RuleM.sz _) hbd) (fun r hr => ⟨(HLL.out r hr).1.on hbd, (HLL.out r hr).2⟩)
   have HBW:Hid (Below w§ w wr.drew):=hbd
   have HNW:Hid (wr.drew.heap[w§]?=some (.cells #[zI 0, zI 0] 56 (0, 0))∧wr.drew.heap[g]?=some (.cells #[zI (m:Nat)] 3 (0, 0))):=⟨HNR.out, HAR.out.C⟩
   clear hdr hbd
   refine wpAnyH_ready (rs:=[2]) zK (by simp) ?_
   refine AllReadyH.cons rfl (fun K hK => ?_) AllReadyH.nil
   go_simp
   refine cA.mono ?_
   rintro e w5 ⟨rfl, hb5⟩
   have HB5:Hid (Below w§ w w5):=below2 HBW.out hb5
   have n5:=(hb5.block _ (Array.getElem?_eq_some_iff.1 HNW.out.1).1).trans HNW.out.1
   have g5:=(hb5.block _ (Array.getElem?_eq_some_iff.1 HNW.out.2).1).trans HNW.out.2
   obtain ⟨MA, eMA⟩:∃ x, mxs (rs.map rA)=x:=⟨_, rfl⟩
   rw [eMA]
   have HMA:Hid (mxs (rs.map rA)=MA):=eMA
   clear eMA
   refine hK.out _ _ (Co g5 0) (fun hHeld => ?_)
   clear hK K cA hb5
   try simp [Act.put]
   refine wpAnyH_take (i:=3) (v:=?_) rfl zK zK zK (fun _ _ _ h => h) (Or.inl ⟨by rfl, ?_⟩) (by assumption) ?_
   rotate_left
   ·(intro v hv; go_simp; try (with_reducible rfl))
   try simp [Act.put]
   have r0:w5.cell? ⟨w§, 0, none⟩=some (zI 0):=Co n5 0
   have r1:w5.cell? ⟨w§, 1, none⟩=some (zI 0):=Co n5 1
   have f0:w5.frozen? ⟨w§, 0, none⟩=false:=Fo n5 0
   have f1:w5.frozen? ⟨w§, 1, none⟩=false:=Fo n5 1
   have HN5:Hid (w5.heap[w§]?=some (.cells #[zI 0, zI 0] 56 (0, 0))∧w5.heap[g]?=some (.cells #[zI (m:Nat)] 3 (0, 0))):=⟨n5, g5⟩
   clear n5 g5
   refine wpAnyH_ready (rs:=[4]) zK (by simp) ?_
   refine AllReadyH.cons rfl (fun K hK => ?_) AllReadyH.nil
   go_simp
   have hu1:=heap_setCell_same w5 w§ 0 _ _ (zI (m:Nat)) HN5.out.1
   have hu2:=heap_setCell_same (w5.setCell ⟨w§, 0, none⟩ (zI (m:Nat))) w§ 1 _ _ (zI (MA:Nat)) hu1
   have hu3:((w5.setCell ⟨w§, 0, none⟩ (zI (m:Nat))).setCell ⟨w§, 1, none⟩ (zI (MA:Nat))).heap[g]?=some (.cells #[zI (m:Nat)] 3 (0, 0)):=(Below.heap_setCell _ _ _ _ (Ne.symm HN3.out.2)).trans ((Below.heap_setCell _ _ _ _ (Ne.symm HN3.out.2)).trans HN5.out.2)
   have HU:Hid (((w5.setCell ⟨w§, 0, none⟩ (zI (m:Nat))).setCell ⟨w§, 1, none⟩ (zI (MA:Nat))).heap[w§]?=some (.cells #[zI (m:Nat), zI (MA:Nat)] 56 (0, 0))∧Below w§ w ((w5.setCell ⟨w§, 0, none⟩ (zI (m:Nat))).setCell ⟨w§, 1, none⟩ (zI (MA:Nat)))):=⟨hu2, (HB5.out.setCell (Nat.le_refl _) _).setCell (Nat.le_refl _) _⟩
   refine hK.out _ _ (Co hu3 0) (fun hHeld => ?_)
   clear hK K hu1 hu2 hu3 r0 r1 f0 f1
   generalize (w5.setCell ⟨w§, 0, none⟩ (zI (m:Nat))).setCell ⟨w§, 1, none⟩ (zI (MA:Nat))=U at HU hHeld ⊢
   try simp [Act.put]
   refine wpAnyH_done zK ?_ _
   go_wp2_with fail
   exact bodyPost_ret (results_cell_row rfl _ _ w§ 56 #[zI (m:Nat), zI (MA:Nat)] (0, 0) _ rfl HU.out.1 Tryz.underlying56 rfl zK) rfl ⟨by rw [HM.out, HMA.out], HU.out.2⟩
end Go.Proofs.YtjimaceccllnlaaGreatDoor
