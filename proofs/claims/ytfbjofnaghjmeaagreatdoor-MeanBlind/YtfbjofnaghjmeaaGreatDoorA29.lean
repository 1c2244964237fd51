import Derived.Test.YtfbjofnaghjmeaaGreatDoorA0
import Derived.Test.YtfbjofnaghjmeaaGreatDoorA28
import Derived.Deep.RegionHeld3
import Derived.Deep.RegionHeld
namespace Go.Proofs.YtfbjofnaghjmeaaGreatDoor
set_option maxHeartbeats 1000000
set_option maxRecDepth 100000
open Go.RowKit
set_option linter.unusedVariables false
theorem i64_fit {x:Int}(h:Fx.fitB x=true):I64 x:=Fx.fitB_iff.1 h
theorem wn_64 (x:Int):Ok64 (wn x):=fun v h=>by
 unfold wn at h
 split at h
 ·cases h; exact i64_fit (by assumption)
 ·cases h
theorem tru_64 (b:Bool):Ok64 (.ok (tru b)):=fun v h=>by
 cases h
 unfold tru I64
 split <;> omega
theorem op1_64 {o a:Int}(h:I64 a):Ok64 (op1 o a):=fun v hv=>by
 unfold op1 at hv
 split at hv
 ·exact wn_64 _ v hv
 ·split at hv
  ·cases hv; exact⟨Fx.wrap64_lo _,Fx.wrap64_hi _⟩
  ·split at hv
   ·exact wn_64 _ v hv
   ·cases hv; exact h
theorem ite64 {c:Prop} [Decidable c] {r r':Except Int Int}(h1:c→Ok64 r) (h2:¬ c→Ok64 r'):Ok64 (if c then r else r'):=by
 split
 ·exact h1 (by assumption)
 ·exact h2 (by assumption)
theorem ok64 {a:Int}(h:I64 a):Ok64 (.ok a):=fun v hv=>by cases hv; exact h
theorem op2_64 {o a b:Int}(ha:I64 a) (hb:I64 b):Ok64 (op2 o a b):=by
 unfold op2
 refine ite64 (fun _=>ok64 (by split <;> assumption)) fun _=>?_
 refine ite64 (fun _=>ok64 (by split <;> assumption)) fun _=>?_
 refine ite64 (fun _=>wn_64 _) fun _=>?_
 refine ite64 (fun _=>wn_64 _) fun _=>?_
 refine ite64 (fun _=>wn_64 _) fun _=>?_
 refine ite64 (fun _=>ite64 (fun _ v h=>by cases h) fun _=>wn_64 _) fun _=>?_
 refine ite64 (fun _=>ite64 (fun _ v h=>by cases h) fun h0=>ok64 (by have h1:=Fx.tmod_bound (a:=a) h0; unfold I64 at *; omega)) fun _=>?_
 repeat' first
  | exact tru_64 _
  | refine ite64 (fun _=>tru_64 _) fun _=>?_
theorem opR_64 {o:Int}{r0 r1:Except Int Int}(h0:Ok64 r0) (h1:Ok64 r1):Ok64 (opR o r0 r1):=fun v hv=>by
 unfold opR at hv
 split at hv
 ·cases hv
 ·have hz:=h0 _ rfl
  split at hv
  ·exact op1_64 hz v hv
  ·split at hv
   ·cases hv; unfold I64; omega
   ·split at hv
    ·cases hv; unfold I64; omega
    ·split at hv
     ·cases hv
     ·have hy:=h1 _ rfl
      split at hv
      ·cases hv; exact hy
      ·exact op2_64 hz hy v hv
theorem cnd_64 {r0 r1 r2:Except Int Int}(h1:Ok64 r1) (h2:Ok64 r2):Ok64 (cndR r0 r1 r2):=fun v hv=>by
 unfold cndR at hv
 split at hv
 ·cases hv
 ·split at hv
  ·exact h1 v hv
  ·exact h2 v hv
theorem fld_64 {s:Sx.Sn}{f:Int}(h:I64 (Sx.getN s f)):Ok64 (fldR s f):=fun v hv=>by
 unfold fldR at hv
 split at hv
 ·cases hv
 ·cases hv; exact h
theorem ok64_0:Ok64 (.ok 0):=fun v h=>by cases h; unfold I64; omega
theorem valsR_get (s:Sx.Sn) (G:yB→Option Int):∀ (ks:List Nd) (i:Nat),(valsR s G ks).getD i (.ok 0)=if h:i < ks.length then valR s G ks[i] else .ok 0
 | [],i=>by simp [valsR]
 | k :: ks,0=>by simp [valsR]
 | k :: ks,i+1=>by
  have h:=valsR_get s G ks i
  simp only [valsR,List.getD_cons_succ,List.length_cons,h,List.getElem_cons_succ]
  by_cases hi:i < ks.length
  ·rw [dif_pos hi,dif_pos (by omega)]
  ·rw [dif_neg hi,dif_neg (by omega)]
theorem vals_64 {s:Sx.Sn}{G:yB→Option Int}{ks:List Nd}(h:∀ k ∈ ks,Ok64 (valR s G k)) (i:Nat):Ok64 ((valsR s G ks).getD i (.ok 0)):=by
 rw [valsR_get]
 split
 ·exact h _ (List.getElem_mem _)
 ·exact ok64_0
theorem cmb_64 {s:Sx.Sn}{G:yB→Option Int}(hs:∀ f,I64 (Sx.getN s f)) {h:Hd}{ks:List Nd}(hr:Rg h) (hG:h.k=2→∀ v,G h.x=some v→I64 v) (hk:∀ k ∈ ks,Ok64 (valR s G k)):Ok64 (cmb s G h (valsR s G ks)):=fun v hv=>by
 unfold cmb at hv
 split at hv
 ·cases hv; exact⟨hr.n0,hr.n1⟩
 ·split at hv
  ·cases hv
   cases e:G h.x with
   | none=>exact ok64_0 _ rfl
   | some z=>exact hG (by assumption) z e
  ·split at hv
   ·exact fld_64 (hs _) v hv
   ·split at hv
    ·exact tru_64 _ v hv
    ·split at hv
     ·exact cnd_64 (vals_64 hk 1) (vals_64 hk 2) v hv
     ·split at hv
      ·exact vals_64 hk 0 v hv
      ·exact opR_64 (vals_64 hk 0) (vals_64 hk 1) v hv
theorem nameLen {w:yW}{m:Nd}(h:Lies w m):m.h.x.size≤maxLen:=by have:=h.rg.x1; unfold maxLen; omega
theorem val_64 {w:yW}{s:Sx.Sn}{G:yB→Option Int}(hs:∀ f,I64 (Sx.getN s f)) (hG:∀ x v,x.size≤maxLen→G x=some v→I64 v):∀ m,Lies w m→Ok64 (valR s G m):=by
 refine Nd.ind fun h a c ks ih hl=>?_
 rw [valR]
 exact cmb_64 hs hl.rg (fun _ v hv=>hG _ v (nameLen hl) hv) (fun k hk=>ih k hk (hl.sub k hk))
theorem below_drewN {B:Nat}{w w':yW}(h:Below B w w') (n:Nat):Below B w (w'.drewN n):=⟨h.os,h.tape,h.output,h.size,h.block⟩
theorem zero3 (w:yW):(zeroValue 3).run Tryz.prog w=.ok (zI 0) w:=by kernel_rfl
theorem val_lit {b:Nat}{s:Sx.Sn}{G:yB→Option Int}{o t n f p:Int}{x:yB}{a:Option Addr}{c:Nat}{ks:List Nd}{w:yW}  :
  Calls zG 37 #[zP b,.agg (zW 1 o t n f x a ks c p)] w (OutV w (.ok n)):=by
 go_enter Tryz.func37,Tryz.ntmps37
 go_wp2_with fail
 go_ret
 exact⟨rfl,below_new _ _⟩
theorem val_reg {b:Nat}{s:Sx.Sn}{G:yB→Option Int}{o t n f p:Int}{x:yB}{a:Option Addr}{c:Nat}{ks:List Nd}{w:yW}(hv:Sv w b s G) (hx:x.size≤maxLen) {v:Int}(hg:G x=some v) :
  Calls zG 37 #[zP b,.agg (zW 2 o t n f x a ks c p)] w (OutV w (.ok v)):=by
 obtain⟨hi,rb,ro,n',c',mb,i,nn,D,h6,h7,ho,hk,hlt,hc⟩:=(hv.on (below_new w (.cells (zW 2 o t n f x a ks c p) 38))).rg x v hx hg
 have hkey:=WideMaps.keyOf_string_mk (P:=Tryz.prog) Tryz.underlying9 hx
 have HB:=below_new w (.cells (zW 2 o t n f x a ks c p) 38)
 have HN:=heap_new w (.cells (zW 2 o t n f x a ks c p) 38)
 obtain⟨W,eW⟩:∃ W,w.alloc (.cells (zW 2 o t n f x a ks c p) 38)=W:=⟨_,rfl⟩
 have EW:Hid (w.alloc (.cells (zW 2 o t n f x a ks c p) 38)=W):=eW
 rw [eW] at h6 h7 ho hc HB HN
 have q0:W.cell? w§¢0=some (zU 2):=cell_of HN 0
 have q5:W.cell? w§¢5=some (.string x):=cell_of HN 5
 have hlt':(i:Int) < (n':Int):=by omega
 have hi0:(0:Int)≤(i:Int):=by omega
 clear eW hv HN
 go_enter Tryz.func37,Tryz.ntmps37
 go_upto_region 2 with fail
 rw [EW.out]
 clear EW
 have hrun:∀ n,Sem.run Tryz.prog (Instr.lookup 89 (.map (some mb)) (.string x) false) (W.drewN n)=.ok (zI (i:Int)) (W.drewN n):=fun n=>by
  obtain⟨cc,h1,h2,_⟩:=World.ownsMap.lookup_int (w:=W.drewN n) (show (W.drewN n).ownsMap Tryz.prog 9 (plainElem Tryz.prog 3) mb nn D from ho) law9 Tryz.underlying89 Tryz.underlying3 (zero3 _) hkey
  have e:=h2.symm.trans hk
  cases e
  exact h1
 go_upto_region 5 with fail
 go_quiet (fail)
 go_wp2_with fail
 go_ret
 exact⟨rfl,below_drewN HB nq⟩
theorem val_fld {b:Nat}{s:Sx.Sn}{G:yB→Option Int}{o t n f p:Int}{x:yB}{a:Option Addr}{c:Nat}{ks:List Nd}{w:yW}(hv:Sv w b s G) (f0:1≤f) (f1:f≤6) :
  Calls zG 37 #[zP b,.agg (zW 3 o t n f x a ks c p)] w (OutV w (fldR s f)):=by
 have HB:=below_new w (.cells (zW 3 o t n f x a ks c p) 38)
 have k:=field_any (hv.on HB).sn f f0 f1
 have HB:Hid (yD w (w.alloc (.cells (zW 3 o t n f x a ks c p) 38))):=HB
 obtain⟨r,er⟩:∃ r,fldR s f=r:=⟨_,rfl⟩
 rw [er] at k ⊢
 clear er hv
 cases r with
 | error q =>
  go_enter Tryz.func37,Tryz.ntmps37
  go_wp2_with fail
  refine k.mono ?_
  rintro e w1 ⟨rfl,hb⟩
  exact⟨rfl,rfl,below2T HB.out hb⟩
 | ok v =>
  go_enter Tryz.func37,Tryz.ntmps37
  go_wp2_with fail
  refine k.mono ?_
  rintro e w1 ⟨rfl,hb⟩
  have HB1:Hid (yD w w1):=below2T HB.out hb
  clear k hb
  unfold endV
  go_wp2_with fail
  go_ret
  exact⟨rfl,HB1.out⟩
theorem val_has {b:Nat}{s:Sx.Sn}{G:yB→Option Int}{o t n f p:Int}{x:yB}{a:Option Addr}{c:Nat}{ks:List Nd}{w:yW}(hv:Sv w b s G) (f0:1≤f) (f1:f≤6) :
  Calls zG 37 #[zP b,.agg (zW 4 o t n f x a ks c p)] w (OutV w (.ok (tru (decide (Sx.getN s f≠0))))):=by
 have HB:=below_new w (.cells (zW 4 o t n f x a ks c p) 38)
 have k:=Sx.get_any s f (by omega) (by omega)
 obtain⟨c0,c1,c2,c3,c4,c5⟩:=(hv.on HB).sn
 have HN:=heap_new w (.cells (zW 4 o t n f x a ks c p) 38)
 obtain⟨W,eW⟩:∃ W,w.alloc (.cells (zW 4 o t n f x a ks c p) 38)=W:=⟨_,rfl⟩
 have EW:Hid (w.alloc (.cells (zW 4 o t n f x a ks c p) 38)=W):=eW
 rw [eW] at HB HN c0 c1 c2 c3 c4 c5
 have q0:W.cell? w§¢0=some (zU 4):=cell_of HN 0
 have q4:W.cell? w§¢4=some (zU f):=cell_of HN 4
 have HB:Hid (yD w W):=HB
 unfold Sx.snA at k
 obtain⟨g,eg⟩:∃ g,Sx.getN s f=g:=⟨_,rfl⟩
 rw [eg] at k ⊢
 clear eg hv eW HN
 go_enter Tryz.func37,Tryz.ntmps37
 go_upto_region 2 with fail
 rw [EW.out]
 clear EW
 go_upto_region 9 with fail
 have k:∀ v,Calls zG 70 #[.agg #[zI s.bid,zI s.ask,zI s.last,zI s.vol,zI s.now,zI s.opn],zU f] v fun e w'=>e=.returned (zI g)∧yD v w':=k
 have HS:Hid (∀ v,GB W v→v.cell? b¢0=some (zI s.bid)∧v.cell? b¢1=some (zI s.ask)∧v.cell? b¢2=some (zI s.last)∧v.cell? b¢3=some (zI s.vol)∧v.cell? b¢4=some (zI s.now)∧v.cell? b¢5=some (zI s.opn)∧v.cell? w§¢4=some (zU f)∧GB W v) :=
  fun v hv=>⟨cell_on c0 hv,cell_on c1 hv,cell_on c2 hv,cell_on c3 hv,cell_on c4 hv,cell_on c5 hv,cell_on q4 hv,hv⟩
 clear c0 c1 c2 c3 c4 c5 q4 q0
 go_region_held3 (fun v=>v.cell? b¢0=some (zI s.bid)∧v.cell? b¢1=some (zI s.ask)∧v.cell? b¢2=some (zI s.last)∧v.cell? b¢3=some (zI s.vol)∧v.cell? b¢4=some (zI s.now)∧v.cell? b¢5=some (zI s.opn)∧v.cell? w§¢4=some (zU f)∧GB W v)
  (exact HS.out _ (by (repeat (first | with_reducible assumption | with_reducible exact GB.refl _ | with_reducible apply GB.drew | with_reducible apply GB.alloc | with_reducible refine GB.call (by with_reducible assumption) ?_))))
  (first
   | (go_at_call 70; refine (k _).mono ?_; rintro e w6 ⟨rfl,hb6⟩)
   | (go_at_call 69; refine (truth_any _ _).mono ?_; rintro e w7 ⟨rfl,e7⟩; obtain rfl:=e7.symm))
 all_goals
  refine abs_world (P:=fun V=>GB W V) (by (repeat (first | with_reducible assumption | with_reducible exact GB.refl _ | with_reducible apply GB.drew | with_reducible apply GB.alloc | with_reducible refine GB.call (by with_reducible assumption) ?_))) ?_
  intro V hV
  have HV:Hid (yD w V):=below2T HB.out hV
  clear hV
  go_wp2_with fail
  go_ret
  exact⟨congrArg (fun b=>endV (.ok (tru b))) (show _=decide (g≠0) by by_cases hg:g=0 <;> simp [hg]),HV.out⟩
theorem val_conv {b:Nat}{s:Sx.Sn}{G:yB→Option Int}{o t n f p:Int}{x:yB}{a:Option Addr}{c:Nat}{ks:List Nd}{w:yW}{R:Nat→Except Int Int}(hl:1≤ks.length) {kb ko:Nat}(ea:a=some kb¢ko) (hk:∀ i (hi:i < ks.length),NdAt w kb (ko+i * 8) ks[i]∧KC w b ks[i] (R i)) :
  Calls zG 37 #[zP b,.agg (zW 9 o t n f x a ks c p)] w (OutV w (R 0)):=by
 subst ea
 have HB:=below_new w (.cells #[zU 9,zU o,zU t,zI n,zU f,.string x,.slice (some kb¢ko) ks.length c,zI p] 38)
 have HN:=heap_new w (.cells #[zU 9,zU o,zU t,zI n,zU f,.string x,.slice (some kb¢ko) ks.length c,zI p] 38)
 have hsz:=size_alloc w (.cells #[zU 9,zU o,zU t,zI n,zU f,.string x,.slice (some kb¢ko) ks.length c,zI p] 38)
 obtain⟨W,eW⟩:∃ W,w.alloc (.cells #[zU 9,zU o,zU t,zI n,zU f,.string x,.slice (some kb¢ko) ks.length c,zI p] 38)=W:=⟨_,rfl⟩
 rw [eW] at HB HN hsz
 have EW:Hid (w.alloc (.cells #[zU 9,zU o,zU t,zI n,zU f,.string x,.slice (some kb¢ko) ks.length c,zI p] 38)=W):=eW
 have HN:Hid (W.heap[w§]? = (zC #[zU 9,zU o,zU t,zI n,zU f,.string x,.slice (some kb¢ko) ks.length c,zI p] 38)∧w§ < W§):=⟨HN,by omega⟩
 have HB:Hid (yD w W):=HB
 have HK:Hid (∀ i (hi:i < ks.length),NdAt w kb (ko+i * 8) ks[i]∧KC w b ks[i] (R i)):=hk
 have k0:=(hk 0 (by omega)).2
 have q:=(hk 0 (by omega)).1.on HB.out
 simp only [Nat.zero_mul,Nat.add_zero] at q
 obtain⟨y0,y1,y2,y3,y4,y5,y6,y7⟩:=q
 have h0l:(0:Int) < (ks.length:Int):=by omega
 have hl:1≤ks.length:=hl
 clear eW hsz hk
 obtain⟨r,er⟩:∃ r,R 0=r:=⟨_,rfl⟩
 rw [er] at k0 ⊢
 obtain⟨m,em⟩:∃ m,ks[0]=m:=⟨_,rfl⟩
 rw [em] at k0 y0 y1 y2 y3 y4 y5 y6 y7
 have q0:W.cell? w§¢0=some (zU 9):=cell_of HN.out.1 0
 have q1:W.cell? w§¢1=some (zU o):=cell_of HN.out.1 1
 have q6:W.cell? w§¢6=some (.slice (some kb¢ko) ks.length c):=cell_of HN.out.1 6
 clear er em HK
 cases r with
 | error e0 =>
  have k:=k0.err W HB.out
  clear k0
  go_enter Tryz.func37,Tryz.ntmps37
  go_upto_region 2 with fail
  rw [EW.out]
  go_wp2_with fail
  refine k.mono ?_
  rintro e w1 ⟨rfl,hb⟩
  exact⟨rfl,rfl,below2T HB.out hb⟩
 | ok v =>
  have k:=k0.ok W HB.out
  clear k0
  go_enter Tryz.func37,Tryz.ntmps37
  go_upto_region 2 with fail
  rw [EW.out]
  go_wp2_with fail
  refine k.mono ?_
  rintro e w1 ⟨rfl,hb⟩
  have HB1:Hid (yD w w1):=below2T HB.out hb
  clear k hb
  go_wp2_with fail
  go_ret
  exact⟨rfl,HB1.out⟩
theorem val_cond {b:Nat}{s:Sx.Sn}{G:yB→Option Int}{o t n f p:Int}{x:yB}{a:Option Addr}{c:Nat}{ks:List Nd}{w:yW}{R:Nat→Except Int Int}(hl:3≤ks.length) {kb ko:Nat}(ea:a=some kb¢ko) (hk:∀ i (hi:i < ks.length),NdAt w kb (ko+i * 8) ks[i]∧KC w b ks[i] (R i)) :
  Calls zG 37 #[zP b,.agg (zW 7 o t n f x a ks c p)] w (OutV w (cndR (R 0) (R 1) (R 2))):=by
 subst ea
 have HB:=below_new w (.cells #[zU 7,zU o,zU t,zI n,zU f,.string x,.slice (some kb¢ko) ks.length c,zI p] 38)
 have HN:=heap_new w (.cells #[zU 7,zU o,zU t,zI n,zU f,.string x,.slice (some kb¢ko) ks.length c,zI p] 38)
 have hsz:=size_alloc w (.cells #[zU 7,zU o,zU t,zI n,zU f,.string x,.slice (some kb¢ko) ks.length c,zI p] 38)
 obtain⟨W,eW⟩:∃ W,w.alloc (.cells #[zU 7,zU o,zU t,zI n,zU f,.string x,.slice (some kb¢ko) ks.length c,zI p] 38)=W:=⟨_,rfl⟩
 rw [eW] at HB HN hsz
 have EW:Hid (w.alloc (.cells #[zU 7,zU o,zU t,zI n,zU f,.string x,.slice (some kb¢ko) ks.length c,zI p] 38)=W):=eW
 have HN:Hid (W.heap[w§]? = (zC #[zU 7,zU o,zU t,zI n,zU f,.string x,.slice (some kb¢ko) ks.length c,zI p] 38)∧w§ < W§):=⟨HN,by omega⟩
 have HB:Hid (yD w W):=HB
 have HK:Hid (∀ i (hi:i < ks.length),NdAt w kb (ko+i * 8) ks[i]∧KC w b ks[i] (R i)):=hk
 have k0:=(hk 0 (by omega)).2
 have q:=(hk 0 (by omega)).1.on HB.out
 simp only [Nat.zero_mul,Nat.add_zero] at q
 obtain⟨y0,y1,y2,y3,y4,y5,y6,y7⟩:=q
 have h0l:(0:Int) < (ks.length:Int):=by omega
 have hl:3≤ks.length:=hl
 clear eW hsz hk
 obtain⟨r,er⟩:∃ r,R 0=r:=⟨_,rfl⟩
 rw [er] at k0 ⊢
 obtain⟨m,em⟩:∃ m,ks[0]=m:=⟨_,rfl⟩
 rw [em] at k0 y0 y1 y2 y3 y4 y5 y6 y7
 have q0:W.cell? w§¢0=some (zU 7):=cell_of HN.out.1 0
 have q1:W.cell? w§¢1=some (zU o):=cell_of HN.out.1 1
 have q6:W.cell? w§¢6=some (.slice (some kb¢ko) ks.length c):=cell_of HN.out.1 6
 clear er em
 cases r with
 | error e0 =>
  have k:=k0.err W HB.out
  clear k0
  go_enter Tryz.func37,Tryz.ntmps37
  go_upto_region 2 with fail
  rw [EW.out]
  go_wp2_with fail
  refine k.mono ?_
  rintro e w1 ⟨rfl,hb⟩
  exact⟨rfl,rfl,below2T HB.out hb⟩
 | ok v =>
  have k:=k0.ok W HB.out
  clear k0
  by_cases h1:v=1
  ·subst h1
   go_enter Tryz.func37,Tryz.ntmps37
   go_upto_region 2 with fail
   rw [EW.out]
   clear EW
   go_wp2_with fail
   refine k.mono ?_
   rintro e w1 ⟨rfl,hb⟩
   have kj:=(HK.out 1 (by omega)).2
   have q:=(HK.out 1 (by omega)).1.on (below2T HB.out hb)
   have hN1:=(hb.block w§ HN.out.2).trans HN.out.1
   have HB1:Hid (yD w w1):=below2T HB.out hb
   have hjl:(1:Int) < (ks.length:Int):=by omega
   clear y0 y1 y2 y3 y4 y5 y6 y7 q0 q1 q6 k hb
   have q0:w1.cell? w§¢0=some (zU 7):=cell_of hN1 0
   have q1:w1.cell? w§¢1=some (zU o):=cell_of hN1 1
   have q6:w1.cell? w§¢6=some (.slice (some kb¢ko) ks.length c):=cell_of hN1 6
   obtain⟨r,er⟩:∃ r,R 1=r:=⟨_,rfl⟩
   rw [er] at kj
   have hE:Hid (cndR (.ok 1) (R 1) (R 2)=r):=show _=_ from er
   obtain⟨m2,em2⟩:∃ m,ks[1]=m:=⟨_,rfl⟩
   rw [em2] at kj q
   simp only [show 1 * 8=8 from rfl] at q
   obtain⟨y0,y1,y2,y3,y4,y5,y6,y7⟩:=q
   clear er em2 HK hN1
   cases r with
   | error e0 =>
    have k:=kj.err w1 HB1.out
    go_wp2_with fail
    refine k.mono ?_
    rintro e w2 ⟨rfl,hb⟩
    exact⟨rfl,(congrArg endV hE.out).symm,below2T HB1.out hb⟩
   | ok v =>
    have k:=kj.ok w1 HB1.out
    go_wp2_with fail
    refine k.mono ?_
    rintro e w2 ⟨rfl,hb⟩
    have HB2:Hid (yD w w2):=below2T HB1.out hb
    clear k hb
    go_wp2_with fail
    go_ret
    exact⟨(congrArg endV hE.out).symm,HB2.out⟩
  ·have h1':(v == 1)=false:=by simpa using h1
   go_enter Tryz.func37,Tryz.ntmps37
   go_upto_region 2 with fail
   rw [EW.out]
   clear EW
   go_wp2_with fail
   refine k.mono ?_
   rintro e w1 ⟨rfl,hb⟩
   have kj:=(HK.out 2 (by omega)).2
   have q:=(HK.out 2 (by omega)).1.on (below2T HB.out hb)
   have hN1:=(hb.block w§ HN.out.2).trans HN.out.1
   have HB1:Hid (yD w w1):=below2T HB.out hb
   have hjl:(2:Int) < (ks.length:Int):=by omega
   clear y0 y1 y2 y3 y4 y5 y6 y7 q0 q1 q6 k hb
   have q0:w1.cell? w§¢0=some (zU 7):=cell_of hN1 0
   have q1:w1.cell? w§¢1=some (zU o):=cell_of hN1 1
   have q6:w1.cell? w§¢6=some (.slice (some kb¢ko) ks.length c):=cell_of hN1 6
   obtain⟨r,er⟩:∃ r,R 2=r:=⟨_,rfl⟩
   rw [er] at kj
   have hE:Hid (cndR (.ok v) (R 1) (R 2)=r):=(if_neg h1).trans er
   obtain⟨m2,em2⟩:∃ m,ks[2]=m:=⟨_,rfl⟩
   rw [em2] at kj q
   simp only [show 2 * 8=16 from rfl] at q
   obtain⟨y0,y1,y2,y3,y4,y5,y6,y7⟩:=q
   clear er em2 HK hN1
   cases r with
   | error e0 =>
    have k:=kj.err w1 HB1.out
    go_wp2_with fail
    refine k.mono ?_
    rintro e w2 ⟨rfl,hb⟩
    exact⟨rfl,(congrArg endV hE.out).symm,below2T HB1.out hb⟩
   | ok v =>
    have k:=kj.ok w1 HB1.out
    go_wp2_with fail
    refine k.mono ?_
    rintro e w2 ⟨rfl,hb⟩
    have HB2:Hid (yD w w2):=below2T HB1.out hb
    clear k hb
    go_wp2_with fail
    go_ret
    exact⟨(congrArg endV hE.out).symm,HB2.out⟩
theorem val_op5 {b:Nat}{o t n f p:Int}{x:yB}{a:Option Addr}{c:Nat}{ks:List Nd}{w:yW}{F:Nat}{r:Except Int Int}
  (cD:∀ v,Calls zG 71 #[zU o] v fun e w'=>e=.returned (fnV F)∧yD v w') (hE:∀ args v,Sem.run Tryz.prog (callFunc F args) v=.ok (.enter F args) v)
  (cF:∀ v,yD w v→Calls zG F #[zP b,.slice a ks.length c] v (OutV v r)) :
  Calls zG 37 #[zP b,.agg (zW 5 o t n f x a ks c p)] w (OutV w r):=by
 have HB:=below_new w (.cells (zW 5 o t n f x a ks c p) 38)
 have HN:=heap_new w (.cells (zW 5 o t n f x a ks c p) 38)
 obtain⟨W,eW⟩:∃ W,w.alloc (.cells (zW 5 o t n f x a ks c p) 38)=W:=⟨_,rfl⟩
 have EW:Hid (w.alloc (.cells (zW 5 o t n f x a ks c p) 38)=W):=eW
 rw [eW] at HB HN
 have q0:W.cell? w§¢0=some (zU 5):=cell_of HN 0
 have q1:W.cell? w§¢1=some (zU o):=cell_of HN 1
 have q6:W.cell? w§¢6=some (.slice a ks.length c):=cell_of HN 6
 have HB:Hid (yD w W):=HB
 have HS:Hid (∀ v,GB W v→v.cell? w§¢1=some (zU o)∧v.cell? w§¢6=some (.slice a ks.length c)∧GB W v):=fun v hv=>⟨cell_on q1 hv,cell_on q6 hv,hv⟩
 have HF:Hid (∀ v,GB W v→Calls zG F #[zP b,.slice a ks.length c] v (OutV v r)):=fun v hv=>cF v (below2T HB.out hv)
 unfold fnV at cD
 clear eW HN cF
 go_enter Tryz.func37,Tryz.ntmps37
 go_upto_region 2 with fail
 rw [EW.out]
 clear EW
 go_upto_region 16 with fail
 cases r with
 | error q =>
  have cF:∀ v,GB W v→Calls zG F #[zP b,.slice a ks.length c] v fun e w'=>e=fltE q∧yD v w':=HF.out
  refine wp_region_held_drew (S:=(fun v=>v.cell? w§¢1=some (zU o)∧v.cell? w§¢6=some (.slice a ks.length c)∧GB W v)) zK (HS.out _ (by (repeat (first | with_reducible assumption | with_reducible exact GB.refl _ | with_reducible apply GB.drew | with_reducible apply GB.alloc | with_reducible refine GB.call (by with_reducible assumption) ?_)))) (fun hHeld=>?_)
  refine wpAnyH_take (i:=0) (v:=?_) rfl zK zK zK (fun _ _ _ h=>h) (Or.inl ⟨by rfl,?_⟩) (by assumption) ?_
  rotate_left
  ·(intro w hSw; (try dsimp only at hSw); go_simp; try (with_reducible rfl))
  try simp [Act.put]
  refine wpAnyH_take (i:=1) (v:=?_) rfl zK zK zK (fun _ _ _ h=>h) (Or.inl ⟨by rfl,?_⟩) (by assumption) ?_
  rotate_left
  ·(intro w hSw; (try dsimp only at hSw); go_simp; try (with_reducible rfl))
  try simp [Act.put]
  refine wpAnyH_take (i:=3) (v:=?_) rfl zK zK zK (fun _ _ _ h=>h) (Or.inl ⟨by rfl,?_⟩) (by assumption) ?_
  rotate_left
  ·(intro w hSw; (try dsimp only at hSw); go_simp; try (with_reducible rfl))
  try simp [Act.put]
  refine wpAnyH_take (i:=4) (v:=?_) rfl zK zK zK (fun _ _ _ h=>h) (Or.inl ⟨by rfl,?_⟩) (by assumption) ?_
  rotate_left
  ·(intro w hSw; (try dsimp only at hSw); go_simp; try (with_reducible rfl))
  try simp [Act.put]
  refine wpAnyH_take (i:=5) (v:=?_) rfl zK zK zK (fun _ _ _ h=>h) (Or.inl ⟨by rfl,?_⟩) (by assumption) ?_
  rotate_left
  ·(intro w hSw; (try dsimp only at hSw); go_simp; try (with_reducible rfl))
  try simp [Act.put]
  refine wpAnyH_ready (rs:=[2]) zK (by simp) ?_
  refine AllReadyH.cons rfl (fun K hK=>?_) AllReadyH.nil
  go_simp
  refine (cD _).mono ?_
  rintro e w2 ⟨rfl,hb2⟩
  have hg2:GB W w2:=GB.call hb2 (by (repeat (first | with_reducible assumption | with_reducible exact GB.refl _ | with_reducible apply GB.drew | with_reducible apply GB.alloc | with_reducible refine GB.call (by with_reducible assumption) ?_)))
  have HG2:Hid (GB W w2):=hg2
  go_simp
  refine hK.out _ _ ?_ (fun hHeld=>?_)
  ·exact HS.out _ hg2
  clear hK K
  try simp [Act.put]
  refine wpAnyH_ready (rs:=[6]) zK (by simp) ?_
  refine AllReadyH.cons rfl (fun K hK=>?_) AllReadyH.nil
  go_simp
  refine (cF _ HG2.out).mono ?_
  rintro e w3 ⟨rfl,hb3⟩
  exact⟨rfl,rfl,below2T HB.out (GB.call hb3 HG2.out)⟩
 | ok z =>
  have cF:∀ v,GB W v→Calls zG F #[zP b,.slice a ks.length c] v fun e w'=>e=.returned (zI z)∧yD v w':=HF.out
  go_region_held3 (fun v=>v.cell? w§¢1=some (zU o)∧v.cell? w§¢6=some (.slice a ks.length c)∧GB W v)
   (exact HS.out _ (by (repeat (first | with_reducible assumption | with_reducible exact GB.refl _ | with_reducible apply GB.drew | with_reducible apply GB.alloc | with_reducible refine GB.call (by with_reducible assumption) ?_))))
   (first
    | (go_at_call 71; refine (cD _).mono ?_; rintro e w6 ⟨rfl,hb6⟩)
    | (refine (cF _ (by (repeat (first | with_reducible assumption | with_reducible exact GB.refl _ | with_reducible apply GB.drew | with_reducible apply GB.alloc | with_reducible refine GB.call (by with_reducible assumption) ?_)))).mono ?_; rintro e w7 ⟨rfl,hb7⟩))
  all_goals
   refine abs_world (P:=fun V=>GB W V) (by (repeat (first | with_reducible assumption | with_reducible exact GB.refl _ | with_reducible apply GB.drew | with_reducible apply GB.alloc | with_reducible refine GB.call (by with_reducible assumption) ?_))) ?_
   intro V hV
   have HV:Hid (yD w V):=below2T HB.out hV
   clear hV
   go_wp2_with fail
   go_ret
   exact⟨rfl,HV.out⟩
theorem val_op6 {b:Nat}{o t n f p:Int}{x:yB}{a:Option Addr}{c:Nat}{ks:List Nd}{w:yW}{F:Nat}{r:Except Int Int}
  (cD:∀ v,Calls zG 71 #[zU o] v fun e w'=>e=.returned (fnV F)∧yD v w') (hE:∀ args v,Sem.run Tryz.prog (callFunc F args) v=.ok (.enter F args) v)
  (cF:∀ v,yD w v→Calls zG F #[zP b,.slice a ks.length c] v (OutV v r)) :
  Calls zG 37 #[zP b,.agg (zW 6 o t n f x a ks c p)] w (OutV w r):=by
 have HB:=below_new w (.cells (zW 6 o t n f x a ks c p) 38)
 have HN:=heap_new w (.cells (zW 6 o t n f x a ks c p) 38)
 obtain⟨W,eW⟩:∃ W,w.alloc (.cells (zW 6 o t n f x a ks c p) 38)=W:=⟨_,rfl⟩
 have EW:Hid (w.alloc (.cells (zW 6 o t n f x a ks c p) 38)=W):=eW
 rw [eW] at HB HN
 have q0:W.cell? w§¢0=some (zU 6):=cell_of HN 0
 have q1:W.cell? w§¢1=some (zU o):=cell_of HN 1
 have q6:W.cell? w§¢6=some (.slice a ks.length c):=cell_of HN 6
 have HB:Hid (yD w W):=HB
 have HS:Hid (∀ v,GB W v→v.cell? w§¢1=some (zU o)∧v.cell? w§¢6=some (.slice a ks.length c)∧GB W v):=fun v hv=>⟨cell_on q1 hv,cell_on q6 hv,hv⟩
 have HF:Hid (∀ v,GB W v→Calls zG F #[zP b,.slice a ks.length c] v (OutV v r)):=fun v hv=>cF v (below2T HB.out hv)
 unfold fnV at cD
 clear eW HN cF
 go_enter Tryz.func37,Tryz.ntmps37
 go_upto_region 2 with fail
 rw [EW.out]
 clear EW
 go_upto_region 16 with fail
 cases r with
 | error q =>
  have cF:∀ v,GB W v→Calls zG F #[zP b,.slice a ks.length c] v fun e w'=>e=fltE q∧yD v w':=HF.out
  refine wp_region_held_drew (S:=(fun v=>v.cell? w§¢1=some (zU o)∧v.cell? w§¢6=some (.slice a ks.length c)∧GB W v)) zK (HS.out _ (by (repeat (first | with_reducible assumption | with_reducible exact GB.refl _ | with_reducible apply GB.drew | with_reducible apply GB.alloc | with_reducible refine GB.call (by with_reducible assumption) ?_)))) (fun hHeld=>?_)
  refine wpAnyH_take (i:=0) (v:=?_) rfl zK zK zK (fun _ _ _ h=>h) (Or.inl ⟨by rfl,?_⟩) (by assumption) ?_
  rotate_left
  ·(intro w hSw; (try dsimp only at hSw); go_simp; try (with_reducible rfl))
  try simp [Act.put]
  refine wpAnyH_take (i:=1) (v:=?_) rfl zK zK zK (fun _ _ _ h=>h) (Or.inl ⟨by rfl,?_⟩) (by assumption) ?_
  rotate_left
  ·(intro w hSw; (try dsimp only at hSw); go_simp; try (with_reducible rfl))
  try simp [Act.put]
  refine wpAnyH_take (i:=3) (v:=?_) rfl zK zK zK (fun _ _ _ h=>h) (Or.inl ⟨by rfl,?_⟩) (by assumption) ?_
  rotate_left
  ·(intro w hSw; (try dsimp only at hSw); go_simp; try (with_reducible rfl))
  try simp [Act.put]
  refine wpAnyH_take (i:=4) (v:=?_) rfl zK zK zK (fun _ _ _ h=>h) (Or.inl ⟨by rfl,?_⟩) (by assumption) ?_
  rotate_left
  ·(intro w hSw; (try dsimp only at hSw); go_simp; try (with_reducible rfl))
  try simp [Act.put]
  refine wpAnyH_take (i:=5) (v:=?_) rfl zK zK zK (fun _ _ _ h=>h) (Or.inl ⟨by rfl,?_⟩) (by assumption) ?_
  rotate_left
  ·(intro w hSw; (try dsimp only at hSw); go_simp; try (with_reducible rfl))
  try simp [Act.put]
  refine wpAnyH_ready (rs:=[2]) zK (by simp) ?_
  refine AllReadyH.cons rfl (fun K hK=>?_) AllReadyH.nil
  go_simp
  refine (cD _).mono ?_
  rintro e w2 ⟨rfl,hb2⟩
  have hg2:GB W w2:=GB.call hb2 (by (repeat (first | with_reducible assumption | with_reducible exact GB.refl _ | with_reducible apply GB.drew | with_reducible apply GB.alloc | with_reducible refine GB.call (by with_reducible assumption) ?_)))
  have HG2:Hid (GB W w2):=hg2
  go_simp
  refine hK.out _ _ ?_ (fun hHeld=>?_)
  ·exact HS.out _ hg2
  clear hK K
  try simp [Act.put]
  refine wpAnyH_ready (rs:=[6]) zK (by simp) ?_
  refine AllReadyH.cons rfl (fun K hK=>?_) AllReadyH.nil
  go_simp
  refine (cF _ HG2.out).mono ?_
  rintro e w3 ⟨rfl,hb3⟩
  exact⟨rfl,rfl,below2T HB.out (GB.call hb3 HG2.out)⟩
 | ok z =>
  have cF:∀ v,GB W v→Calls zG F #[zP b,.slice a ks.length c] v fun e w'=>e=.returned (zI z)∧yD v w':=HF.out
  go_region_held3 (fun v=>v.cell? w§¢1=some (zU o)∧v.cell? w§¢6=some (.slice a ks.length c)∧GB W v)
   (exact HS.out _ (by (repeat (first | with_reducible assumption | with_reducible exact GB.refl _ | with_reducible apply GB.drew | with_reducible apply GB.alloc | with_reducible refine GB.call (by with_reducible assumption) ?_))))
   (first
    | (go_at_call 71; refine (cD _).mono ?_; rintro e w6 ⟨rfl,hb6⟩)
    | (refine (cF _ (by (repeat (first | with_reducible assumption | with_reducible exact GB.refl _ | with_reducible apply GB.drew | with_reducible apply GB.alloc | with_reducible refine GB.call (by with_reducible assumption) ?_)))).mono ?_; rintro e w7 ⟨rfl,hb7⟩))
  all_goals
   refine abs_world (P:=fun V=>GB W V) (by (repeat (first | with_reducible assumption | with_reducible exact GB.refl _ | with_reducible apply GB.drew | with_reducible apply GB.alloc | with_reducible refine GB.call (by with_reducible assumption) ?_))) ?_
   intro V hV
   have HV:Hid (yD w V):=below2T HB.out hV
   clear hV
   go_wp2_with fail
   go_ret
   exact⟨rfl,HV.out⟩
theorem val_op8 {b:Nat}{o t n f p:Int}{x:yB}{a:Option Addr}{c:Nat}{ks:List Nd}{w:yW}{F:Nat}{r:Except Int Int}
  (cD:∀ v,Calls zG 71 #[zU o] v fun e w'=>e=.returned (fnV F)∧yD v w') (hE:∀ args v,Sem.run Tryz.prog (callFunc F args) v=.ok (.enter F args) v)
  (cF:∀ v,yD w v→Calls zG F #[zP b,.slice a ks.length c] v (OutV v r)) :
  Calls zG 37 #[zP b,.agg (zW 8 o t n f x a ks c p)] w (OutV w r):=by
 have HB:=below_new w (.cells (zW 8 o t n f x a ks c p) 38)
 have HN:=heap_new w (.cells (zW 8 o t n f x a ks c p) 38)
 obtain⟨W,eW⟩:∃ W,w.alloc (.cells (zW 8 o t n f x a ks c p) 38)=W:=⟨_,rfl⟩
 have EW:Hid (w.alloc (.cells (zW 8 o t n f x a ks c p) 38)=W):=eW
 rw [eW] at HB HN
 have q0:W.cell? w§¢0=some (zU 8):=cell_of HN 0
 have q1:W.cell? w§¢1=some (zU o):=cell_of HN 1
 have q6:W.cell? w§¢6=some (.slice a ks.length c):=cell_of HN 6
 have HB:Hid (yD w W):=HB
 have HS:Hid (∀ v,GB W v→v.cell? w§¢1=some (zU o)∧v.cell? w§¢6=some (.slice a ks.length c)∧GB W v):=fun v hv=>⟨cell_on q1 hv,cell_on q6 hv,hv⟩
 have HF:Hid (∀ v,GB W v→Calls zG F #[zP b,.slice a ks.length c] v (OutV v r)):=fun v hv=>cF v (below2T HB.out hv)
 unfold fnV at cD
 clear eW HN cF
 go_enter Tryz.func37,Tryz.ntmps37
 go_upto_region 2 with fail
 rw [EW.out]
 clear EW
 go_upto_region 16 with fail
 cases r with
 | error q =>
  have cF:∀ v,GB W v→Calls zG F #[zP b,.slice a ks.length c] v fun e w'=>e=fltE q∧yD v w':=HF.out
  refine wp_region_held_drew (S:=(fun v=>v.cell? w§¢1=some (zU o)∧v.cell? w§¢6=some (.slice a ks.length c)∧GB W v)) zK (HS.out _ (by (repeat (first | with_reducible assumption | with_reducible exact GB.refl _ | with_reducible apply GB.drew | with_reducible apply GB.alloc | with_reducible refine GB.call (by with_reducible assumption) ?_)))) (fun hHeld=>?_)
  refine wpAnyH_take (i:=0) (v:=?_) rfl zK zK zK (fun _ _ _ h=>h) (Or.inl ⟨by rfl,?_⟩) (by assumption) ?_
  rotate_left
  ·(intro w hSw; (try dsimp only at hSw); go_simp; try (with_reducible rfl))
  try simp [Act.put]
  refine wpAnyH_take (i:=1) (v:=?_) rfl zK zK zK (fun _ _ _ h=>h) (Or.inl ⟨by rfl,?_⟩) (by assumption) ?_
  rotate_left
  ·(intro w hSw; (try dsimp only at hSw); go_simp; try (with_reducible rfl))
  try simp [Act.put]
  refine wpAnyH_take (i:=3) (v:=?_) rfl zK zK zK (fun _ _ _ h=>h) (Or.inl ⟨by rfl,?_⟩) (by assumption) ?_
  rotate_left
  ·(intro w hSw; (try dsimp only at hSw); go_simp; try (with_reducible rfl))
  try simp [Act.put]
  refine wpAnyH_take (i:=4) (v:=?_) rfl zK zK zK (fun _ _ _ h=>h) (Or.inl ⟨by rfl,?_⟩) (by assumption) ?_
  rotate_left
  ·(intro w hSw; (try dsimp only at hSw); go_simp; try (with_reducible rfl))
  try simp [Act.put]
  refine wpAnyH_take (i:=5) (v:=?_) rfl zK zK zK (fun _ _ _ h=>h) (Or.inl ⟨by rfl,?_⟩) (by assumption) ?_
  rotate_left
  ·(intro w hSw; (try dsimp only at hSw); go_simp; try (with_reducible rfl))
  try simp [Act.put]
  refine wpAnyH_ready (rs:=[2]) zK (by simp) ?_
  refine AllReadyH.cons rfl (fun K hK=>?_) AllReadyH.nil
  go_simp
  refine (cD _).mono ?_
  rintro e w2 ⟨rfl,hb2⟩
  have hg2:GB W w2:=GB.call hb2 (by (repeat (first | with_reducible assumption | with_reducible exact GB.refl _ | with_reducible apply GB.drew | with_reducible apply GB.alloc | with_reducible refine GB.call (by with_reducible assumption) ?_)))
  have HG2:Hid (GB W w2):=hg2
  go_simp
  refine hK.out _ _ ?_ (fun hHeld=>?_)
  ·exact HS.out _ hg2
  clear hK K
  try simp [Act.put]
  refine wpAnyH_ready (rs:=[6]) zK (by simp) ?_
  refine AllReadyH.cons rfl (fun K hK=>?_) AllReadyH.nil
  go_simp
  refine (cF _ HG2.out).mono ?_
  rintro e w3 ⟨rfl,hb3⟩
  exact⟨rfl,rfl,below2T HB.out (GB.call hb3 HG2.out)⟩
 | ok z =>
  have cF:∀ v,GB W v→Calls zG F #[zP b,.slice a ks.length c] v fun e w'=>e=.returned (zI z)∧yD v w':=HF.out
  go_region_held3 (fun v=>v.cell? w§¢1=some (zU o)∧v.cell? w§¢6=some (.slice a ks.length c)∧GB W v)
   (exact HS.out _ (by (repeat (first | with_reducible assumption | with_reducible exact GB.refl _ | with_reducible apply GB.drew | with_reducible apply GB.alloc | with_reducible refine GB.call (by with_reducible assumption) ?_))))
   (first
    | (go_at_call 71; refine (cD _).mono ?_; rintro e w6 ⟨rfl,hb6⟩)
    | (refine (cF _ (by (repeat (first | with_reducible assumption | with_reducible exact GB.refl _ | with_reducible apply GB.drew | with_reducible apply GB.alloc | with_reducible refine GB.call (by with_reducible assumption) ?_)))).mono ?_; rintro e w7 ⟨rfl,hb7⟩))
  all_goals
   refine abs_world (P:=fun V=>GB W V) (by (repeat (first | with_reducible assumption | with_reducible exact GB.refl _ | with_reducible apply GB.drew | with_reducible apply GB.alloc | with_reducible refine GB.call (by with_reducible assumption) ?_))) ?_
   intro V hV
   have HV:Hid (yD w V):=below2T HB.out hV
   clear hV
   go_wp2_with fail
   go_ret
   exact⟨rfl,HV.out⟩
theorem fit_cases {h:Hd}{l:Nat}(e:fitB h l=true):(h.k=1∧l=0)∨(h.k=2∧l=0)∨(h.k=3∧l=0∧1≤h.f∧h.f≤6)∨(h.k=4∧l=0∧1≤h.f∧h.f≤3)∨(h.k=5∧l=1∧1≤h.o∧h.o≤2) ∨
  (h.k=6∧l=2∧6≤h.o∧h.o≤18)∨(h.k=7∧l=3)∨(h.k=8∧l=1∧h.o=3)∨(h.k=8∧l=2∧4≤h.o∧h.o≤5)∨(h.k=9∧l=1):=by
 unfold fitB at e
 by_cases h1:h.k=1
 ·rw [if_pos h1] at e; simp at e; exact .inl ⟨h1,e.1⟩
 rw [if_neg h1] at e
 by_cases h2:h.k=2
 ·rw [if_pos h2] at e; simp at e; exact .inr (.inl ⟨h2,e.1⟩)
 rw [if_neg h2] at e
 by_cases h3:h.k=3
 ·rw [if_pos h3] at e; simp at e; exact .inr (.inr (.inl ⟨h3,e⟩))
 rw [if_neg h3] at e
 by_cases h4:h.k=4
 ·rw [if_pos h4] at e; simp at e; exact .inr (.inr (.inr (.inl ⟨h4,e⟩)))
 rw [if_neg h4] at e
 by_cases h5:h.k=5
 ·rw [if_pos h5] at e; simp at e; exact .inr (.inr (.inr (.inr (.inl ⟨h5,e⟩))))
 rw [if_neg h5] at e
 by_cases h6:h.k=6
 ·rw [if_pos h6] at e; simp at e; exact .inr (.inr (.inr (.inr (.inr (.inl ⟨h6,e⟩)))))
 rw [if_neg h6] at e
 by_cases h7:h.k=7
 ·rw [if_pos h7] at e; simp at e; exact .inr (.inr (.inr (.inr (.inr (.inr (.inl ⟨h7,e⟩))))))
 rw [if_neg h7] at e
 by_cases h8:h.k=8
 ·rw [if_pos h8] at e
  simp at e
  rcases e with e | e
  ·exact .inr (.inr (.inr (.inr (.inr (.inr (.inr (.inl ⟨h8,e⟩)))))))
  ·exact .inr (.inr (.inr (.inr (.inr (.inr (.inr (.inr (.inl ⟨h8,e⟩))))))))
 rw [if_neg h8] at e
 by_cases h9:h.k=9
 ·rw [if_pos h9] at e; simp at e; exact .inr (.inr (.inr (.inr (.inr (.inr (.inr (.inr (.inr ⟨h9,e.1⟩))))))))
 rw [if_neg h9] at e
 cases e
theorem enter_deed (o:Nat) (h1:1≤o) (h2:o≤18) (args:Array Value) (v:yW):Sem.run Tryz.prog (callFunc (103+o) args) v=.ok (.enter (103+o) args) v:=by
 have:o=1∨o=2∨o=3∨o=4∨o=5∨o=6∨o=7∨o=8∨o=9∨o=10∨o=11∨o=12∨o=13∨o=14∨o=15∨o=16∨o=17∨o=18:=by omega
 rcases this with rfl | rfl | rfl | rfl | rfl | rfl | rfl | rfl | rfl | rfl | rfl | rfl | rfl | rfl | rfl | rfl | rfl | rfl <;> (show _=_; kernel_rfl)
theorem one_any {o:Nat}(h1:1≤o) (h2:o≤3) {w:yW}{b kb ko l c:Nat}{m0:Nd}{r0 r1:Except Int Int}(h:K1 w b kb ko l m0 r0) :
  Calls zG (103+o) #[zP b,.slice (some kb¢ko) l c] w (OutV w (opR o r0 r1)):=by
 have:o=1∨o=2∨o=3:=by omega
 rcases this with rfl | rfl | rfl
 ·exact neg_op h
 ·exact not_op h
 ·exact abs_op h
theorem two_any {o:Nat}(h1:4≤o) (h2:o≤18) {w:yW}{b kb ko l c:Nat}{m0 m1:Nd}{r0 r1:Except Int Int}(h:K2 w b kb ko l m0 m1 r0 r1) :
  Calls zG (103+o) #[zP b,.slice (some kb¢ko) l c] w (OutV w (opR o r0 r1)):=by
 have:o=4∨o=5∨o=6∨o=7∨o=8∨o=9∨o=10∨o=11∨o=12∨o=13∨o=14∨o=15∨o=16∨o=17∨o=18:=by omega
 rcases this with rfl | rfl | rfl | rfl | rfl | rfl | rfl | rfl | rfl | rfl | rfl | rfl | rfl | rfl | rfl
 ·exact min_op h
 ·exact max_op h
 ·exact add_op h
 ·exact sub_op h
 ·exact mul_op h
 ·exact div_op h
 ·exact mod_op h
 ·exact eq_op h
 ·exact ne_op h
 ·exact lt_op h
 ·exact le_op h
 ·exact gt_op h
 ·exact ge_op h
 ·exact and_op h
 ·exact or_op h
theorem value_any {b:Nat}{s:Sx.Sn}{G:yB→Option Int}(hs:∀ f,I64 (Sx.getN s f)):∀ (m:Nd) (w:yW),Sv w b s G→Lies w m→Res G m →
  Calls zG 37 #[zP b,.agg m.vals] w (OutV w (valR s G m)):=by
 refine Nd.ind fun h a c ks ih w hv hl hr=>?_
 cases hr with | mk _ _ _ _ hf hn hk =>
 have hx:=nameLen hl
 have hG:∀ x v,x.size≤maxLen→G x=some v→I64 v:=fun x v h1 h2=>(hv.rg x v h1 h2).1
 have HK:∀ i (hi:i < ks.length),KC w b ks[i] ((valsR s G ks).getD i (.ok 0)):=fun i hi=>by
  rw [valsR_get,dif_pos hi]
  have hm:ks[i] ∈ ks:=List.getElem_mem hi
  exact⟨val_64 hs hG _ (hl.sub _ hm),fun v k=>ih _ hm v (hv.on k) ((hl.sub _ hm).on k) (hk _ hm)⟩
 have HA:0 < ks.length→∃ kb ko,a=some kb¢ko∧∀ i (hi:i < ks.length),NdAt w kb (ko+i * 8) ks[i]:=fun h0=>by
  obtain⟨kb,ko,e,_⟩:=hl.kid 0 h0
  refine⟨kb,ko,e,fun i hi=>?_⟩
  obtain⟨b',o',e',h'⟩:=hl.kid i hi
  have e2:=e.symm.trans e'
  cases e2
  exact h'
 rw [valR]
 obtain⟨k,o,t,n,f,x,p⟩:=h
 have C:=fit_cases hf
 simp only at C hn
 show Calls zG 37 #[zP b,.agg (zW k o t n f x a ks c p)] w _
 have D:∀ o:Int,1≤o→o≤18→∀ v,Calls zG 71 #[zU o] v fun e w'=>e=.returned (fnV (103+o.toNat))∧yD v w':=fun o h1 h2 v=>by
  have:=deed_any o.toNat (by omega) (by omega) v
  rwa [Int.toNat_of_nonneg (by omega)] at this
 have C1:ks.length=1→1≤o→o≤3→∀ v,yD w v→Calls zG (103+o.toNat) #[zP b,.slice a ks.length c] v (OutV v (opR o ((valsR s G ks).getD 0 (.ok 0)) ((valsR s G ks).getD 1 (.ok 0)))):=fun h1 h2 h3 v hb=>by
  obtain⟨kb,ko,rfl,ha⟩:=HA (by omega)
  have:=one_any (o:=o.toNat) (c:=c) (r1:=(valsR s G ks).getD 1 (.ok 0)) (by omega) (by omega) (w:=v) (b:=b) (kb:=kb) (ko:=ko) (l:=ks.length) ⟨by omega,(ha 0 (by omega)).on hb,(HK 0 (by omega)).on hb⟩
  rwa [Int.toNat_of_nonneg (by omega)] at this
 have C2:ks.length=2→4≤o→o≤18→∀ v,yD w v→Calls zG (103+o.toNat) #[zP b,.slice a ks.length c] v (OutV v (opR o ((valsR s G ks).getD 0 (.ok 0)) ((valsR s G ks).getD 1 (.ok 0)))):=fun h1 h2 h3 v hb=>by
  obtain⟨kb,ko,rfl,ha⟩:=HA (by omega)
  have:=two_any (o:=o.toNat) (c:=c) (by omega) (by omega) (w:=v) (b:=b) (kb:=kb) (ko:=ko) (l:=ks.length) ⟨by omega,(ha 0 (by omega)).on hb,(ha 1 (by omega)).on hb,(HK 0 (by omega)).on hb,(HK 1 (by omega)).on hb⟩
  rwa [Int.toNat_of_nonneg (by omega)] at this
 rcases C with ⟨rfl,h0⟩ | ⟨rfl,h0⟩ | ⟨rfl,h0,f0,f1⟩ | ⟨rfl,h0,f0,f1⟩ | ⟨rfl,h0,f0,f1⟩ | ⟨rfl,h0,f0,f1⟩ | ⟨rfl,h0⟩ | ⟨rfl,h0,rfl⟩ | ⟨rfl,h0,f0,f1⟩ | ⟨rfl,h0⟩
 ·exact val_lit (s:=s) (G:=G)
 ·obtain⟨v,eg⟩:=Option.isSome_iff_exists.1 (hn rfl)
  have:=val_reg (o:=o) (t:=t) (n:=n) (f:=f) (p:=p) (a:=a) (c:=c) (ks:=ks) hv hx eg
  show Calls _ _ _ _ (OutV w (.ok ((G x).getD 0)))
  rw [eg]
  exact this
 ·exact val_fld hv f0 f1
 ·exact val_has hv f0 (by omega)
 ·exact val_op5 (D o (by omega) (by omega)) (enter_deed o.toNat (by omega) (by omega)) (C1 h0 (by omega) (by omega))
 ·exact val_op6 (D o (by omega) (by omega)) (enter_deed o.toNat (by omega) (by omega)) (C2 h0 (by omega) (by omega))
 ·obtain⟨kb,ko,ea,ha⟩:=HA (by omega)
  exact val_cond (s:=s) (G:=G) (R:=fun i=>(valsR s G ks).getD i (.ok 0)) (by omega) ea (fun i hi=>⟨ha i hi,HK i hi⟩)
 ·exact val_op8 (D 3 (by omega) (by omega)) (enter_deed 3 (by omega) (by omega)) (C1 h0 (by omega) (by omega))
 ·exact val_op8 (D o (by omega) (by omega)) (enter_deed o.toNat (by omega) (by omega)) (C2 h0 (by omega) (by omega))
 ·obtain⟨kb,ko,ea,ha⟩:=HA (by omega)
  exact val_conv (s:=s) (G:=G) (R:=fun i=>(valsR s G ks).getD i (.ok 0)) (by omega) ea (fun i hi=>⟨ha i hi,HK i hi⟩)
end Go.Proofs.YtfbjofnaghjmeaaGreatDoor
