import Derived.Test.YtfbjofnaghjmeaaGreatDoorA22
import Derived.Maps.OwnOps
namespace Go.Proofs.YtfbjofnaghjmeaaGreatDoor
open Go.Proofs.Tryz
set_option maxRecDepth 100000
open Go.RowKit
theorem QcA {w:yW}{b:Nat}{s:Sx.Sn}(h:Sx.SnAt w b s) (f:Int) (f0:1≤f) (f1:f≤6):Calls zG 68 #[zP b,zU f] w (OutV w (fldR s f)):=by
 have k:=Sx.get_any s f zY zY w
 unfold Sx.snA at k
 obtain⟨c0,c1,c2,c3,c4,c5⟩:=h
 obtain⟨g,eg⟩:∃ g,Sx.getN s f=g:=jV
 have hE:Hid (fldR s f=if f≤3∧g=0 then .error 170 else .ok g):=by show fldR s f=_;unfold fldR;rw [eg]
 rw [eg] at k
 clear eg
 by_cases hz:g=0
 ·subst hz
  by_cases h3:f≤3
  ·have hE2:Hid (fldR s f=.error 170):=hE.out.trans (if_pos ⟨h3,rfl⟩)
   have hf:f=1∨f=2∨f=3:=by omega
   clear hE
   rcases hf with rfl | rfl | rfl
   all_goals
    go_enter func68,ntmps68
    go_wp2_with fail
    refine k.mono ?_
    rintro e w1 ⟨rfl,hb⟩
    go_wp2_with fail
    exact⟨rfl,(congrArg endV hE2.out).symm,hb⟩
  ·have hE2:Hid (fldR s f=.ok 0):=hE.out.trans (if_neg (fun k=>h3 k.1))
   have hf:f=4∨f=5∨f=6:=by omega
   clear hE
   rcases hf with rfl | rfl | rfl
   all_goals
    go_enter func68,ntmps68
    go_wp2_with fail
    refine k.mono ?_
    rintro e w1 ⟨rfl,hb⟩
    go_wp2
    go_ret
    exact⟨(congrArg endV hE2.out).symm,hb⟩
 ·have hE2:Hid (fldR s f=.ok g):=hE.out.trans (if_neg (fun k=>hz k.2))
  have hz':(g == 0)=false:=by simpa using hz
  have hf:f=1∨f=2∨f=3∨f=4∨f=5∨f=6:=by omega
  clear hE
  rcases hf with rfl | rfl | rfl | rfl | rfl | rfl
  all_goals
   go_enter func68,ntmps68
   go_wp2_with fail
   refine k.mono ?_
   rintro e w1 ⟨rfl,hb⟩
   go_wp2
   go_ret
   exact⟨(congrArg endV hE2.out).symm,hb⟩
def fnV (n:Nat):Value:=.func (.func n) #[] #[]
def tabA:Array Value:=#[.nilFunc,fnV 104,fnV 105,fnV 106,fnV 107,fnV 108,fnV 109,fnV 110,fnV 111,fnV 112,fnV 113,fnV 114,fnV 115,fnV 116,fnV 117,fnV 118,fnV 119,fnV 120,fnV 121]
def parA:Array (Nat × Operand):=#[(1,Operand.func 104),(2,Operand.func 105),(3,Operand.func 106),(4,Operand.func 107),(5,Operand.func 108),(6,Operand.func 109),(7,Operand.func 110),(8,Operand.func 111),(9,Operand.func 112),(10,Operand.func 113),(11,Operand.func 114),(12,Operand.func 115),(13,Operand.func 116),(14,Operand.func 117),(15,Operand.func 118),(16,Operand.func 119),(17,Operand.func 120),(18,Operand.func 121)]
def parV:List (Nat × Value):=[(1,fnV 104),(2,fnV 105),(3,fnV 106),(4,fnV 107),(5,fnV 108),(6,fnV 109),(7,fnV 110),(8,fnV 111),(9,fnV 112),(10,fnV 113),(11,fnV 114),(12,fnV 115),(13,fnV 116),(14,fnV 117),(15,fnV 118),(16,fnV 119),(17,fnV 120),(18,fnV 121)]
theorem FC:Tryz.prog.built 191 parV=some tabA:=by kernel_rfl
theorem P0 (a:Act):(parA.map fun (i,x)=>(i,a.eval x)).toList=parV:=by
 simp [parA,parV,fnV,go_sem]
theorem FH {w:yW}{ops:Array Oper}{rest:List Oper}{o:Oper}{a:Act}{Q:Exit→Act→yW→Prop}(hgd:o.guard=none) (ho:o.op=.build 191 parA)
  (h:wpList zG ops Q rest (a.put o.dst (.agg tabA)) w):wpList zG ops Q (o :: rest) a w:=by
 refine wpList_build hgd 191 parA ho ?_ ?_
 ·rw [P0,FC];rfl
 ·rw [P0,FC];exact h
theorem Qhu (o:Nat) (h1:1≤o) (h2:o≤18):tabA[o]? = some (fnV (103+o)):=by
 have:o=1∨o=2∨o=3∨o=4∨o=5∨o=6∨o=7∨o=8∨o=9∨o=10∨o=11∨o=12∨o=13∨o=14∨o=15∨o=16∨o=17∨o=18:=by omega
 rcases this with rfl | rfl | rfl | rfl | rfl | rfl | rfl | rfl | rfl | rfl | rfl | rfl | rfl | rfl | rfl | rfl | rfl | rfl <;> rfl
def zerA:Array Value:=#[.nilFunc,.nilFunc,.nilFunc,.nilFunc,.nilFunc,.nilFunc,.nilFunc,.nilFunc,.nilFunc,.nilFunc,.nilFunc,.nilFunc,.nilFunc,.nilFunc,.nilFunc,.nilFunc,.nilFunc,.nilFunc,.nilFunc]
theorem QfM:(Tryz.prog.info? 191).map (·.size)=some tabA.size:=by kernel_rfl
theorem all191:tabA.all (·.oneCell')=true:=by kernel_rfl
theorem Qfc (o:Nat) (h1:1≤o) (h2:o≤18) (w:yW):Calls zG 71 #[zU (o:Int)] w fun e w'=>e=.returned (fnV (103+o))∧yD w w':=by
 have hb:Hid (yD w ((zA w zerA 191).setRow w§ tabA)):=Qn (Qb _ _) (Nat.le_refl _) _
 have hZ:Hid ((zA w zerA 191).heap[w§]? = (zC zerA 191)):=Qc _ _
 have hN:Hid (((zA w zerA 191).setRow w§ tabA).heap[w§]? = (zC tabA 191)):=setRow_heap _ _ _ _ _ _ hZ.out
 have hc:Hid (((zA w zerA 191).setRow w§ tabA).cell? w§¢o=some (fnV (103+o))):=by show World.cell? _ _=_;unfold World.cell?;simp only;rw [hN.out];exact Qhu o h1 h2
 have h19:(o:Int) < 19:=by omega
 have h0:(0:Int)≤(o:Int):=by omega
 obtain⟨F,eF⟩:∃ F,fnV (103+o)=F:=jV
 rw [eF] at hc ⊢
 clear hN eF
 go_enter func71,ntmps71
 go_upto_region 2 with (first | (refine FH rfl rfl ?_) | (refine wpList_store_row rfl 191 (.tmp 3) (.tmp 4) rfl w§ tabA rfl rfl 191 zerA hZ.out QfM rfl all191 ?_))
 generalize hWX:World.setRow _ _ _=WX
 have hWY:(zA w zerA 191).setRow w§ tabA=WX:=hWX
 rw [hWY] at hb hc
 clear hWX hWY hZ
 have c:=hc.out
 clear hc
 go_wp2
 go_ret
 exact⟨rfl,hb.out⟩
structure Sv (w:yW) (b:Nat) (s:Sx.Sn) (G:yB→Option Int):Prop where
 sn:Sx.SnAt w b s
 rg:∀ x v,x.size≤maxLen→G x=some v→I64 v∧∃ (rb ro n c mb i nn:Nat) (D:DataW Unit),zQ w b¢6 (.slice (some rb¢ro) n c)∧zQ w b¢7 (.map (some mb)) ∧
  w.ownsMap zG 9 (plainElem zG 3) mb nn D∧D.atKey (.string x.data.toList) (.lit (.int .i64 0))=.lit (.int .i64 i)∧i < n∧zQ w ⟨rb,ro+i,none⟩ (zI v)
theorem QhW {w w':yW}{mb nn:Nat}{D:DataW Unit}(ho:w.ownsMap zG 9 (plainElem zG 3) mb nn D) (k:yD w w'):w'.ownsMap zG 9 (plainElem zG 3) mb nn D:=by
 have hlt:=ho.lt
 obtain⟨es,clock,hb,F,hs,hD⟩:=ho
 exact⟨es,clock,(k.block mb hlt).trans hb,F,hs,hD⟩
theorem QG {w w':yW}{p:Addr}{v:Value}(h:w.cell? p=some v) (k:yD w w'):w'.cell? p=some v:=(k.cell (World.block_lt_of_cell? w _ h)).trans h
theorem Sv.on {w w':yW}{b:Nat}{s:Sx.Sn}{G:yB→Option Int}(h:Sv w b s G) (k:yD w w'):Sv w' b s G:=by
 refine⟨h.sn.on k (World.block_lt_of_cell? w _ h.sn.c0),fun x v hx hv=>?_⟩
 obtain⟨hi,rb,ro,n,c,mb,i,nn,D,h6,h7,ho,hk,hl,hc⟩:=h.rg x v hx hv
 exact⟨hi,rb,ro,n,c,mb,i,nn,D,QG h6 k,QG h7 k,QhW ho k,hk,hl,QG hc k⟩
inductive Res (G:yB→Option Int):Nd→Prop
 | mk (h:Hd) (a:Option Addr) (c:Nat) (ks:List Nd) (hf:fitB h ks.length=true) (hn:h.k=2→(G h.x).isSome=true) (hs:∀ k ∈ ks,Res G k):Res G (.mk h a c ks)
set_option maxHeartbeats 1000000
set_option linter.unusedVariables false
theorem Qgp {x:Int}(h:Fx.fitB x=true):I64 x:=Fx.fitB_iff.1 h
theorem VI (x:Int):Ok64 (wn x):=fun v h=>by
 unfold wn at h
 split at h
 ·cases h;exact Qgp (by assumption)
 ·cases h
theorem FN (b:Bool):Ok64 (.ok (tru b)):=fun v h=>by
 cases h
 unfold tru I64
 split <;> omega
theorem Qh0 {o a:Int}(h:I64 a):Ok64 (op1 o a):=fun v hv=>by
 unfold op1 at hv
 split at hv
 ·exact VI _ v hv
 ·split at hv
  ·cases hv;exact⟨Fx.wrap64_lo _,Fx.wrap64_hi _⟩
  ·split at hv
   ·exact VI _ v hv
   ·cases hv;exact h
theorem XM {c:Prop} [Decidable c] {r r':Except Int Int}(h1:c→Ok64 r) (h2:¬ c→Ok64 r'):Ok64 (if c then r else r'):=by
 split
 ·exact h1 (by assumption)
 ·exact h2 (by assumption)
theorem ok64 {a:Int}(h:I64 a):Ok64 (.ok a):=fun v hv=>by cases hv;exact h
theorem QhZ {o a b:Int}(ha:I64 a) (hb:I64 b):Ok64 (op2 o a b):=by
 unfold op2
 refine XM (fun _=>ok64 (by split <;> assumption)) fun _=>?_
 refine XM (fun _=>ok64 (by split <;> assumption)) fun _=>?_
 refine XM (fun _=>VI _) fun _=>?_
 refine XM (fun _=>VI _) fun _=>?_
 refine XM (fun _=>VI _) fun _=>?_
 refine XM (fun _=>XM (fun _ v h=>by cases h) fun _=>VI _) fun _=>?_
 refine XM (fun _=>XM (fun _ v h=>by cases h) fun h0=>ok64 (by have h1:=Fx.tmod_bound (a:=a) h0;unfold I64 at *;omega)) fun _=>?_
 repeat' first
  | exact FN _
  | refine XM (fun _=>FN _) fun _=>?_
theorem QhY {o:Int}{r0 r1:Except Int Int}(h0:Ok64 r0) (h1:Ok64 r1):Ok64 (opR o r0 r1):=fun v hv=>by
 unfold opR at hv
 split at hv
 ·cases hv
 ·have hz:=h0 _ rfl
  split at hv
  ·exact Qh0 hz v hv
  ·split at hv
   ·cases hv;unfold I64;omega
   ·split at hv
    ·cases hv;unfold I64;omega
    ·split at hv
     ·cases hv
     ·have hy:=h1 _ rfl
      split at hv
      ·cases hv;exact hy
      ·exact QhZ hz hy v hv
theorem cnd_64 {r0 r1 r2:Except Int Int}(h1:Ok64 r1) (h2:Ok64 r2):Ok64 (cndR r0 r1 r2):=fun v hv=>by
 unfold cndR at hv
 split at hv
 ·cases hv
 ·split at hv
  ·exact h1 v hv
  ·exact h2 v hv
theorem fld_64 {s:Sx.Sn}{f:Int}(h:I64 (Sx.getN s f)):Ok64 (fldR s f):=fun v hv=>by
 unfold fldR at hv
 split at hv
 ·cases hv
 ·cases hv;exact h
theorem Qeb:Ok64 (.ok 0):=fun v h=>by cases h;unfold I64;omega
theorem Uv (s:Sx.Sn) (G:yB→Option Int):∀ (ks:List Nd) (i:Nat),(Jq s G ks).getD i (.ok 0)=if h:i < ks.length then valR s G ks[i] else .ok 0
 | [],i=>by simp [Jq]
 | k :: ks,0=>by simp [Jq]
 | k :: ks,i+1=>by
  have h:=Uv s G ks i
  simp only [Jq,List.getD_cons_succ,List.length_cons,h,List.getElem_cons_succ]
  by_cases hi:i < ks.length
  ·rw [dif_pos hi,dif_pos zY]
  ·rw [dif_neg hi,dif_neg zY]
theorem XY {s:Sx.Sn}{G:yB→Option Int}{ks:List Nd}(h:∀ k ∈ ks,Ok64 (valR s G k)) (i:Nat):Ok64 ((Jq s G ks).getD i (.ok 0)):=by
 rw [Uv]
 split
 ·exact h _ (List.getElem_mem _)
 ·exact Qeb
theorem cmb_64 {s:Sx.Sn}{G:yB→Option Int}(hs:∀ f,I64 (Sx.getN s f)) {h:Hd}{ks:List Nd}(hr:Rg h) (hG:h.k=2→∀ v,G h.x=some v→I64 v) (hk:∀ k ∈ ks,Ok64 (valR s G k)):Ok64 (cmb s G h (Jq s G ks)):=fun v hv=>by
 unfold cmb at hv
 split at hv
 ·cases hv;exact⟨hr.n0,hr.n1⟩
 ·split at hv
  ·cases hv
   cases e:G h.x with
   | none=>exact Qeb _ rfl
   | some z=>exact hG (by assumption) z e
  ·split at hv
   ·exact fld_64 (hs _) v hv
   ·split at hv
    ·exact FN _ v hv
    ·split at hv
     ·exact cnd_64 (XY hk 1) (XY hk 2) v hv
     ·split at hv
      ·exact XY hk 0 v hv
      ·exact QhY (XY hk 0) (XY hk 1) v hv
theorem Qbo {w:yW}{m:Nd}(h:Lies w m):m.h.x.size≤maxLen:=by have:=h.rg.x1;unfold maxLen;omega
theorem Qc0 {w:yW}{s:Sx.Sn}{G:yB→Option Int}(hs:∀ f,I64 (Sx.getN s f)) (hG:∀ x v,x.size≤maxLen→G x=some v→I64 v):∀ m,Lies w m→Ok64 (valR s G m):=by
 refine Nd.ind fun h a c ks ih hl=>?_
 rw [valR]
 exact cmb_64 hs hl.rg (fun _ v hv=>hG _ v (Qbo hl) hv) (fun k hk=>ih k hk (hl.sub k hk))
theorem FD {B:Nat}{w w':yW}(h:Below B w w') (n:Nat):Below B w (w'.drewN n):=⟨h.os,h.tape,h.output,h.size,h.block⟩
theorem QgY (w:yW):(zeroValue 3).run zG w=.ok (zI 0) w:=by kernel_rfl
theorem Qfy {b:Nat}{s:Sx.Sn}{G:yB→Option Int}{o t n f p:Int}{x:yB}{a:Option Addr}{c:Nat}{ks:List Nd}{w:yW}  :
  Calls zG 37 #[zP b,.agg (zW 1 o t n f x a ks c p)] w (OutV w (.ok n)):=by
 go_enter func37,ntmps37
 go_wp2
 go_ret
 exact⟨rfl,Qb _ _⟩
theorem Qfv {b:Nat}{s:Sx.Sn}{G:yB→Option Int}{o t n f p:Int}{x:yB}{a:Option Addr}{c:Nat}{ks:List Nd}{w:yW}(hv:Sv w b s G) (hx:x.size≤maxLen) {v:Int}(hg:G x=some v) :
  Calls zG 37 #[zP b,.agg (zW 2 o t n f x a ks c p)] w (OutV w (.ok v)):=by
 obtain⟨hi,rb,ro,n',c',mb,i,nn,D,h6,h7,ho,hk,hlt,hc⟩:=(hv.on (Qb w (.cells (zW 2 o t n f x a ks c p) 38))).rg x v hx hg
 have hkey:=WideMaps.keyOf_string_mk (P:=zG) underlying9 hx
 have HB:=Qb w (.cells (zW 2 o t n f x a ks c p) 38)
 have HN:=Qc w (.cells (zW 2 o t n f x a ks c p) 38)
 obtain⟨W,eW⟩:∃ W,w.alloc (.cells (zW 2 o t n f x a ks c p) 38)=W:=jV
 have EW:=zH eW
 rw [eW] at h6 h7 ho hc HB HN
 have q0:zQ W w§¢0 (zU 2):=Qa HN 0
 have q5:zQ W w§¢5 (.string x):=Qa HN 5
 have hlt':(i:Int) < (n':Int):=by omega
 have hi0:(0:Int)≤(i:Int):=by omega
 clear eW hv HN
 go_enter func37,ntmps37
 go_upto_region 2 with fail
 rw [EW.out]
 clear EW
 have hrun:∀ n,Sem.run zG (Instr.lookup 89 (.map (some mb)) (.string x) false) (W.drewN n)=.ok (zI (i:Int)) (W.drewN n):=fun n=>by
  obtain⟨cc,h1,h2,_⟩:=World.ownsMap.lookup_int (w:=W.drewN n) (show (W.drewN n).ownsMap zG 9 (plainElem zG 3) mb nn D from ho) law9 underlying89 underlying3 (QgY _) hkey
  have e:=h2.symm.trans hk
  cases e
  exact h1
 go_upto_region 5 with fail
 go_quiet (fail)
 go_wp2
 go_ret
 exact⟨rfl,FD HB nq⟩
theorem QfA {b:Nat}{s:Sx.Sn}{G:yB→Option Int}{o t n f p:Int}{x:yB}{a:Option Addr}{c:Nat}{ks:List Nd}{w:yW}(hv:Sv w b s G) (f0:1≤f) (f1:f≤6) :
  Calls zG 37 #[zP b,.agg (zW 3 o t n f x a ks c p)] w (OutV w (fldR s f)):=by
 have HB:=Qb w (.cells (zW 3 o t n f x a ks c p) 38)
 have k:=QcA (hv.on HB).sn f f0 f1
 have HB:=zH HB
 obtain⟨r,er⟩:∃ r,fldR s f=r:=jV
 rw [er] at k ⊢
 clear er hv
 cases r with
 | error q =>
  go_enter func37,ntmps37
  go_wp2_with fail
  refine k.mono ?_
  rintro e w1 ⟨rfl,hb⟩
  exact⟨rfl,rfl,Qm HB.out hb⟩
 | ok v =>
  go_enter func37,ntmps37
  go_wp2_with fail
  refine k.mono ?_
  rintro e w1 ⟨rfl,hb⟩
  have HB1:=zH (Qm HB.out hb)
  clear k hb
  unfold endV
  go_wp2
  go_ret
  exact⟨rfl,HB1.out⟩
theorem Qfz {b:Nat}{s:Sx.Sn}{G:yB→Option Int}{o t n f p:Int}{x:yB}{a:Option Addr}{c:Nat}{ks:List Nd}{w:yW}(hv:Sv w b s G) (f0:1≤f) (f1:f≤6) :
  Calls zG 37 #[zP b,.agg (zW 4 o t n f x a ks c p)] w (OutV w (.ok (tru (decide (Sx.getN s f≠0))))):=by
 have HB:=Qb w (.cells (zW 4 o t n f x a ks c p) 38)
 have k:=Sx.get_any s f zY zY
 obtain⟨c0,c1,c2,c3,c4,c5⟩:=(hv.on HB).sn
 have HN:=Qc w (.cells (zW 4 o t n f x a ks c p) 38)
 obtain⟨W,eW⟩:∃ W,w.alloc (.cells (zW 4 o t n f x a ks c p) 38)=W:=jV
 have EW:=zH eW
 rw [eW] at HB HN c0 c1 c2 c3 c4 c5
 have q0:zQ W w§¢0 (zU 4):=Qa HN 0
 have q4:zQ W w§¢4 (zU f):=Qa HN 4
 have HB:=zH HB
 unfold Sx.snA at k
 obtain⟨g,eg⟩:∃ g,Sx.getN s f=g:=jV
 rw [eg] at k ⊢
 clear eg hv eW HN
 go_enter func37,ntmps37
 go_upto_region 2 with fail
 rw [EW.out]
 clear EW
 go_upto_region 9 with fail
 have k:∀ v,Calls zG 70 #[.agg #[zI s.bid,zI s.ask,zI s.last,zI s.vol,zI s.now,zI s.opn],zU f] v fun e w'=>e=.returned (zI g)∧yD v w':=k
 have HS:Hid (∀ v,GB W v→zQ v b¢0 (zI s.bid)∧zQ v b¢1 (zI s.ask)∧zQ v b¢2 (zI s.last)∧zQ v b¢3 (zI s.vol)∧zQ v b¢4 (zI s.now)∧zQ v b¢5 (zI s.opn)∧zQ v w§¢4 (zU f)∧GB W v) :=
  fun v hv=>⟨QG c0 hv,QG c1 hv,QG c2 hv,QG c3 hv,QG c4 hv,QG c5 hv,QG q4 hv,hv⟩
 clear c0 c1 c2 c3 c4 c5 q4 q0
 go_region_held3 (fun v=>zQ v b¢0 (zI s.bid)∧zQ v b¢1 (zI s.ask)∧zQ v b¢2 (zI s.last)∧zQ v b¢3 (zI s.vol)∧zQ v b¢4 (zI s.now)∧zQ v b¢5 (zI s.opn)∧zQ v w§¢4 (zU f)∧GB W v)
  (exact HS.out _ (by (repeat (first | with_reducible assumption | with_reducible exact GB.refl _ | with_reducible apply GB.drew | with_reducible apply GB.alloc | with_reducible refine GB.call (by with_reducible assumption) ?_))))
  (first
   | (go_at_call 70;refine (k _).mono ?_;rintro e w6 ⟨rfl,hb6⟩)
   | (go_at_call 69;refine (JS _ _).mono ?_;rintro e w7 ⟨rfl,e7⟩;obtain rfl:=e7.symm))
 all_goals
  refine J9 (P:=fun V=>GB W V) (by (repeat (first | with_reducible assumption | with_reducible exact GB.refl _ | with_reducible apply GB.drew | with_reducible apply GB.alloc | with_reducible refine GB.call (by with_reducible assumption) ?_))) ?_
  intro V hV
  have HV:=zH (Qm HB.out hV)
  clear hV
  go_wp2
  go_ret
  exact⟨congrArg (fun b=>endV (.ok (tru b))) (show _=decide (g≠0) by by_cases hg:g=0 <;> simp [hg]),HV.out⟩
theorem QcY {b:Nat}{s:Sx.Sn}{G:yB→Option Int}{o t n f p:Int}{x:yB}{a:Option Addr}{c:Nat}{ks:List Nd}{w:yW}{R:Nat→Except Int Int}(hl:1≤ks.length) {kb ko:Nat}(ea:a=some kb¢ko) (hk:∀ i (hi:i < ks.length),NdAt w kb (ko+i * 8) ks[i]∧KC w b ks[i] (R i)) :
  Calls zG 37 #[zP b,.agg (zW 9 o t n f x a ks c p)] w (OutV w (R 0)):=by
 subst ea
 have HB:=Qb w (.cells #[zU 9,zU o,zU t,zI n,zU f,.string x,.slice (some kb¢ko) ks.length c,zI p] 38)
 have HN:=Qc w (.cells #[zU 9,zU o,zU t,zI n,zU f,.string x,.slice (some kb¢ko) ks.length c,zI p] 38)
 have hsz:=Qe w (.cells #[zU 9,zU o,zU t,zI n,zU f,.string x,.slice (some kb¢ko) ks.length c,zI p] 38)
 obtain⟨W,eW⟩:∃ W,w.alloc (.cells #[zU 9,zU o,zU t,zI n,zU f,.string x,.slice (some kb¢ko) ks.length c,zI p] 38)=W:=jV
 rw [eW] at HB HN hsz
 have EW:=zH eW
 have HN:Hid (W.heap[w§]? = (zC #[zU 9,zU o,zU t,zI n,zU f,.string x,.slice (some kb¢ko) ks.length c,zI p] 38)∧w§ < W§):=⟨HN,by omega⟩
 have HB:=zH HB
 have HK:=zH hk
 have k0:=(hk 0 zY).2
 have q:=(hk 0 zY).1.on HB.out
 simp only [Nat.zero_mul,Nat.add_zero] at q
 obtain⟨y0,y1,y2,y3,y4,y5,y6,y7⟩:=q
 have h0l:(0:Int) < (ks.length:Int):=by omega
 have hl:1≤ks.length:=hl
 clear eW hsz hk
 obtain⟨r,er⟩:∃ r,R 0=r:=jV
 rw [er] at k0 ⊢
 obtain⟨m,em⟩:∃ m,ks[0]=m:=jV
 rw [em] at k0 y0 y1 y2 y3 y4 y5 y6 y7
 have q0:zQ W w§¢0 (zU 9):=Qa HN.out.1 0
 have q1:zQ W w§¢1 (zU o):=Qa HN.out.1 1
 have q6:zQ W w§¢6 (.slice (some kb¢ko) ks.length c):=Qa HN.out.1 6
 clear er em HK
 cases r with
 | error e0 =>
  have k:=k0.err W HB.out
  clear k0
  go_enter func37,ntmps37
  go_upto_region 2 with fail
  rw [EW.out]
  go_wp2_with fail
  refine k.mono ?_
  rintro e w1 ⟨rfl,hb⟩
  exact⟨rfl,rfl,Qm HB.out hb⟩
 | ok v =>
  have k:=k0.ok W HB.out
  clear k0
  go_enter func37,ntmps37
  go_upto_region 2 with fail
  rw [EW.out]
  go_wp2_with fail
  refine k.mono ?_
  rintro e w1 ⟨rfl,hb⟩
  have HB1:=zH (Qm HB.out hb)
  clear k hb
  go_wp2
  go_ret
  exact⟨rfl,HB1.out⟩
theorem QcZ {b:Nat}{s:Sx.Sn}{G:yB→Option Int}{o t n f p:Int}{x:yB}{a:Option Addr}{c:Nat}{ks:List Nd}{w:yW}{R:Nat→Except Int Int}(hl:3≤ks.length) {kb ko:Nat}(ea:a=some kb¢ko) (hk:∀ i (hi:i < ks.length),NdAt w kb (ko+i * 8) ks[i]∧KC w b ks[i] (R i)) :
  Calls zG 37 #[zP b,.agg (zW 7 o t n f x a ks c p)] w (OutV w (cndR (R 0) (R 1) (R 2))):=by
 subst ea
 have HB:=Qb w (.cells #[zU 7,zU o,zU t,zI n,zU f,.string x,.slice (some kb¢ko) ks.length c,zI p] 38)
 have HN:=Qc w (.cells #[zU 7,zU o,zU t,zI n,zU f,.string x,.slice (some kb¢ko) ks.length c,zI p] 38)
 have hsz:=Qe w (.cells #[zU 7,zU o,zU t,zI n,zU f,.string x,.slice (some kb¢ko) ks.length c,zI p] 38)
 obtain⟨W,eW⟩:∃ W,w.alloc (.cells #[zU 7,zU o,zU t,zI n,zU f,.string x,.slice (some kb¢ko) ks.length c,zI p] 38)=W:=jV
 rw [eW] at HB HN hsz
 have EW:Hid (w.alloc (.cells #[zU 7,zU o,zU t,zI n,zU f,.string x,.slice (some kb¢ko) ks.length c,zI p] 38)=W):=eW
 have HN:Hid (W.heap[w§]? = (zC #[zU 7,zU o,zU t,zI n,zU f,.string x,.slice (some kb¢ko) ks.length c,zI p] 38)∧w§ < W§):=⟨HN,by omega⟩
 have HB:Hid (yD w W):=HB
 have HK:Hid (∀ i (hi:i < ks.length),NdAt w kb (ko+i * 8) ks[i]∧KC w b ks[i] (R i)):=hk
 have k0:=(hk 0 zY).2
 have q:=(hk 0 zY).1.on HB.out
 simp only [Nat.zero_mul,Nat.add_zero] at q
 obtain⟨y0,y1,y2,y3,y4,y5,y6,y7⟩:=q
 have h0l:(0:Int) < (ks.length:Int):=by omega
 have hl:3≤ks.length:=hl
 clear eW hsz hk
 obtain⟨r,er⟩:∃ r,R 0=r:=jV
 rw [er] at k0 ⊢
 obtain⟨m,em⟩:∃ m,ks[0]=m:=jV
 rw [em] at k0 y0 y1 y2 y3 y4 y5 y6 y7
 have q0:zQ W w§¢0 (zU 7):=Qa HN.out.1 0
 have q1:zQ W w§¢1 (zU o):=Qa HN.out.1 1
 have q6:zQ W w§¢6 (.slice (some kb¢ko) ks.length c):=Qa HN.out.1 6
 clear er em
 cases r with
 | error e0 =>
  have k:=k0.err W HB.out
  clear k0
  go_enter func37,ntmps37
  go_upto_region 2 with fail
  rw [EW.out]
  go_wp2_with fail
  refine k.mono ?_
  rintro e w1 ⟨rfl,hb⟩
  exact⟨rfl,rfl,Qm HB.out hb⟩
 | ok v =>
  have k:=k0.ok W HB.out
  clear k0
  by_cases h1:v=1
  ·subst h1
   go_enter func37,ntmps37
   go_upto_region 2 with fail
   rw [EW.out]
   clear EW
   go_wp2_with fail
   refine k.mono ?_
   rintro e w1 ⟨rfl,hb⟩
   have kj:=(HK.out 1 zY).2
   have q:=(HK.out 1 zY).1.on (Qm HB.out hb)
   have hN1:=(hb.block w§ HN.out.2).trans HN.out.1
   have HB1:Hid (yD w w1):=Qm HB.out hb
   have hjl:(1:Int) < (ks.length:Int):=by omega
   clear y0 y1 y2 y3 y4 y5 y6 y7 q0 q1 q6 k hb
   have q0:zQ w1 w§¢0 (zU 7):=Qa hN1 0
   have q1:zQ w1 w§¢1 (zU o):=Qa hN1 1
   have q6:zQ w1 w§¢6 (.slice (some kb¢ko) ks.length c):=Qa hN1 6
   obtain⟨r,er⟩:∃ r,R 1=r:=jV
   rw [er] at kj
   have hE:Hid (cndR (.ok 1) (R 1) (R 2)=r):=show _=_ from er
   obtain⟨m2,em2⟩:∃ m,ks[1]=m:=jV
   rw [em2] at kj q
   simp only [show 1 * 8=8 from rfl] at q
   obtain⟨y0,y1,y2,y3,y4,y5,y6,y7⟩:=q
   clear er em2 HK hN1
   cases r with
   | error e0 =>
    have k:=kj.err w1 HB1.out
    go_wp2_with fail
    refine k.mono ?_
    rintro e w2 ⟨rfl,hb⟩
    exact⟨rfl,(congrArg endV hE.out).symm,Qm HB1.out hb⟩
   | ok v =>
    have k:=kj.ok w1 HB1.out
    go_wp2_with fail
    refine k.mono ?_
    rintro e w2 ⟨rfl,hb⟩
    have HB2:Hid (yD w w2):=Qm HB1.out hb
    clear k hb
    go_wp2
    go_ret
    exact⟨(congrArg endV hE.out).symm,HB2.out⟩
  ·have h1':(v == 1)=false:=by simpa using h1
   go_enter func37,ntmps37
   go_upto_region 2 with fail
   rw [EW.out]
   clear EW
   go_wp2_with fail
   refine k.mono ?_
   rintro e w1 ⟨rfl,hb⟩
   have kj:=(HK.out 2 zY).2
   have q:=(HK.out 2 zY).1.on (Qm HB.out hb)
   have hN1:=(hb.block w§ HN.out.2).trans HN.out.1
   have HB1:Hid (yD w w1):=Qm HB.out hb
   have hjl:(2:Int) < (ks.length:Int):=by omega
   clear y0 y1 y2 y3 y4 y5 y6 y7 q0 q1 q6 k hb
   have q0:zQ w1 w§¢0 (zU 7):=Qa hN1 0
   have q1:zQ w1 w§¢1 (zU o):=Qa hN1 1
   have q6:zQ w1 w§¢6 (.slice (some kb¢ko) ks.length c):=Qa hN1 6
   obtain⟨r,er⟩:∃ r,R 2=r:=jV
   rw [er] at kj
   have hE : Hid (cndR (.ok v) (R 1) (R 2) = r) := (if_neg h1).trans er
   obtain⟨m2,em2⟩:∃ m,ks[2]=m:=jV
   rw [em2] at kj q
   simp only [show 2 * 8=16 from rfl] at q
   obtain⟨y0,y1,y2,y3,y4,y5,y6,y7⟩:=q
   clear er em2 HK hN1
   cases r with
   | error e0 =>
    have k:=kj.err w1 HB1.out
    go_wp2_with fail
    refine k.mono ?_
    rintro e w2 ⟨rfl,hb⟩
    exact⟨rfl,(congrArg endV hE.out).symm,Qm HB1.out hb⟩
   | ok v =>
    have k:=kj.ok w1 HB1.out
    go_wp2_with fail
    refine k.mono ?_
    rintro e w2 ⟨rfl,hb⟩
    have HB2:Hid (yD w w2):=Qm HB1.out hb
    clear k hb
    go_wp2
    go_ret
    exact⟨(congrArg endV hE.out).symm,HB2.out⟩
end Go.Proofs.YtfbjofnaghjmeaaGreatDoor
