import Derived.Test.YtfbjofnaghjmeaaGreatDoorA0
import Derived.Test.YtfbjofnaghjmeaaGreatDoorA25
import Derived.WalkKit
import Derived.Laws.Bits64b
import Derived.Laws.BitsLemmas
import Derived.Laws.Closers25b
import Derived.Test.YtfbjofnaghjmeaaGreatDoorProg
import Derived.ProofKit
import Derived.Outline
namespace Go.Proofs.YtfbjofnaghjmeaaGreatDoor
set_option maxHeartbeats 16000000
set_option maxRecDepth 100000
open Go.RowKit
theorem fit_len {h:Hd}{l:Nat}(e:fitB h l=true):l≤3:=by
 unfold fitB at e
 repeat' split at e
 all_goals (simp at e; try omega)
theorem fit_fld {h:Hd}{l:Nat}(e:fitB h l=true) (hk:h.k=3):0≤h.f∧h.f < 7:=by
 unfold fitB at e
 simp [hk] at e
 omega
theorem formsB_mem:∀ (l:List Nd),formsB l=true→∀ k ∈ l,formB k=true:=by
 intro l
 induction l with
 | nil=>intro _ k hk; cases hk
 | cons x l ih =>
  intro h k hk
  simp only [formsB,Bool.and_eq_true] at h
  rcases List.mem_cons.1 hk with e | e
  ·rw [e]; exact h.1
  ·exact ih h.2 k e
theorem okT_form:∀ (m:Nd),formB m=true→OkT m:=by
 refine Nd.ind fun h a c ks ih hf=>?_
 simp only [formB,oneH,Bool.and_eq_true] at hf
 exact .mk h a c ks (fit_len hf.1.2) (fit_fld hf.1.2) (fun k hk=>ih k hk (formsB_mem ks hf.2 k hk))
theorem okT_cE {m:Nd}(h:cE m=0):OkT m:=by
 apply okT_form
 unfold cE at h
 cases e:formB m with
 | true=>rfl
 | false=>rw [e] at h; simp at h
open Go.Maps
set_option linter.unusedVariables false
set_option linter.unusedSimpArgs false
def ruE (L:yB→Option Int) (S2 S3:List yB) (r:RuleM):Option (Int × Int):=match pcE L (r.m,5) with
 | some e=>some e
 | none=>dosE L S2 S3 false r.ds
theorem pts_mem {L:yB→Option Int}{d:DoM}{q:Nd × Int}(h:q ∈ ptsL L d):(q.1=d.sd∧ndS d=true)∨(q.1=d.qt∧ndQ d=true)∨(q.1=d.pr∧ndP d=true)∨(q.1=d.vl∧ndV d=true):=by
 unfold ptsL at h
 by_cases h1:d.k=1
 ·have e1:(d.k == 1)=true:=by simpa using h1
  rw [e1,if_pos rfl] at h
  by_cases h2:d.o=2
  ·have e2:(d.o == 2)=true:=by simpa using h2
   rw [e2,if_pos rfl] at h
   simp only [List.mem_cons,List.not_mem_nil,or_false] at h
   rcases h with rfl | rfl
   ·exact .inl ⟨rfl,by simp [ndS,h1]⟩
   ·exact .inr (.inl ⟨rfl,by simp [ndQ,h1]⟩)
  ·have e2:(d.o == 2)=false:=by simpa using h2
   rw [e2,if_neg (by decide)] at h
   simp only [List.mem_cons,List.not_mem_nil,or_false] at h
   rcases h with rfl | rfl | rfl
   ·exact .inl ⟨rfl,by simp [ndS,h1]⟩
   ·exact .inr (.inl ⟨rfl,by simp [ndQ,h1]⟩)
   ·exact .inr (.inr (.inl ⟨rfl,by simp [ndP,h1,h2]⟩))
 ·have e1:(d.k == 1)=false:=by simpa using h1
  rw [e1,if_neg (by decide)] at h
  by_cases h2:d.k=2
  ·have e2:(d.k == 2)=true:=by simpa using h2
   rw [e2,if_pos rfl] at h
   simp only [List.mem_cons,List.not_mem_nil,or_false] at h
   rcases h with rfl | rfl
   ·exact .inr (.inl ⟨rfl,by simp [ndQ,h2]⟩)
   ·exact .inr (.inr (.inl ⟨rfl,by simp [ndP,h2]⟩))
  ·have e2:(d.k == 2)=false:=by simpa using h2
   rw [e2,if_neg (by decide)] at h
   by_cases h4:d.k=4
   ·have e4:(d.k == 4)=true:=by simpa using h4
    rw [e4,if_pos rfl] at h
    simp only [List.mem_cons,List.not_mem_nil,or_false] at h
    subst h
    exact .inr (.inr (.inr ⟨rfl,by simp [ndV,h4]⟩))
   ·have e4:(d.k == 4)=false:=by simpa using h4
    rw [e4,if_neg (by decide)] at h
    cases h
theorem pts_lies {L:yB→Option Int}{d:DoM}{w:yW}(h:DoL w d):∀ q ∈ ptsL L d,Lies w q.1:=fun q hq=>by
 rcases pts_mem hq with ⟨e,_⟩ | ⟨e,_⟩ | ⟨e,_⟩ | ⟨e,_⟩ <;> rw [e]
 ·exact h.1
 ·exact h.2.1
 ·exact h.2.2.1
 ·exact h.2.2.2.1
theorem fs_0 {a b:Int}(h:fs a b=0):a=0∧b=0:=by
 unfold fs at h
 split at h
 ·exact⟨by assumption,h⟩
 ·exact absurd h (by assumption)
theorem fsL_0:∀ (l:List Int),fsL l=0→∀ x ∈ l,x=0
 | [],_=>fun x hx=>by cases hx
 | y :: l,h=>fun x hx=>by
  have h':fs y (fsL l)=0:=h
  rcases List.mem_cons.1 hx with e | e
  ·rw [e]; exact (fs_0 h').1
  ·exact fsL_0 l (fs_0 h').2 x e
theorem part_ok {m:Nd}{is:Bool}(h:partE m is=0) (hi:is=true):OkT m:=by
 unfold partE at h
 rw [if_pos hi] at h
 exact okT_cE h
theorem do_ok {L:yB→Option Int}{d:DoM}(h:doE d=0):∀ q ∈ ptsL L d,OkT q.1:=fun q hq=>by
 unfold doE at h
 have h3:=(fs_0 (fs_0 (fs_0 h).2).2).2
 have a1:=fs_0 h3
 have a2:=fs_0 a1.2
 have a3:=fs_0 a2.2
 rcases pts_mem hq with ⟨e,i⟩ | ⟨e,i⟩ | ⟨e,i⟩ | ⟨e,i⟩ <;> rw [e]
 ·exact part_ok a1.1 i
 ·exact part_ok a2.1 i
 ·exact part_ok a3.1 i
 ·exact part_ok a3.2 i
def RuOk (L:yB→Option Int) (r:RuleM):Prop:=OkT r.m∧∀ d ∈ r.ds,∀ q ∈ ptsL L d,OkT q.1
theorem rule_ok {r:RuleM}(h:ruleE r=0) (L:yB→Option Int):RuOk L r:=by
 unfold ruleE at h
 have h1:=fs_0 h
 have h2:=fs_0 h1.2
 exact⟨okT_cE h1.1,fun d hd=>do_ok (fsL_0 _ h2.2 _ (List.mem_map.2 ⟨d,hd,rfl⟩))⟩
theorem state_ok {x:StateM}(h:stateE x=0) (L:yB→Option Int):∀ r ∈ x.rs,RuOk L r:=fun r hr=>by
 unfold stateE at h
 exact rule_ok (fsL_0 _ (fs_0 (fs_0 h).2).2 _ (List.mem_map.2 ⟨r,hr,rfl⟩)) L
theorem fE_ok {m:Nd}(h:fE m=0):OkT m:=by
 apply okT_form
 unfold fE at h
 cases e:formB m with
 | true=>rfl
 | false=>rw [e] at h; simp at h
theorem reg_ok {r:RegM}(h:regE r=0):OkT r.m:=by
 unfold regE initE at h
 exact fE_ok (fs_0 (fs_0 (fs_0 h).2).2).1
theorem strat_ok {S:StratM}(h:stratE S=0) (L:yB→Option Int):(∀ d ∈ S.rs,OkT d.m)∧∀ x ∈ S.ts,∀ r ∈ x.rs,RuOk L r:=by
 unfold stratE at h
 have h1:=fs_0 (fs_0 (fs_0 h).2).2
 have h2:=(fs_0 (fs_0 (fs_0 h1.2).2).2).2
 exact⟨fun d hd=>reg_ok (fsL_0 _ h1.1 _ (List.mem_map.2 ⟨d,hd,rfl⟩)),fun x hx=>state_ok (fsL_0 _ h2 _ (List.mem_map.2 ⟨x,hx,rfl⟩)) L⟩
theorem checkRule_any (b b2 b3:Nat) (L:yB→Option Int) (S2 S3:List yB) (r:RuleM) (w:yW) (hk:Kn w b b2 b3 L S2 S3) (hf:FTab w) (hg:Ety w) (hl:RuleL w r) (ho:RuOk L r) :
  Calls zG 91 #[.agg #[.map (some b),.map (some b2),.map (some b3)],.agg r.vals] w (OutC w (ruE L S2 S3 r)):=by
 have hb1:=below_new w (.cells #[.map (some b),.map (some b2),.map (some b3)] 172)
 have hn1:=heap_new w (.cells #[.map (some b),.map (some b2),.map (some b3)] 172)
 have hs1:=size_alloc w (.cells #[.map (some b),.map (some b2),.map (some b3)] 172)
 obtain⟨W1,e1⟩:∃ W,w.alloc (.cells #[.map (some b),.map (some b2),.map (some b3)] 172)=W:=⟨_,rfl⟩
 have E1:Hid (w.alloc (.cells #[.map (some b),.map (some b2),.map (some b3)] 172)=W1):=e1
 rw [e1] at hb1 hn1 hs1
 have hb2:=below_new W1 (.cells r.vals 100)
 have hn2:=heap_new W1 (.cells r.vals 100)
 have hk2:=(hb2.block _ (zJ hn1).1).trans hn1
 have hbw:=below2 hb1 hb2
 rw [hs1] at hn2
 have HS1:Hid (W1§=w§+1):=hs1
 obtain⟨W2,e2⟩:∃ W,W1.alloc (.cells r.vals 100)=W:=⟨_,rfl⟩
 have E2:Hid (W1.alloc (.cells r.vals 100)=W2):=e2
 rw [e2] at hn2 hk2 hbw
 have HB:Hid (yD w W2):=hbw
 have HN:Hid (W2.heap[w§+1]? = (zC r.vals 100)∧W2.heap[w§]? = (zC #[.map (some b),.map (some b2),.map (some b3)] 172)):=⟨hn2,hk2⟩
 have k0:W2.cell? w§¢0=some (.map (some b)):=cell_of hk2 0
 have k1:W2.cell? w§¢1=some (.map (some b2)):=cell_of hk2 1
 have k2:W2.cell? w§¢2=some (.map (some b3)):=cell_of hk2 2
 have c0:W2.cell? ⟨w§+1,0,none⟩=some (zU r.m.h.k):=cell_of hn2 0
 have c1:W2.cell? ⟨w§+1,1,none⟩=some (zU r.m.h.o):=cell_of hn2 1
 have c2:W2.cell? ⟨w§+1,2,none⟩=some (zU r.m.h.t):=cell_of hn2 2
 have c3:W2.cell? ⟨w§+1,3,none⟩=some (zI r.m.h.n):=cell_of hn2 3
 have c4:W2.cell? ⟨w§+1,4,none⟩=some (zU r.m.h.f):=cell_of hn2 4
 have c5:W2.cell? ⟨w§+1,5,none⟩=some (.string r.m.h.x):=cell_of hn2 5
 have c6:W2.cell? ⟨w§+1,6,none⟩=some (.slice r.m.a r.m.ks.length r.m.c):=cell_of hn2 6
 have c7:W2.cell? ⟨w§+1,7,none⟩=some (zI r.m.h.p):=cell_of hn2 7
 have cP:Calls zG 148 #[.agg #[.map (some b),.map (some b2),.map (some b3)],.agg #[zU r.m.h.k,zU r.m.h.o,zU r.m.h.t,zI r.m.h.n,zU r.m.h.f,.string r.m.h.x,.slice r.m.a r.m.ks.length r.m.c,zI r.m.h.p,zU 5]] W2 (OutC W2 (pcE L (r.m,5))):=checkPart_any b b2 b3 L (r.m,5) W2 (hk.on hbw).r (hf.on hbw) (hl.1.on hbw) ho.1 (hg.on hbw)
 have HH:Hid (Kn w b b2 b3 L S2 S3∧FTab w∧Ety w∧RuleL w r∧RuOk L r):=⟨hk,hf,hg,hl,ho⟩
 clear hb1 hn1 hs1 hb2 hk2 hn2 hbw hk e1 e2 hf hl ho hg
 go_enter Tryz.func91,Tryz.ntmps91
 go_upto_region 1 with fail
 rw [E1.out,E2.out]
 try rw [HS1.out]
 clear E1 E2 HS1
 go_wp2_with fail
 refine cP.mono ?_
 rintro e w3 (⟨h1,rfl,hb3⟩ | ⟨p,no,T,v,h1,rfl,her,hb3⟩)
 ·have HB3:Hid (yD w w3):=below2 HB.out hb3
  have g1:=(hb3.block _ (zJ HN.out.1).1).trans HN.out.1
  have g2:=(hb3.block _ (zJ HN.out.2).1).trans HN.out.2
  have m0:w3.cell? w§¢0=some (.map (some b)):=cell_of g2 0
  have m1:w3.cell? w§¢1=some (.map (some b2)):=cell_of g2 1
  have m2:w3.cell? w§¢2=some (.map (some b3)):=cell_of g2 2
  have a8:w3.cell? ⟨w§+1,8,none⟩=some (.slice r.a r.ds.length r.c):=cell_of g1 8
  have cD:Calls zG 149 #[.agg #[.map (some b),.map (some b2),.map (some b3)],.slice r.a r.ds.length r.c] w3 (OutC w3 (dosE L S2 S3 false r.ds)):=checkDos_any b b2 b3 L S2 S3 r.a r.c r.ds w3 (HH.out.1.on HB3.out) (HH.out.2.1.on HB3.out) (HH.out.2.2.1.on HB3.out) (HH.out.2.2.2.1.on HB3.out).2.1 (fun d hd=>⟨(HH.out.2.2.2.1.on HB3.out).2.2.1 d hd,fun q hq=>⟨pts_lies ((HH.out.2.2.2.1.on HB3.out).2.2.1 d hd) q hq,HH.out.2.2.2.2.2 d hd q hq⟩⟩)
  have HR:Hid (ruE L S2 S3 r=dosE L S2 S3 false r.ds):=by show _=_; unfold ruE; rw [h1]
  clear g1 g2 h1 hb3 cP k0 k1 k2 c0 c1 c2 c3 c4 c5 c6 c7
  go_wp2_with fail
  refine cD.mono ?_
  rintro e w4 (⟨h1,rfl,hb4⟩ | ⟨p,no,T,v,h1,rfl,her,hb4⟩)
  ·have HB4:Hid (yD w w4):=below2 HB3.out hb4
   have HR2:Hid (ruE L S2 S3 r=none):=HR.out.trans h1
   clear h1 hb4 cD
   go_wp2_with fail
   go_ret
   exact .inl ⟨HR2.out,rfl,HB4.out⟩
  ·have HB4:Hid (yD w w4∧Er w4 (.iface T v) no p):=⟨below2 HB3.out hb4,her⟩
   have HR2:Hid (ruE L S2 S3 r=some (p,no)):=HR.out.trans h1
   clear h1 hb4 her cD
   go_wp2_with fail
   go_ret
   exact .inr ⟨p,no,T,v,HR2.out,rfl,HB4.out.2,HB4.out.1⟩
 ·have HB3:Hid (yD w w3∧Er w3 (.iface T v) no p):=⟨below2 HB.out hb3,her⟩
  have HR:Hid (ruE L S2 S3 r=some (p,no)):=by show _=_; unfold ruE; rw [h1]
  clear h1 hb3 her cP k0 k1 k2 c0 c1 c2 c3 c4 c5 c6 c7
  go_wp2_with fail
  go_ret
  exact .inr ⟨p,no,T,v,HR.out,rfl,HB3.out.2,HB3.out.1⟩
def rusE (L:yB→Option Int) (S2 S3:List yB):List RuleM→Option (Int × Int)
 | []=>none
 | r :: rs=>match ruE L S2 S3 r with
  | some e=>some e
  | none=>rusE L S2 S3 rs
def stsE (L:yB→Option Int) (S2 S3:List yB):List StateM→Option (Int × Int)
 | []=>none
 | x :: xs=>match rusE L S2 S3 x.rs with
  | some e=>some e
  | none=>stsE L S2 S3 xs
theorem rusE_none {L:yB→Option Int}{S2 S3:List yB}{r:RuleM}{rs:List RuleM}(h:ruE L S2 S3 r=none):rusE L S2 S3 (r :: rs)=rusE L S2 S3 rs:=by simp only [rusE,h]
theorem rusE_some {L:yB→Option Int}{S2 S3:List yB}{r:RuleM}{rs:List RuleM}{e:Int × Int}(h:ruE L S2 S3 r=some e):rusE L S2 S3 (r :: rs)=some e:=by simp only [rusE,h]
theorem stsE_none {L:yB→Option Int}{S2 S3:List yB}{x:StateM}{xs:List StateM}(h:rusE L S2 S3 x.rs=none):stsE L S2 S3 (x :: xs)=stsE L S2 S3 xs:=by simp only [stsE,h]
theorem stsE_some {L:yB→Option Int}{S2 S3:List yB}{x:StateM}{xs:List StateM}{e:Int × Int}(h:rusE L S2 S3 x.rs=some e):stsE L S2 S3 (x :: xs)=some e:=by simp only [stsE,h]
def chkE (S:StratM):Option (Int × Int):=if stratE S=0 then (match decE S with
 | some e=>some e
 | none=>stsE (regL S.rs) (S.ss.map SlotM.x) (S.ts.map StateM.x) S.ts) else some (0,stratE S)
theorem tyCheck_any (S:StratM) (w:yW) (hl:StratL w S) (hz:StratZ S) (ht:Tab w) (hf:FTab w) (hg:Ety w):Calls zG 52 #[.agg S.vals] w (OutC w (chkE S)):=by
 have hb1:=below_new w (.cells #[.string S.x,.slice S.ra S.rs.length S.rc,.slice S.sa S.ss.length S.sc,.slice S.ta S.ts.length S.tc] 26)
 have hn1:=heap_new w (.cells #[.string S.x,.slice S.ra S.rs.length S.rc,.slice S.sa S.ss.length S.sc,.slice S.ta S.ts.length S.tc] 26)
 obtain⟨W1,e1⟩:∃ W,w.alloc (.cells #[.string S.x,.slice S.ra S.rs.length S.rc,.slice S.sa S.ss.length S.sc,.slice S.ta S.ts.length S.tc] 26)=W:=⟨_,rfl⟩
 have E1:Hid (w.alloc (.cells #[.string S.x,.slice S.ra S.rs.length S.rc,.slice S.sa S.ss.length S.sc,.slice S.ta S.ts.length S.tc] 26)=W1):=e1
 rw [e1] at hb1 hn1
 have HB1:Hid (yD w W1):=hb1
 have HN1:Hid (W1.heap[w§]? = (zC #[.string S.x,.slice S.ra S.rs.length S.rc,.slice S.sa S.ss.length S.sc,.slice S.ta S.ts.length S.tc] 26)):=hn1
 have HH:Hid (StratL w S∧FTab w∧Ety w):=⟨hl,hf,hg⟩
 have cC:Calls zG 88 #[.agg #[.string S.x,.slice S.ra S.rs.length S.rc,.slice S.sa S.ss.length S.sc,.slice S.ta S.ts.length S.tc]] W1 fun e w'=>e=.returned (zI (stratE S))∧yD W1 w':=check_any S W1 (hl.on hb1) hz (ht.on hb1)
 obtain⟨E,eE⟩:∃ E,stratE S=E:=⟨_,rfl⟩
 have HE:Hid (stratE S=E):=eE
 rw [eE] at cC
 have s0:W1.cell? w§¢0=some (.string S.x):=cell_of hn1 0
 have s1:W1.cell? w§¢1=some (.slice S.ra S.rs.length S.rc):=cell_of hn1 1
 have s2:W1.cell? w§¢2=some (.slice S.sa S.ss.length S.sc):=cell_of hn1 2
 have s3:W1.cell? w§¢3=some (.slice S.ta S.ts.length S.tc):=cell_of hn1 3
 clear hb1 hn1 e1 hl hz ht hf hg eE
 show Calls zG 52 #[.agg #[.string S.x,.slice S.ra S.rs.length S.rc,.slice S.sa S.ss.length S.sc,.slice S.ta S.ts.length S.tc]] w _
 go_enter Tryz.func52,Tryz.ntmps52
 go_upto_region 1 with fail
 rw [E1.out]
 clear E1
 go_wp2_with fail
 refine cC.mono ?_
 rintro e w2 ⟨rfl,hb2⟩
 have HB2:Hid (yD w w2):=below2 HB1.out hb2
 have g:=(hb2.block _ (zJ HN1.out).1).trans HN1.out
 have HN2:Hid (w2.heap[w§]? = (zC #[.string S.x,.slice S.ra S.rs.length S.rc,.slice S.sa S.ss.length S.sc,.slice S.ta S.ts.length S.tc] 26)):=g
 clear cC hb2 s0 s1 s2 s3 HB1 HN1
 by_cases h0:E=0
 ·subst h0
  have s0:w2.cell? w§¢0=some (.string S.x):=cell_of g 0
  have s1:w2.cell? w§¢1=some (.slice S.ra S.rs.length S.rc):=cell_of g 1
  have s2:w2.cell? w§¢2=some (.slice S.sa S.ss.length S.sc):=cell_of g 2
  have s3:w2.cell? w§¢3=some (.slice S.ta S.ts.length S.tc):=cell_of g 3
  have cD:Calls zG 90 #[.agg #[.string S.x,.slice S.ra S.rs.length S.rc,.slice S.sa S.ss.length S.sc,.slice S.ta S.ts.length S.tc]] w2 (OutK w2 S):=declared_any S w2 (HH.out.1.on HB2.out) (HH.out.2.1.on HB2.out) (strat_ok HE.out (regL S.rs)).1
  have HF:Hid (chkE S=match decE S with
   | some e=>some e
   | none=>stsE (regL S.rs) (S.ss.map SlotM.x) (S.ts.map StateM.x) S.ts):=by show _=_; unfold chkE; rw [if_pos HE.out]
  clear g
  go_wp2_with fail
  refine cD.mono ?_
  rintro e w3 (⟨p,no,c,h1,rfl,h2,h3,hb3⟩ | ⟨b,b2,b3,h1,rfl,hk,hb3⟩)
  ·have HR:Hid (chkE S=some (p,no)):=by show _=_; rw [HF.out,h1]
   have h4:=below_new w3 (.cells zl 172)
   have HB3:Hid (yD w (w3.alloc (.cells zl 172))∧Er (w3.alloc (.cells zl 172)) (.iface 184 (zP c)) no p):=⟨below2 HB2.out (below2 hb3 h4),h3.er.on h4⟩
   clear h1 h2 h3 h4 hb3 cD s0 s1 s2 s3
   go_wp2_with fail
   go_ret
   exact .inr ⟨p,no,_,_,HR.out,rfl,HB3.out.2,HB3.out.1⟩
  ·obtain⟨L,eL⟩:∃ L,regL S.rs=L:=⟨_,rfl⟩
   obtain⟨S2,eS2⟩:∃ l,S.ss.map SlotM.x=l:=⟨_,rfl⟩
   obtain⟨S3,eS3⟩:∃ l,S.ts.map StateM.x=l:=⟨_,rfl⟩
   have HOK:Hid (∀ x ∈ S.ts,∀ r ∈ x.rs,RuOk L r):=(strat_ok HE.out L).2
   have HR0:Hid (chkE S=stsE L S2 S3 S.ts):=by show _=_; rw [HF.out,h1,eL,eS2,eS3]
   rw [eL,eS2,eS3] at hk
   have h4:=below_new w3 (.cells #[.map (some b),.map (some b2),.map (some b3)] 172)
   have n4:=heap_new w3 (.cells #[.map (some b),.map (some b2),.map (some b3)] 172)
   have hb4:=below2 hb3 h4
   have s3':(w3.alloc (.cells #[.map (some b),.map (some b2),.map (some b3)] 172)).cell? w§¢3=some (.slice S.ta S.ts.length S.tc):=cell_of ((hb4.block _ (zJ HN2.out).1).trans HN2.out) 3
   have HK4:Hid (Kn (w3.alloc (.cells #[.map (some b),.map (some b2),.map (some b3)] 172)) b b2 b3 L S2 S3):=hk.on h4
   have HB4:Hid (yD w (w3.alloc (.cells #[.map (some b),.map (some b2),.map (some b3)] 172))):=below2 HB2.out hb4
   obtain⟨WK,eWK⟩:∃ W,w3.alloc (.cells #[.map (some b),.map (some b2),.map (some b3)] 172)=W:=⟨_,rfl⟩
   have EWK:Hid (w3.alloc (.cells #[.map (some b),.map (some b2),.map (some b3)] 172)=WK):=eWK
   obtain⟨M4,eM4⟩:∃ m,w3§=m:=⟨_,rfl⟩
   have EM4:Hid (w3§=M4):=eM4
   rw [eWK] at s3' HK4 HB4 n4
   rw [eM4] at n4
   have HN4:Hid (WK.heap[M4]? = (zC #[.map (some b),.map (some b2),.map (some b3)] 172)):=n4
   have HSL:Hid (SlAt w 3 S.ta S.tc (S.ts.map StateM.vals)):=HH.out.1.2.2.2.2.1
   have HST:Hid (∀ x ∈ S.ts,StateL w x):=HH.out.1.2.2.2.2.2.1
   obtain⟨R,eR⟩:∃ R,chkE S=R:=⟨_,rfl⟩
   have ER:Hid (chkE S=R):=eR
   rw [eR] at HR0
   obtain⟨ts,ets⟩:∃ ts,S.ts=ts:=⟨_,rfl⟩
   rw [ets] at HOK HR0 HSL HST s3'
   obtain⟨ta,eta⟩:∃ q,S.ta=q:=⟨_,rfl⟩
   rw [eta] at HSL s3'
   clear h1 hk h4 n4 hb4 hb3 cD s0 s1 s2 s3 eWK eM4 eL eS2 eS3 HF HE HN2 eR ets eta
   go_upto_region 5 with fail
   rw [EWK.out,EM4.out]
   clear EWK EM4
   go_wp2_with fail
   go_loopw [28] (fun t wr=>∃ i:Nat,i≤ts.length∧t=zI i∧Hid (yD WK wr)∧Hid (R=stsE L S2 S3 (ts.drop i))) (fun t _=>ts.length - (intOf t).toNat)
   case atStart=>exact⟨0,by omega,rfl,Below.refl _ _,HR0⟩
   case round =>
    obtain⟨i,hi,rfl,HBR,HR⟩:=hrel
    by_cases hlt:i < ts.length
    ·have hlt':(i:Int) < (ts.length:Int):=by omega
     have hmx:(i:Int)+1≤9223372036854775807:=by have h1:=HSL.out.1; have h2:=HSL.out.2.1; rw [List.length_map] at h1; omega
     obtain⟨bb,o,ea,hat⟩:=(HSL.out.on (mapz StateM.sz _) (below2 HB4.out HBR.out)).2.2 i (by rw [List.length_map]; exact hlt)
     simp only [List.getElem_map] at hat
     have HMEM:Hid (ts[i] ∈ ts):=List.getElem_mem hlt
     have HC:Hid (R=stsE L S2 S3 (ts[i] :: ts.drop (i+1))):=by show _=_; rw [HR.out,List.drop_eq_getElem_cons hlt]
     obtain⟨d,ed⟩:∃ d,ts[i]=d:=⟨_,rfl⟩
     rw [ed] at hat HC HMEM
     have HRG:Hid (wr.rangeAt bb (o+i * 3) d.vals.toList):=fun j v hv=>by
      have hj:j < 3:=(List.getElem?_eq_some_iff.1 hv).1
      rw [hat j hj,← hv]; simp
     have HZ:Hid ((wr.alloc (.cells zk 69)).heap[wr§]? = (zC zk 69)):=heap_new _ _
     have hbx:yD wr ((wr.alloc (.cells zk 69)).setRow wr§ d.vals):=below_row (below_new _ _) (Nat.le_refl _) _
     have HBX:Hid (yD WK ((wr.alloc (.cells zk 69)).setRow wr§ d.vals)):=below2 HBR.out hbx
     have HNX:Hid (((wr.alloc (.cells zk 69)).setRow wr§ d.vals).heap[wr§]? = (zC d.vals 69)):=setRow_heap _ _ _ _ _ _ HZ.out
     subst ea
     clear hat ed hbx HR HBR
     go_upto_region 10 with (first | (refine wpList_load_mid rfl 69 (.tmp 30) rfl bb (o+i * 3) rfl d.vals.toList _ HRG.out Tryz.underlying69 rfl (by show _=some 3; exact size87') ?_; rw [Array.toArray_toList]) | (refine wpList_store_row rfl 69 (.tmp 7) (.tmp 31) rfl wr§ d.vals rfl rfl 69 zk HZ.out size87' rfl (all3' d) ?_))
     generalize hWX:World.setRow _ _ _=WX
     rw [hWX] at HBX HNX
     clear hWX HZ HRG
     have x1:WX.cell? wr§¢1=some (.slice d.a d.rs.length d.c):=cell_of HNX.out 1
     have HRL:Hid (SlAt w 10 d.a d.c (d.rs.map RuleM.vals)):=(HST.out d HMEM.out).1
     have HRS:Hid (∀ r ∈ d.rs,RuleL w r∧RuOk L r):=fun r hr=>⟨(HST.out d HMEM.out).2.1 r hr,HOK.out d HMEM.out r hr⟩
     have HC2:Hid (∀ e,rusE L S2 S3 d.rs=some e→R=some e):=fun e he=>HC.out.trans (stsE_some he)
     have HC3:Hid (rusE L S2 S3 d.rs=none→R=stsE L S2 S3 (ts.drop (i+1))):=fun he=>HC.out.trans (stsE_none he)
     obtain⟨rs,ers⟩:∃ rs,d.rs=rs:=⟨_,rfl⟩
     rw [ers] at HRL HRS HC2 HC3 x1
     obtain⟨da,eda⟩:∃ q,d.a=q:=⟨_,rfl⟩
     rw [eda] at HRL x1
     clear ers eda HC HMEM HNX
     generalize wr§=M1 at x1 ⊢
     go_wp2_with fail
     go_loopw [35] (fun t wr=>∃ j:Nat,j≤rs.length∧t=zI j∧Hid (yD WK wr)∧Hid (rusE L S2 S3 rs=rusE L S2 S3 (rs.drop j))) (fun t _=>rs.length - (intOf t).toNat)
     case atStart=>exact⟨0,by omega,rfl,HBX,rfl⟩
     case round =>
      obtain⟨j,hj,rfl,HBQ,HRQ⟩:=hrel
      by_cases hjl:j < rs.length
      ·have hjl':(j:Int) < (rs.length:Int):=by omega
       have hjx:(j:Int)+1≤9223372036854775807:=by have h1:=HRL.out.1; have h2:=HRL.out.2.1; rw [List.length_map] at h1; omega
       obtain⟨b7,o7,ea7,hat7⟩:=(HRL.out.on (mapz RuleM.sz _) (below2 HB4.out HBQ.out)).2.2 j (by rw [List.length_map]; exact hjl)
       simp only [List.getElem_map] at hat7
       have HMQ:Hid (rs[j] ∈ rs):=List.getElem_mem hjl
       have HCQ:Hid (rusE L S2 S3 rs=rusE L S2 S3 (rs[j] :: rs.drop (j+1))):=by show _=_; rw [HRQ.out,List.drop_eq_getElem_cons hjl]
       obtain⟨q,eq⟩:∃ q,rs[j]=q:=⟨_,rfl⟩
       rw [eq] at hat7 HCQ HMQ
       have HRG7:Hid (wr.rangeAt b7 (o7+j * 10) q.vals.toList):=fun j v hv=>by
        have hj:j < 10:=(List.getElem?_eq_some_iff.1 hv).1
        rw [hat7 j hj,← hv]; simp
       have HZ7:Hid ((wr.alloc (.cells zg 100)).heap[wr§]? = (zC zg 100)):=heap_new _ _
       have hbx7:yD wr ((wr.alloc (.cells zg 100)).setRow wr§ q.vals):=below_row (below_new _ _) (Nat.le_refl _) _
       have HBX7:Hid (yD WK ((wr.alloc (.cells zg 100)).setRow wr§ q.vals)):=below2 HBQ.out hbx7
       have HNX7:Hid (((wr.alloc (.cells zg 100)).setRow wr§ q.vals).heap[wr§]? = (zC q.vals 100)):=setRow_heap _ _ _ _ _ _ HZ7.out
       subst ea7
       clear hat7 eq hbx7 HRQ HBQ
       go_upto_region 13 with (first | (refine wpList_load_mid rfl 100 (.tmp 37) rfl b7 (o7+j * 10) rfl q.vals.toList _ HRG7.out Tryz.underlying100 rfl (by show _=some 10; exact size106') ?_; rw [Array.toArray_toList]) | (refine wpList_store_row rfl 100 (.tmp 9) (.tmp 38) rfl wr§ q.vals rfl rfl 100 zg HZ7.out size106' rfl (all10' q) ?_))
       generalize hWQ:World.setRow _ _ _=WQ
       rw [hWQ] at HBX7 HNX7
       clear hWQ HZ7 HRG7
       have hwq:=below2 HB4.out HBX7.out
       have hkq:=(HBX7.out.block _ (zJ HN4.out).1).trans HN4.out
       have k0:WQ.cell? M4¢0=some (.map (some b)):=cell_of hkq 0
       have k1:WQ.cell? M4¢1=some (.map (some b2)):=cell_of hkq 1
       have k2:WQ.cell? M4¢2=some (.map (some b3)):=cell_of hkq 2
       have cC:Calls zG 91 #[.agg #[.map (some b),.map (some b2),.map (some b3)],.agg q.vals] WQ (OutC WQ (ruE L S2 S3 q)):=checkRule_any b b2 b3 L S2 S3 q WQ (HK4.out.on HBX7.out) (HH.out.2.1.on hwq) (HH.out.2.2.on hwq) ((HRS.out q HMQ.out).1.on hwq) (HRS.out q HMQ.out).2
       clear hwq hkq
       go_wp2_with (refine wpList_load_row rfl 100 (.tmp 9) rfl wr§ rfl 100 q.vals (0,0) _ HNX7.out Tryz.underlying100 rfl size106' ?_)
       refine cC.mono ?_
       rintro e w8 (⟨hn,rfl,hb8⟩ | ⟨p,no,T,v,hn,rfl,her,hb8⟩)
       ·have HB8:Hid (yD WK w8):=below2 HBX7.out hb8
        have HN8:Hid (rusE L S2 S3 rs=rusE L S2 S3 (rs.drop (j+1))):=HCQ.out.trans (rusE_none hn)
        clear cC hb8 hn k0 k1 k2
        go_wp2_with fail
        exact⟨⟨j+1,hjl,rfl,HB8,HN8⟩,by simp only [intOf]; omega⟩
       ·have HB8:Hid (yD w w8∧Er w8 (.iface T v) no p):=⟨below2 HB4.out (below2 HBX7.out hb8),her⟩
        have HD:Hid (R=some (p,no)):=HC2.out _ (HCQ.out.trans (rusE_some hn))
        clear cC hb8 hn her k0 k1 k2
        go_wp2_with fail
        go_ret
        exact .inr ⟨p,no,T,v,ER.out.trans HD.out,rfl,HB8.out.2,HB8.out.1⟩
      ·obtain rfl:j=rs.length:=by omega
       have hnot:¬ (rs.length:Int) < (rs.length:Int):=by omega
       have HN0:Hid (R=stsE L S2 S3 (ts.drop (i+1))):=HC3.out (by rw [HRQ.out,List.drop_length]; rfl)
       clear HRQ
       go_wp2_with fail
       exact⟨⟨i+1,hlt,rfl,HBQ,HN0⟩,by simp only [intOf]; omega⟩
    ·obtain rfl:i=ts.length:=by omega
     have hnot:¬ (ts.length:Int) < (ts.length:Int):=by omega
     have HD:Hid (R=none):=by show _=_; rw [HR.out,List.drop_length]; rfl
     clear HR
     go_wp2_with fail
     go_ret
     exact .inl ⟨ER.out.trans HD.out,rfl,below2 HB4.out HBR.out⟩
 ·have hE:(E == 0)=false:=by simpa using h0
  have HF:Hid (chkE S=some (0,E)):=by show _=_; unfold chkE; rw [HE.out,if_neg h0]
  clear h0 g
  go_wp2_with fail
  refine (wrong_any _ _ _).mono ?_
  rintro e w7 ⟨rfl,hf7,hb7⟩
  have HB7:Hid (yD w w7∧Er w7 (.iface 184 (zP w2§)) E 0):=⟨below2 HB2.out hb7,hf7.er⟩
  clear hb7 hf7
  go_wp2_with fail
  go_ret
  exact .inr ⟨0,E,_,_,HF.out,rfl,HB7.out.2,HB7.out.1⟩
namespace Fx
def fitB (x:Int):Bool:=decide (-9223372036854775808≤x∧x≤9223372036854775807)
def fitN (x:Int):Int:=if fitB x=true then x else 0
theorem fitB_true {x:Int}(h1:-9223372036854775808≤x) (h2:x≤9223372036854775807):fitB x=true:=by
 unfold fitB; exact decide_eq_true ⟨h1,h2⟩
theorem fitB_false {x:Int}(h:x < -9223372036854775808∨9223372036854775807 < x):fitB x=false:=by
 unfold fitB; apply decide_eq_false; omega
theorem fitB_iff {x:Int}:fitB x=true ↔ (-9223372036854775808≤x∧x≤9223372036854775807):=by
 unfold fitB; exact decide_eq_true_iff
theorem fitN_true {x:Int}(h:fitB x=true):fitN x=x:=by unfold fitN; rw [if_pos h]
theorem fitN_false {x:Int}(h:fitB x=false):fitN x=0:=by unfold fitN; rw [if_neg (by rw [h]; decide)]
def cmpN (a b:Int):Int:=if a < b then -1 else if b < a then 1 else 0
theorem cmpN_lt {a b:Int}(h:a < b):cmpN a b = -1:=by unfold cmpN; rw [if_pos h]
theorem cmpN_gt {a b:Int}(h:b < a):cmpN a b=1:=by unfold cmpN; rw [if_neg (by omega),if_pos h]
theorem cmpN_eq {a b:Int}(h:a=b):cmpN a b=0:=by unfold cmpN; rw [if_neg (by omega),if_neg (by omega)]
def byN (a b:Int):Int:=if b=0 then 0 else fitN (a.tdiv b)
def byB (a b:Int):Bool:=if b=0 then false else fitB (a.tdiv b)
def restN (a b:Int):Int:=if b=0 then 0 else a.tmod b
def restB (b:Int):Bool:=if b=0 then false else true
theorem byN_0 (a:Int) {b:Int}(h:b=0):byN a b=0:=by unfold byN; rw [if_pos h]
theorem byB_0 (a:Int) {b:Int}(h:b=0):byB a b=false:=by unfold byB; rw [if_pos h]
theorem byN_1 (a:Int) {b:Int}(h:b≠0):byN a b=fitN (a.tdiv b):=by unfold byN; rw [if_neg h]
theorem byB_1 (a:Int) {b:Int}(h:b≠0):byB a b=fitB (a.tdiv b):=by unfold byB; rw [if_neg h]
theorem restN_0 (a:Int) {b:Int}(h:b=0):restN a b=0:=by unfold restN; rw [if_pos h]
theorem restB_0 {b:Int}(h:b=0):restB b=false:=by unfold restB; rw [if_pos h]
theorem restN_1 (a:Int) {b:Int}(h:b≠0):restN a b=a.tmod b:=by unfold restN; rw [if_neg h]
theorem restB_1 {b:Int}(h:b≠0):restB b=true:=by unfold restB; rw [if_neg h]
theorem tdiv_fits {a b:Int}(a1:-9223372036854775808≤a) (a2:a≤9223372036854775807) (h0:b≠0) (h1:b≠-1):fitB (a.tdiv b)=true:=by
 by_cases h2:b=1
 ·subst h2; rw [Int.tdiv_one]; exact fitB_true a1 a2
 ·have h3:2≤b.natAbs:=by omega
  have h4:(a.tdiv b).natAbs≤a.natAbs / 2:=by rw [Int.natAbs_tdiv]; exact Nat.div_le_div_left h3 (by decide)
  apply fitB_true <;> omega
theorem tmod_bound {a b:Int}(h0:b≠0):(a.tmod b).natAbs < b.natAbs:=by
 rw [Int.natAbs_tmod]; exact Nat.mod_lt _ (by omega)
end Fx
namespace Fx
theorem wrapNat_neg (r:BitVec 64):IntKind.i64.wrap (r.toNat:Int) < 0 ↔ r.msb=true:=by
 rw [IntKind.wrap_i64,BitVec.msb_eq_decide,decide_eq_true_iff]
 have:=r.isLt
 omega
theorem ofInt_msb (x:Int) (h1:-9223372036854775808≤x) (h2:x≤9223372036854775807):(BitVec.ofInt 64 x).msb=true ↔ x < 0:=by
 rw [BitVec.msb_eq_decide,decide_eq_true_iff,BitVec.toNat_ofInt]
 omega
theorem and_neg (x y:Int) (h1:-9223372036854775808≤x) (h2:x≤9223372036854775807) (h3:-9223372036854775808≤y) (h4:y≤9223372036854775807) :
  bits BinOp.and IntKind.i64 x y < 0 ↔ (x < 0∧y < 0):=by
 have e:bits BinOp.and IntKind.i64 x y=IntKind.i64.wrap ((BitVec.ofInt 64 x &&& BitVec.ofInt 64 y).toNat:Int):=rfl
 rw [e,wrapNat_neg,BitVec.msb_and,Bool.and_eq_true,ofInt_msb x h1 h2,ofInt_msb y h3 h4]
theorem xor_neg (x y:Int) (h1:-9223372036854775808≤x) (h2:x≤9223372036854775807) (h3:-9223372036854775808≤y) (h4:y≤9223372036854775807) :
  bits BinOp.xor IntKind.i64 x y < 0 ↔ ¬ (x < 0 ↔ y < 0):=by
 have e:bits BinOp.xor IntKind.i64 x y=IntKind.i64.wrap ((BitVec.ofInt 64 x ^^^ BitVec.ofInt 64 y).toNat:Int):=rfl
 rw [e,wrapNat_neg,BitVec.msb_xor]
 have hx:=ofInt_msb x h1 h2
 have hy:=ofInt_msb y h3 h4
 cases h:(BitVec.ofInt 64 x).msb <;> cases h':(BitVec.ofInt 64 y).msb <;> rw [h] at hx <;> rw [h'] at hy <;> simp_all
theorem andxor_neg (a b c d:Int) (ha1:-9223372036854775808≤a) (ha2:a≤9223372036854775807) (hb1:-9223372036854775808≤b) (hb2:b≤9223372036854775807)
  (hc1:-9223372036854775808≤c) (hc2:c≤9223372036854775807) (hd1:-9223372036854775808≤d) (hd2:d≤9223372036854775807) :
  bits BinOp.and IntKind.i64 (bits BinOp.xor IntKind.i64 a b) (bits BinOp.xor IntKind.i64 c d) < 0 ↔ (¬ (a < 0 ↔ b < 0)∧¬ (c < 0 ↔ d < 0)):=by
 rw [and_neg _ _ (bits_lo_i64 _ _ _) (bits_hi_i64 _ _ _) (bits_lo_i64 _ _ _) (bits_hi_i64 _ _ _),xor_neg a b ha1 ha2 hb1 hb2,xor_neg c d hc1 hc2 hd1 hd2]
theorem wrap64_lo (n:Int):-9223372036854775808≤wrap64 n:=by unfold wrap64; omega
theorem wrap64_hi (n:Int):wrap64 n≤9223372036854775807:=by unfold wrap64; omega
end Fx
namespace Fx
theorem ret1 {k:IntKind}{a b:Int}(h:a=b):Ending.returned (.int k a)=.returned (.int k b):=by rw [h]
theorem ret2 {k:IntKind}{a b:Int}{p q:Bool}(h:a=b) (h':p=q):Ending.returned (.tuple #[.int k a,.bool p])=.returned (.tuple #[.int k b,.bool q]):=by rw [h,h']
theorem magnitude_any (a:Int) (h1:-9223372036854775808≤a) (h2:a≤9223372036854775807) (w:yW) :
  Calls zG 42 #[zI a] w fun e w'=>e=.returned (.int .u64 (a.natAbs:Int))∧w'=w:=by
 by_cases h:a < 0
 ·go_enter Tryz.func42,Tryz.ntmps42
  go_wp2
  go_ret
  exact⟨ret1 (by simp only [IntKind.wrap_u64]; omega),rfl⟩
 ·have h:0≤a:=by omega
  go_enter Tryz.func42,Tryz.ntmps42
  go_wp2
  go_ret
  exact⟨ret1 (by omega),rfl⟩
theorem add_wraps (a b:Int) (a1:-9223372036854775808≤a) (a2:a≤9223372036854775807) (b1:-9223372036854775808≤b) (b2:b≤9223372036854775807) :
  bits BinOp.and IntKind.i64 (bits BinOp.xor IntKind.i64 a (wrap64 (a+b))) (bits BinOp.xor IntKind.i64 b (wrap64 (a+b))) < 0 ↔ fitB (a+b)=false:=by
 rw [andxor_neg a (wrap64 (a+b)) b (wrap64 (a+b)) a1 a2 (wrap64_lo _) (wrap64_hi _) b1 b2 (wrap64_lo _) (wrap64_hi _)]
 constructor
 ·intro h; apply fitB_false; unfold wrap64 at h; omega
 ·intro h
  have h':¬ (-9223372036854775808≤a+b∧a+b≤9223372036854775807):=by rw [← fitB_iff,h]; decide
  unfold wrap64; omega
theorem sub_wraps (a b:Int) (a1:-9223372036854775808≤a) (a2:a≤9223372036854775807) (b1:-9223372036854775808≤b) (b2:b≤9223372036854775807) :
  bits BinOp.and IntKind.i64 (bits BinOp.xor IntKind.i64 a b) (bits BinOp.xor IntKind.i64 a (wrap64 (a - b))) < 0 ↔ fitB (a - b)=false:=by
 rw [andxor_neg a b a (wrap64 (a - b)) a1 a2 b1 b2 a1 a2 (wrap64_lo _) (wrap64_hi _)]
 constructor
 ·intro h; apply fitB_false; unfold wrap64 at h; omega
 ·intro h
  have h':¬ (-9223372036854775808≤a - b∧a - b≤9223372036854775807):=by rw [← fitB_iff,h]; decide
  unfold wrap64; omega
theorem wrap_fits {n:Int}(h:fitB n=true):wrap64 n=fitN n:=by
 rw [fitN_true h]; rw [fitB_iff] at h; unfold wrap64; omega
theorem not_false_true {b:Bool}(h:¬ b=false):b=true:=by cases b <;> simp_all
theorem add_any (a b:Int) (a1:-9223372036854775808≤a) (a2:a≤9223372036854775807) (b1:-9223372036854775808≤b) (b2:b≤9223372036854775807) (w:yW) :
  Calls zG 15 #[zI a,zI b] w fun e w'=>e=.returned (.tuple #[zI (fitN (a+b)),.bool (fitB (a+b))])∧w'=w:=by
 go_enter Tryz.func15,Tryz.ntmps15
 go_wp2
 ·have h:=(add_wraps a b a1 a2 b1 b2).1 (by assumption)
  go_ret2
  exact⟨ret2 (fitN_false h).symm h.symm,rfl⟩
 ·have h:fitB (a+b)=true:=not_false_true (fun h=>by have:=(add_wraps a b a1 a2 b1 b2).2 h; omega)
  go_ret2
  exact⟨ret2 (wrap_fits h) h.symm,rfl⟩
theorem sub_any (a b:Int) (a1:-9223372036854775808≤a) (a2:a≤9223372036854775807) (b1:-9223372036854775808≤b) (b2:b≤9223372036854775807) (w:yW) :
  Calls zG 16 #[zI a,zI b] w fun e w'=>e=.returned (.tuple #[zI (fitN (a - b)),.bool (fitB (a - b))])∧w'=w:=by
 go_enter Tryz.func16,Tryz.ntmps16
 go_wp2
 ·have h:=(sub_wraps a b a1 a2 b1 b2).1 (by assumption)
  go_ret2
  exact⟨ret2 (fitN_false h).symm h.symm,rfl⟩
 ·have h:fitB (a - b)=true:=not_false_true (fun h=>by have:=(sub_wraps a b a1 a2 b1 b2).2 h; omega)
  go_ret2
  exact⟨ret2 (wrap_fits h) h.symm,rfl⟩
theorem neg_any (a:Int) (a1:-9223372036854775808≤a) (a2:a≤9223372036854775807) (w:yW) :
  Calls zG 44 #[zI a] w fun e w'=>e=.returned (.tuple #[zI (fitN (-a)),.bool (fitB (-a))])∧w'=w:=by
 by_cases h:a = -9223372036854775808
 ·have h':(a == -9223372036854775808)=true:=by simp [h]
  have hb:Hid (fitB (-a)=false):=fitB_false (by omega)
  clear h
  go_enter Tryz.func44,Tryz.ntmps44
  go_wp2
  go_ret2
  exact⟨ret2 (fitN_false hb.out).symm hb.out.symm,rfl⟩
 ·have h':(a == -9223372036854775808)=false:=by simp [h]
  have hb:Hid (fitB (-a)=true):=fitB_true (by omega) (by omega)
  clear h
  go_enter Tryz.func44,Tryz.ntmps44
  go_wp2
  go_ret2
  exact⟨ret2 (wrap_fits hb.out) hb.out.symm,rfl⟩
theorem cmp_any (a b:Int) (w:yW) :
  Calls zG 167 #[zI a,zI b] w fun e w'=>e=.returned (zI (cmpN a b))∧w'=w:=by
 go_enter Tryz.func167,Tryz.ntmps167
 go_wp2
 ·go_ret
  exact⟨ret1 (cmpN_lt (by omega)).symm,rfl⟩
 ·go_ret
  exact⟨ret1 (cmpN_gt (by omega)).symm,rfl⟩
 ·go_ret
  exact⟨ret1 (cmpN_eq (by omega)).symm,rfl⟩
def sizeS (m:Nat) (p:Bool):Int:=if p=true then -(m:Int) else m
theorem sizeS_f (m:Nat):sizeS m false=m:=rfl
theorem sizeS_t (m:Nat):sizeS m true = -(m:Int):=rfl
theorem signed_any (m:Nat) (p:Bool) (h:m < 18446744073709551616) (w:yW) :
  Calls zG 43 #[.int .u64 m,.bool p] w fun e w'=>e=.returned (.tuple #[zI (fitN (sizeS m p)),.bool (fitB (sizeS m p))])∧w'=w:=by
 cases p
 ·by_cases hm:(m:Int) < 9223372036854775808
  ·have hb:Hid (fitB (sizeS m false)=true):=fitB_true (by simp only [sizeS_f]; omega) (by simp only [sizeS_f]; omega)
   go_enter Tryz.func43,Tryz.ntmps43
   go_wp2
   go_ret2
   exact⟨ret2 (by rw [fitN_true hb.out,sizeS_f]) hb.out.symm,rfl⟩
  ·have hb:Hid (fitB (sizeS m false)=false):=fitB_false (by simp only [sizeS_f]; omega)
   go_enter Tryz.func43,Tryz.ntmps43
   go_wp2
   go_ret2
   exact⟨ret2 (fitN_false hb.out).symm hb.out.symm,rfl⟩
 ·by_cases hm:(m:Int)≤9223372036854775808
  ·have hb:Hid (fitB (sizeS m true)=true):=fitB_true (by simp only [sizeS_t]; omega) (by simp only [sizeS_t]; omega)
   go_enter Tryz.func43,Tryz.ntmps43
   go_wp2
   go_ret2
   exact⟨ret2 (by rw [fitN_true hb.out,sizeS_t,IntKind.wrap_u64]; unfold wrap64; omega) hb.out.symm,rfl⟩
  ·have hb:Hid (fitB (sizeS m true)=false):=fitB_false (by simp only [sizeS_t]; omega)
   go_enter Tryz.func43,Tryz.ntmps43
   go_wp2
   go_ret2
   exact⟨ret2 (fitN_false hb.out).symm hb.out.symm,rfl⟩
theorem div_any (a b:Int) (a1:-9223372036854775808≤a) (a2:a≤9223372036854775807) (w:yW) :
  Calls zG 18 #[zI a,zI b] w fun e w'=>e=.returned (.tuple #[zI (byN a b),.bool (byB a b)])∧w'=w:=by
 by_cases h0:b=0
 ·have h':(b == 0)=true:=by simp [h0]
  have hn:Hid (b=0):=h0
  clear h0
  go_enter Tryz.func18,Tryz.ntmps18
  go_wp2
  go_ret2
  exact⟨ret2 (byN_0 a hn.out).symm (byB_0 a hn.out).symm,rfl⟩
 ·have h':(b == 0)=false:=by simp [h0]
  by_cases h1:b = -1
  ·have h'':(b == -1)=true:=by simp [h1]
   have hn:Hid (byN a b=fitN (-a)∧byB a b=fitB (-a)):=⟨by rw [byN_1 a h0,h1,Int.tdiv_neg,Int.tdiv_one],by rw [byB_1 a h0,h1,Int.tdiv_neg,Int.tdiv_one]⟩
   clear h0 h1
   go_enter Tryz.func18,Tryz.ntmps18
   go_wp2_with fail
   refine (neg_any a a1 a2 _).mono ?_
   rintro e w' ⟨rfl,rfl⟩
   go_wp2
   go_ret2
   exact⟨ret2 hn.out.1.symm hn.out.2.symm,rfl⟩
  ·have h'':(b == -1)=false:=by simp [h1]
   have hn:Hid (byN a b=fitN (a.tdiv b)∧byB a b=true):=⟨byN_1 a h0,by rw [byB_1 a h0]; exact tdiv_fits a1 a2 h0 h1⟩
   have hf:Hid (fitB (a.tdiv b)=true):=tdiv_fits a1 a2 h0 h1
   clear h1
   go_enter Tryz.func18,Tryz.ntmps18
   go_wp2
   go_ret2
   exact⟨ret2 (by rw [hn.out.1]; exact wrap_fits hf.out) hn.out.2.symm,rfl⟩
theorem mod_any (a b:Int) (w:yW) :
  Calls zG 19 #[zI a,zI b] w fun e w'=>e=.returned (.tuple #[zI (restN a b),.bool (restB b)])∧w'=w:=by
 by_cases h0:b=0
 ·have h':(b == 0)=true:=by simp [h0]
  have hn:Hid (b=0):=h0
  clear h0
  go_enter Tryz.func19,Tryz.ntmps19
  go_wp2
  go_ret2
  exact⟨ret2 (restN_0 a hn.out).symm (restB_0 hn.out).symm,rfl⟩
 ·have h':(b == 0)=false:=by simp [h0]
  by_cases h1:b = -1
  ·have h'':(b == -1)=true:=by simp [h1]
   have hn:Hid (restN a b=0∧restB b=true):=⟨by rw [restN_1 a h0,h1]; have:=tmod_bound (a:=a) (b:=-1) (by decide); omega,restB_1 h0⟩
   clear h0 h1
   go_enter Tryz.func19,Tryz.ntmps19
   go_wp2
   go_ret2
   exact⟨ret2 hn.out.1.symm hn.out.2.symm,rfl⟩
  ·have h'':(b == -1)=false:=by simp [h1]
   have hn:Hid (restN a b=a.tmod b∧restB b=true):=⟨restN_1 a h0,restB_1 h0⟩
   clear h1
   go_enter Tryz.func19,Tryz.ntmps19
   go_wp2
   go_ret2
   exact⟨ret2 (by rw [hn.out.1]) hn.out.2.symm,rfl⟩
end Fx
end Go.Proofs.YtfbjofnaghjmeaaGreatDoor
