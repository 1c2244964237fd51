import Derived.Test.YtoogodlnnijikaaGreatDoorA0
import Derived.Test.YtoogodlnnijikaaGreatDoorA24
import Derived.Test.YtoogodlnnijikaaGreatDoorA22
namespace Go.Proofs.YtoogodlnnijikaaGreatDoor
open Go.RowKit
theorem fit_len {h:Hd}{l:Nat}(e:fitB h l=true):l≤3:=by
 unfold fitB at e
 repeat' split at e
 all_goals (simp at e; try omega)
theorem fit_fld {h:Hd}{l:Nat}(e:fitB h l=true) (hk:h.k=3):0≤h.f∧h.f < 7:=by
 unfold fitB at e
 simp [hk] at e
 omega
theorem formsB_mem:∀ (l:List Nd),formsB l=true→∀ k ∈ l,formB k=true:=by
 intro l
 induction l with
 | nil=>intro _ k hk; cases hk
 | cons x l ih =>
  intro h k hk
  simp only [formsB,Bool.and_eq_true] at h
  rcases List.mem_cons.1 hk with e | e
  ·rw [e]; exact h.1
  ·exact ih h.2 k e
theorem okT_form:∀ (m:Nd),formB m=true→OkT m:=by
 refine Nd.ind fun h a c ks ih hf=>?_
 simp only [formB,oneH,Bool.and_eq_true] at hf
 exact .mk h a c ks (fit_len hf.1.2) (fit_fld hf.1.2) (fun k hk=>ih k hk (formsB_mem ks hf.2 k hk))
theorem okT_cE {m:Nd}(h:cE m=0):OkT m:=by
 apply okT_form
 unfold cE at h
 cases e:formB m with
 | true=>rfl
 | false=>rw [e] at h; simp at h
open Go.Maps
set_option linter.unusedVariables false
set_option linter.unusedSimpArgs false
def ruE (L:ByteArray→Option Int) (S2 S3:List ByteArray) (r:RuleM):Option (Int × Int):=match pcE L (r.m,5) with
 | some e=>some e
 | none=>dosE L S2 S3 false r.ds
theorem pts_mem {L:ByteArray→Option Int}{d:DoM}{q:Nd × Int}(h:q ∈ ptsL L d):(q.1=d.sd∧ndS d=true)∨(q.1=d.qt∧ndQ d=true)∨(q.1=d.pr∧ndP d=true)∨(q.1=d.vl∧ndV d=true):=by
 unfold ptsL at h
 by_cases h1:d.k=1
 ·have e1:(d.k == 1)=true:=by simpa using h1
  rw [e1,if_pos rfl] at h
  by_cases h2:d.o=2
  ·have e2:(d.o == 2)=true:=by simpa using h2
   rw [e2,if_pos rfl] at h
   simp only [List.mem_cons,List.not_mem_nil,or_false] at h
   rcases h with rfl | rfl
   ·exact .inl ⟨rfl,by simp [ndS,h1]⟩
   ·exact .inr (.inl ⟨rfl,by simp [ndQ,h1]⟩)
  ·have e2:(d.o == 2)=false:=by simpa using h2
   rw [e2,if_neg (by decide)] at h
   simp only [List.mem_cons,List.not_mem_nil,or_false] at h
   rcases h with rfl | rfl | rfl
   ·exact .inl ⟨rfl,by simp [ndS,h1]⟩
   ·exact .inr (.inl ⟨rfl,by simp [ndQ,h1]⟩)
   ·exact .inr (.inr (.inl ⟨rfl,by simp [ndP,h1,h2]⟩))
 ·have e1:(d.k == 1)=false:=by simpa using h1
  rw [e1,if_neg (by decide)] at h
  by_cases h2:d.k=2
  ·have e2:(d.k == 2)=true:=by simpa using h2
   rw [e2,if_pos rfl] at h
   simp only [List.mem_cons,List.not_mem_nil,or_false] at h
   rcases h with rfl | rfl
   ·exact .inr (.inl ⟨rfl,by simp [ndQ,h2]⟩)
   ·exact .inr (.inr (.inl ⟨rfl,by simp [ndP,h2]⟩))
  ·have e2:(d.k == 2)=false:=by simpa using h2
   rw [e2,if_neg (by decide)] at h
   by_cases h4:d.k=4
   ·have e4:(d.k == 4)=true:=by simpa using h4
    rw [e4,if_pos rfl] at h
    simp only [List.mem_cons,List.not_mem_nil,or_false] at h
    subst h
    exact .inr (.inr (.inr ⟨rfl,by simp [ndV,h4]⟩))
   ·have e4:(d.k == 4)=false:=by simpa using h4
    rw [e4,if_neg (by decide)] at h
    cases h
theorem pts_lies {L:ByteArray→Option Int}{d:DoM}{w:World}(h:DoL w d):∀ q ∈ ptsL L d,Lies w q.1:=fun q hq=>by
 rcases pts_mem hq with ⟨e,_⟩ | ⟨e,_⟩ | ⟨e,_⟩ | ⟨e,_⟩ <;> rw [e]
 ·exact h.1
 ·exact h.2.1
 ·exact h.2.2.1
 ·exact h.2.2.2.1
theorem fs_0 {a b:Int}(h:fs a b=0):a=0∧b=0:=by
 unfold fs at h
 split at h
 ·exact⟨by assumption,h⟩
 ·exact absurd h (by assumption)
theorem fsL_0:∀ (l:List Int),fsL l=0→∀ x ∈ l,x=0
 | [],_=>fun x hx=>by cases hx
 | y :: l,h=>fun x hx=>by
  have h':fs y (fsL l)=0:=h
  rcases List.mem_cons.1 hx with e | e
  ·rw [e]; exact (fs_0 h').1
  ·exact fsL_0 l (fs_0 h').2 x e
theorem part_ok {m:Nd}{is:Bool}(h:partE m is=0) (hi:is=true):OkT m:=by
 unfold partE at h
 rw [if_pos hi] at h
 exact okT_cE h
theorem do_ok {L:ByteArray→Option Int}{d:DoM}(h:doE d=0):∀ q ∈ ptsL L d,OkT q.1:=fun q hq=>by
 unfold doE at h
 have h3:=(fs_0 (fs_0 (fs_0 h).2).2).2
 have a1:=fs_0 h3
 have a2:=fs_0 a1.2
 have a3:=fs_0 a2.2
 rcases pts_mem hq with ⟨e,i⟩ | ⟨e,i⟩ | ⟨e,i⟩ | ⟨e,i⟩ <;> rw [e]
 ·exact part_ok a1.1 i
 ·exact part_ok a2.1 i
 ·exact part_ok a3.1 i
 ·exact part_ok a3.2 i
def RuOk (L:ByteArray→Option Int) (r:RuleM):Prop:=OkT r.m∧∀ d ∈ r.ds,∀ q ∈ ptsL L d,OkT q.1
theorem rule_ok {r:RuleM}(h:ruleE r=0) (L:ByteArray→Option Int):RuOk L r:=by
 unfold ruleE at h
 have h1:=fs_0 h
 have h2:=fs_0 h1.2
 exact⟨okT_cE h1.1,fun d hd=>do_ok (fsL_0 _ h2.2 _ (List.mem_map.2 ⟨d,hd,rfl⟩))⟩
theorem state_ok {x:StateM}(h:stateE x=0) (L:ByteArray→Option Int):∀ r ∈ x.rs,RuOk L r:=fun r hr=>by
 unfold stateE at h
 exact rule_ok (fsL_0 _ (fs_0 (fs_0 h).2).2 _ (List.mem_map.2 ⟨r,hr,rfl⟩)) L
theorem fE_ok {m:Nd}(h:fE m=0):OkT m:=by
 apply okT_form
 unfold fE at h
 cases e:formB m with
 | true=>rfl
 | false=>rw [e] at h; simp at h
theorem reg_ok {r:RegM}(h:regE r=0):OkT r.m:=by
 unfold regE initE at h
 exact fE_ok (fs_0 (fs_0 (fs_0 h).2).2).1
theorem strat_ok {S:StratM}(h:stratE S=0) (L:ByteArray→Option Int):(∀ d ∈ S.rs,OkT d.m)∧∀ x ∈ S.ts,∀ r ∈ x.rs,RuOk L r:=by
 unfold stratE at h
 have h1:=fs_0 (fs_0 (fs_0 h).2).2
 have h2:=(fs_0 (fs_0 (fs_0 h1.2).2).2).2
 exact⟨fun d hd=>reg_ok (fsL_0 _ h1.1 _ (List.mem_map.2 ⟨d,hd,rfl⟩)),fun x hx=>state_ok (fsL_0 _ h2 _ (List.mem_map.2 ⟨x,hx,rfl⟩)) L⟩
set_option maxRecDepth 100000 in
set_option maxHeartbeats 4000000 in
theorem checkRule_any (b b2 b3:Nat) (L:ByteArray→Option Int) (S2 S3:List ByteArray) (r:RuleM) (w:World) (hk:Kn w b b2 b3 L S2 S3) (hf:FTab w) (hg:Ety w) (hl:RuleL w r) (ho:RuOk L r) :
  Calls zG 33 #[.agg #[.map (some b),.map (some b2),.map (some b3)],.agg r.vals] w (OutC w (ruE L S2 S3 r)):=by
 have hb1:=below_new w (.cells #[.map (some b),.map (some b2),.map (some b3)] 87)
 have hn1:=heap_new w (.cells #[.map (some b),.map (some b2),.map (some b3)] 87)
 have hs1:=size_alloc w (.cells #[.map (some b),.map (some b2),.map (some b3)] 87)
 obtain⟨W1,e1⟩:∃ W,w.alloc (.cells #[.map (some b),.map (some b2),.map (some b3)] 87)=W:=⟨_,rfl⟩
 have E1:Hid (w.alloc (.cells #[.map (some b),.map (some b2),.map (some b3)] 87)=W1):=e1
 rw [e1] at hb1 hn1 hs1
 have hb2:=below_new W1 (.cells r.vals 92)
 have hn2:=heap_new W1 (.cells r.vals 92)
 have hk2:=(hb2.block _ (Array.getElem?_eq_some_iff.1 hn1).1).trans hn1
 have hbw:=below2 hb1 hb2
 rw [hs1] at hn2
 have HS1:Hid (W1§=w§+1):=hs1
 obtain⟨W2,e2⟩:∃ W,W1.alloc (.cells r.vals 92)=W:=⟨_,rfl⟩
 have E2:Hid (W1.alloc (.cells r.vals 92)=W2):=e2
 rw [e2] at hn2 hk2 hbw
 have HB:Hid (Below w§ w W2):=hbw
 have HN:Hid (W2.heap[w§+1]? = some (.cells r.vals 92 (0,0))∧W2.heap[w§]? = some (.cells #[.map (some b),.map (some b2),.map (some b3)] 87 (0,0))):=⟨hn2,hk2⟩
 have k0:W2.cell? ⟨w§,0,none⟩=some (.map (some b)):=cell_of hk2 0
 have k1:W2.cell? ⟨w§,1,none⟩=some (.map (some b2)):=cell_of hk2 1
 have k2:W2.cell? ⟨w§,2,none⟩=some (.map (some b3)):=cell_of hk2 2
 have c0:W2.cell? ⟨w§+1,0,none⟩=some (zU r.m.h.k):=cell_of hn2 0
 have c1:W2.cell? ⟨w§+1,1,none⟩=some (zU r.m.h.o):=cell_of hn2 1
 have c2:W2.cell? ⟨w§+1,2,none⟩=some (zU r.m.h.t):=cell_of hn2 2
 have c3:W2.cell? ⟨w§+1,3,none⟩=some (zI r.m.h.n):=cell_of hn2 3
 have c4:W2.cell? ⟨w§+1,4,none⟩=some (zU r.m.h.f):=cell_of hn2 4
 have c5:W2.cell? ⟨w§+1,5,none⟩=some (.string r.m.h.x):=cell_of hn2 5
 have c6:W2.cell? ⟨w§+1,6,none⟩=some (.slice r.m.a r.m.ks.length r.m.c):=cell_of hn2 6
 have c7:W2.cell? ⟨w§+1,7,none⟩=some (zI r.m.h.p):=cell_of hn2 7
 have cP:Calls zG 69 #[.agg #[.map (some b),.map (some b2),.map (some b3)],.agg #[zU r.m.h.k,zU r.m.h.o,zU r.m.h.t,zI r.m.h.n,zU r.m.h.f,.string r.m.h.x,.slice r.m.a r.m.ks.length r.m.c,zI r.m.h.p,zU 5]] W2 (OutC W2 (pcE L (r.m,5))):=checkPart_any b b2 b3 L (r.m,5) W2 (hk.on hbw).r (hf.on hbw) (hl.1.on hbw) ho.1 (hg.on hbw)
 have HH:Hid (Kn w b b2 b3 L S2 S3∧FTab w∧Ety w∧RuleL w r∧RuOk L r):=⟨hk,hf,hg,hl,ho⟩
 clear hb1 hn1 hs1 hb2 hk2 hn2 hbw hk e1 e2 hf hl ho hg
 go_enter Tryz.func33,Tryz.ntmps33
 go_upto_region 1 with fail
 rw [E1.out,E2.out]
 try rw [HS1.out]
 clear E1 E2 HS1
 go_wp2_with fail
 refine cP.mono ?_
 rintro e w3 (⟨h1,rfl,hb3⟩ | ⟨p,no,T,v,h1,rfl,her,hb3⟩)
 ·have HB3:Hid (Below w§ w w3):=below2 HB.out hb3
  have g1:=(hb3.block _ (Array.getElem?_eq_some_iff.1 HN.out.1).1).trans HN.out.1
  have g2:=(hb3.block _ (Array.getElem?_eq_some_iff.1 HN.out.2).1).trans HN.out.2
  have m0:w3.cell? ⟨w§,0,none⟩=some (.map (some b)):=cell_of g2 0
  have m1:w3.cell? ⟨w§,1,none⟩=some (.map (some b2)):=cell_of g2 1
  have m2:w3.cell? ⟨w§,2,none⟩=some (.map (some b3)):=cell_of g2 2
  have a8:w3.cell? ⟨w§+1,8,none⟩=some (.slice r.a r.ds.length r.c):=cell_of g1 8
  have cD:Calls zG 70 #[.agg #[.map (some b),.map (some b2),.map (some b3)],.slice r.a r.ds.length r.c] w3 (OutC w3 (dosE L S2 S3 false r.ds)):=checkDos_any b b2 b3 L S2 S3 r.a r.c r.ds w3 (HH.out.1.on HB3.out) (HH.out.2.1.on HB3.out) (HH.out.2.2.1.on HB3.out) (HH.out.2.2.2.1.on HB3.out).2.1 (fun d hd=>⟨(HH.out.2.2.2.1.on HB3.out).2.2.1 d hd,fun q hq=>⟨pts_lies ((HH.out.2.2.2.1.on HB3.out).2.2.1 d hd) q hq,HH.out.2.2.2.2.2 d hd q hq⟩⟩)
  have HR:Hid (ruE L S2 S3 r=dosE L S2 S3 false r.ds):=by show _=_; unfold ruE; rw [h1]
  clear g1 g2 h1 hb3 cP k0 k1 k2 c0 c1 c2 c3 c4 c5 c6 c7
  go_wp2_with fail
  refine cD.mono ?_
  rintro e w4 (⟨h1,rfl,hb4⟩ | ⟨p,no,T,v,h1,rfl,her,hb4⟩)
  ·have HB4:Hid (Below w§ w w4):=below2 HB3.out hb4
   have HR2:Hid (ruE L S2 S3 r=none):=HR.out.trans h1
   clear h1 hb4 cD
   go_wp2_with fail
   go_ret
   exact .inl ⟨HR2.out,rfl,HB4.out⟩
  ·have HB4:Hid (Below w§ w w4∧Er w4 (.iface T v) no p):=⟨below2 HB3.out hb4,her⟩
   have HR2:Hid (ruE L S2 S3 r=some (p,no)):=HR.out.trans h1
   clear h1 hb4 her cD
   go_wp2_with fail
   go_ret
   exact .inr ⟨p,no,T,v,HR2.out,rfl,HB4.out.2,HB4.out.1⟩
 ·have HB3:Hid (Below w§ w w3∧Er w3 (.iface T v) no p):=⟨below2 HB.out hb3,her⟩
  have HR:Hid (ruE L S2 S3 r=some (p,no)):=by show _=_; unfold ruE; rw [h1]
  clear h1 hb3 her cP k0 k1 k2 c0 c1 c2 c3 c4 c5 c6 c7
  go_wp2_with fail
  go_ret
  exact .inr ⟨p,no,T,v,HR.out,rfl,HB3.out.2,HB3.out.1⟩
def rusE (L:ByteArray→Option Int) (S2 S3:List ByteArray):List RuleM→Option (Int × Int)
 | []=>none
 | r :: rs=>match ruE L S2 S3 r with
  | some e=>some e
  | none=>rusE L S2 S3 rs
def stsE (L:ByteArray→Option Int) (S2 S3:List ByteArray):List StateM→Option (Int × Int)
 | []=>none
 | x :: xs=>match rusE L S2 S3 x.rs with
  | some e=>some e
  | none=>stsE L S2 S3 xs
theorem rusE_none {L:ByteArray→Option Int}{S2 S3:List ByteArray}{r:RuleM}{rs:List RuleM}(h:ruE L S2 S3 r=none):rusE L S2 S3 (r :: rs)=rusE L S2 S3 rs:=by simp only [rusE,h]
theorem rusE_some {L:ByteArray→Option Int}{S2 S3:List ByteArray}{r:RuleM}{rs:List RuleM}{e:Int × Int}(h:ruE L S2 S3 r=some e):rusE L S2 S3 (r :: rs)=some e:=by simp only [rusE,h]
theorem stsE_none {L:ByteArray→Option Int}{S2 S3:List ByteArray}{x:StateM}{xs:List StateM}(h:rusE L S2 S3 x.rs=none):stsE L S2 S3 (x :: xs)=stsE L S2 S3 xs:=by simp only [stsE,h]
theorem stsE_some {L:ByteArray→Option Int}{S2 S3:List ByteArray}{x:StateM}{xs:List StateM}{e:Int × Int}(h:rusE L S2 S3 x.rs=some e):stsE L S2 S3 (x :: xs)=some e:=by simp only [stsE,h]
def chkE (S:StratM):Option (Int × Int):=if stratE S=0 then (match decE S with
 | some e=>some e
 | none=>stsE (regL S.rs) (S.ss.map SlotM.x) (S.ts.map StateM.x) S.ts) else some (0,stratE S)
set_option maxRecDepth 100000 in
set_option maxHeartbeats 16000000 in
theorem tyCheck_any (S:StratM) (w:World) (hl:StratL w S) (hz:StratZ S) (ht:Tab w) (hf:FTab w) (hg:Ety w):Calls zG 11 #[.agg S.vals] w (OutC w (chkE S)):=by
 have hb1:=below_new w (.cells #[.string S.x,.slice S.ra S.rs.length S.rc,.slice S.sa S.ss.length S.sc,.slice S.ta S.ts.length S.tc] 27)
 have hn1:=heap_new w (.cells #[.string S.x,.slice S.ra S.rs.length S.rc,.slice S.sa S.ss.length S.sc,.slice S.ta S.ts.length S.tc] 27)
 obtain⟨W1,e1⟩:∃ W,w.alloc (.cells #[.string S.x,.slice S.ra S.rs.length S.rc,.slice S.sa S.ss.length S.sc,.slice S.ta S.ts.length S.tc] 27)=W:=⟨_,rfl⟩
 have E1:Hid (w.alloc (.cells #[.string S.x,.slice S.ra S.rs.length S.rc,.slice S.sa S.ss.length S.sc,.slice S.ta S.ts.length S.tc] 27)=W1):=e1
 rw [e1] at hb1 hn1
 have HB1:Hid (Below w§ w W1):=hb1
 have HN1:Hid (W1.heap[w§]? = some (.cells #[.string S.x,.slice S.ra S.rs.length S.rc,.slice S.sa S.ss.length S.sc,.slice S.ta S.ts.length S.tc] 27 (0,0))):=hn1
 have HH:Hid (StratL w S∧FTab w∧Ety w):=⟨hl,hf,hg⟩
 have cC:Calls zG 30 #[.agg #[.string S.x,.slice S.ra S.rs.length S.rc,.slice S.sa S.ss.length S.sc,.slice S.ta S.ts.length S.tc]] W1 fun e w'=>e=.returned (zI (stratE S))∧Below W1§ W1 w':=check_any S W1 (hl.on hb1) hz (ht.on hb1)
 obtain⟨E,eE⟩:∃ E,stratE S=E:=⟨_,rfl⟩
 have HE:Hid (stratE S=E):=eE
 rw [eE] at cC
 have s0:W1.cell? ⟨w§,0,none⟩=some (.string S.x):=cell_of hn1 0
 have s1:W1.cell? ⟨w§,1,none⟩=some (.slice S.ra S.rs.length S.rc):=cell_of hn1 1
 have s2:W1.cell? ⟨w§,2,none⟩=some (.slice S.sa S.ss.length S.sc):=cell_of hn1 2
 have s3:W1.cell? ⟨w§,3,none⟩=some (.slice S.ta S.ts.length S.tc):=cell_of hn1 3
 clear hb1 hn1 e1 hl hz ht hf hg eE
 show Calls zG 11 #[.agg #[.string S.x,.slice S.ra S.rs.length S.rc,.slice S.sa S.ss.length S.sc,.slice S.ta S.ts.length S.tc]] w _
 go_enter Tryz.func11,Tryz.ntmps11
 go_upto_region 1 with fail
 rw [E1.out]
 clear E1
 go_wp2_with fail
 refine cC.mono ?_
 rintro e w2 ⟨rfl,hb2⟩
 have HB2:Hid (Below w§ w w2):=below2 HB1.out hb2
 have g:=(hb2.block _ (Array.getElem?_eq_some_iff.1 HN1.out).1).trans HN1.out
 have HN2:Hid (w2.heap[w§]? = some (.cells #[.string S.x,.slice S.ra S.rs.length S.rc,.slice S.sa S.ss.length S.sc,.slice S.ta S.ts.length S.tc] 27 (0,0))):=g
 clear cC hb2 s0 s1 s2 s3 HB1 HN1
 by_cases h0:E=0
 ·subst h0
  have s0:w2.cell? ⟨w§,0,none⟩=some (.string S.x):=cell_of g 0
  have s1:w2.cell? ⟨w§,1,none⟩=some (.slice S.ra S.rs.length S.rc):=cell_of g 1
  have s2:w2.cell? ⟨w§,2,none⟩=some (.slice S.sa S.ss.length S.sc):=cell_of g 2
  have s3:w2.cell? ⟨w§,3,none⟩=some (.slice S.ta S.ts.length S.tc):=cell_of g 3
  have cD:Calls zG 32 #[.agg #[.string S.x,.slice S.ra S.rs.length S.rc,.slice S.sa S.ss.length S.sc,.slice S.ta S.ts.length S.tc]] w2 (OutK w2 S):=declared_any S w2 (HH.out.1.on HB2.out) (HH.out.2.1.on HB2.out) (strat_ok HE.out (regL S.rs)).1
  have HF:Hid (chkE S=match decE S with
   | some e=>some e
   | none=>stsE (regL S.rs) (S.ss.map SlotM.x) (S.ts.map StateM.x) S.ts):=by show _=_; unfold chkE; rw [if_pos HE.out]
  clear g
  go_wp2_with fail
  refine cD.mono ?_
  rintro e w3 (⟨p,no,c,h1,rfl,h2,h3,hb3⟩ | ⟨b,b2,b3,h1,rfl,hk,hb3⟩)
  ·have HR:Hid (chkE S=some (p,no)):=by show _=_; rw [HF.out,h1]
   have h4:=below_new w3 (.cells #[.map none,.map none,.map none] 87)
   have HB3:Hid (Below w§ w (w3.alloc (.cells #[.map none,.map none,.map none] 87))∧Er (w3.alloc (.cells #[.map none,.map none,.map none] 87)) (.iface 118 (zP c)) no p):=⟨below2 HB2.out (below2 hb3 h4),h3.er.on h4⟩
   clear h1 h2 h3 h4 hb3 cD s0 s1 s2 s3
   go_wp2_with fail
   go_ret
   exact .inr ⟨p,no,_,_,HR.out,rfl,HB3.out.2,HB3.out.1⟩
  ·obtain⟨L,eL⟩:∃ L,regL S.rs=L:=⟨_,rfl⟩
   obtain⟨S2,eS2⟩:∃ l,S.ss.map SlotM.x=l:=⟨_,rfl⟩
   obtain⟨S3,eS3⟩:∃ l,S.ts.map StateM.x=l:=⟨_,rfl⟩
   have HOK:Hid (∀ x ∈ S.ts,∀ r ∈ x.rs,RuOk L r):=(strat_ok HE.out L).2
   have HR0:Hid (chkE S=stsE L S2 S3 S.ts):=by show _=_; rw [HF.out,h1,eL,eS2,eS3]
   rw [eL,eS2,eS3] at hk
   have h4:=below_new w3 (.cells #[.map (some b),.map (some b2),.map (some b3)] 87)
   have n4:=heap_new w3 (.cells #[.map (some b),.map (some b2),.map (some b3)] 87)
   have hb4:=below2 hb3 h4
   have s3':(w3.alloc (.cells #[.map (some b),.map (some b2),.map (some b3)] 87)).cell? ⟨w§,3,none⟩=some (.slice S.ta S.ts.length S.tc):=cell_of ((hb4.block _ (Array.getElem?_eq_some_iff.1 HN2.out).1).trans HN2.out) 3
   have HK4:Hid (Kn (w3.alloc (.cells #[.map (some b),.map (some b2),.map (some b3)] 87)) b b2 b3 L S2 S3):=hk.on h4
   have HB4:Hid (Below w§ w (w3.alloc (.cells #[.map (some b),.map (some b2),.map (some b3)] 87))):=below2 HB2.out hb4
   obtain⟨WK,eWK⟩:∃ W,w3.alloc (.cells #[.map (some b),.map (some b2),.map (some b3)] 87)=W:=⟨_,rfl⟩
   have EWK:Hid (w3.alloc (.cells #[.map (some b),.map (some b2),.map (some b3)] 87)=WK):=eWK
   obtain⟨M4,eM4⟩:∃ m,w3§=m:=⟨_,rfl⟩
   have EM4:Hid (w3§=M4):=eM4
   rw [eWK] at s3' HK4 HB4 n4
   rw [eM4] at n4
   have HN4:Hid (WK.heap[M4]? = some (.cells #[.map (some b),.map (some b2),.map (some b3)] 87 (0,0))):=n4
   have HSL:Hid (SlAt w 3 S.ta S.tc (S.ts.map StateM.vals)):=HH.out.1.2.2.2.2.1
   have HST:Hid (∀ x ∈ S.ts,StateL w x):=HH.out.1.2.2.2.2.2.1
   obtain⟨R,eR⟩:∃ R,chkE S=R:=⟨_,rfl⟩
   have ER:Hid (chkE S=R):=eR
   rw [eR] at HR0
   obtain⟨ts,ets⟩:∃ ts,S.ts=ts:=⟨_,rfl⟩
   rw [ets] at HOK HR0 HSL HST s3'
   obtain⟨ta,eta⟩:∃ q,S.ta=q:=⟨_,rfl⟩
   rw [eta] at HSL s3'
   clear h1 hk h4 n4 hb4 hb3 cD s0 s1 s2 s3 eWK eM4 eL eS2 eS3 HF HE HN2 eR ets eta
   go_upto_region 5 with fail
   rw [EWK.out,EM4.out]
   clear EWK EM4
   go_wp2_with fail
   go_loopw [28] (fun t wr=>∃ i:Nat,i≤ts.length∧t=zI i∧Hid (Below WK§ WK wr)∧Hid (R=stsE L S2 S3 (ts.drop i))) (fun t _=>ts.length - (intOf t).toNat)
   case atStart=>exact⟨0,by omega,rfl,Below.refl _ _,HR0⟩
   case round =>
    obtain⟨i,hi,rfl,HBR,HR⟩:=hrel
    by_cases hlt:i < ts.length
    ·have hlt':(i:Int) < (ts.length:Int):=by omega
     have hmx:(i:Int)+1≤9223372036854775807:=by have h1:=HSL.out.1; have h2:=HSL.out.2.1; rw [List.length_map] at h1; omega
     obtain⟨bb,o,ea,hat⟩:=(HSL.out.on (mapz StateM.sz _) (below2 HB4.out HBR.out)).2.2 i (by rw [List.length_map]; exact hlt)
     simp only [List.getElem_map] at hat
     have HMEM:Hid (ts[i] ∈ ts):=List.getElem_mem hlt
     have HC:Hid (R=stsE L S2 S3 (ts[i] :: ts.drop (i+1))):=by show _=_; rw [HR.out,List.drop_eq_getElem_cons hlt]
     obtain⟨d,ed⟩:∃ d,ts[i]=d:=⟨_,rfl⟩
     rw [ed] at hat HC HMEM
     have HRG:Hid (wr.rangeAt bb (o+i * 3) d.vals.toList):=fun j v hv=>by
      have hj:j < 3:=(List.getElem?_eq_some_iff.1 hv).1
      rw [hat j hj,← hv]; simp
     have HZ:Hid ((wr.alloc (.cells #[.string ⟨#[]⟩,.slice none 0 0,zI 0] 68)).heap[wr§]? = some (.cells #[.string ⟨#[]⟩,.slice none 0 0,zI 0] 68 (0,0))):=heap_new _ _
     have hbx:Below wr§ wr ((wr.alloc (.cells #[.string ⟨#[]⟩,.slice none 0 0,zI 0] 68)).setRow wr§ d.vals):=below_row (below_new _ _) (Nat.le_refl _) _
     have HBX:Hid (Below WK§ WK ((wr.alloc (.cells #[.string ⟨#[]⟩,.slice none 0 0,zI 0] 68)).setRow wr§ d.vals)):=below2 HBR.out hbx
     have HNX:Hid (((wr.alloc (.cells #[.string ⟨#[]⟩,.slice none 0 0,zI 0] 68)).setRow wr§ d.vals).heap[wr§]? = some (.cells d.vals 68 (0,0))):=setRow_heap _ _ _ _ _ _ HZ.out
     subst ea
     clear hat ed hbx HR HBR
     go_upto_region 10 with (first | (refine wpList_load_mid rfl 68 (.tmp 30) rfl bb (o+i * 3) rfl d.vals.toList _ HRG.out Tryz.underlying68 rfl (by show _=some 3; exact size87') ?_; rw [Array.toArray_toList]) | (refine wpList_store_row rfl 68 (.tmp 7) (.tmp 31) rfl wr§ d.vals rfl rfl 68 #[.string ⟨#[]⟩,.slice none 0 0,zI 0] HZ.out size87' rfl (all3' d) ?_))
     generalize hWX:World.setRow _ _ _=WX
     rw [hWX] at HBX HNX
     clear hWX HZ HRG
     have x1:WX.cell? ⟨wr§,1,none⟩=some (.slice d.a d.rs.length d.c):=cell_of HNX.out 1
     have HRL:Hid (SlAt w 10 d.a d.c (d.rs.map RuleM.vals)):=(HST.out d HMEM.out).1
     have HRS:Hid (∀ r ∈ d.rs,RuleL w r∧RuOk L r):=fun r hr=>⟨(HST.out d HMEM.out).2.1 r hr,HOK.out d HMEM.out r hr⟩
     have HC2:Hid (∀ e,rusE L S2 S3 d.rs=some e→R=some e):=fun e he=>HC.out.trans (stsE_some he)
     have HC3:Hid (rusE L S2 S3 d.rs=none→R=stsE L S2 S3 (ts.drop (i+1))):=fun he=>HC.out.trans (stsE_none he)
     obtain⟨rs,ers⟩:∃ rs,d.rs=rs:=⟨_,rfl⟩
     rw [ers] at HRL HRS HC2 HC3 x1
     obtain⟨da,eda⟩:∃ q,d.a=q:=⟨_,rfl⟩
     rw [eda] at HRL x1
     clear ers eda HC HMEM HNX
     generalize wr§=M1 at x1 ⊢
     go_wp2_with fail
     go_loopw [35] (fun t wr=>∃ j:Nat,j≤rs.length∧t=zI j∧Hid (Below WK§ WK wr)∧Hid (rusE L S2 S3 rs=rusE L S2 S3 (rs.drop j))) (fun t _=>rs.length - (intOf t).toNat)
     case atStart=>exact⟨0,by omega,rfl,HBX,rfl⟩
     case round =>
      obtain⟨j,hj,rfl,HBQ,HRQ⟩:=hrel
      by_cases hjl:j < rs.length
      ·have hjl':(j:Int) < (rs.length:Int):=by omega
       have hjx:(j:Int)+1≤9223372036854775807:=by have h1:=HRL.out.1; have h2:=HRL.out.2.1; rw [List.length_map] at h1; omega
       obtain⟨b7,o7,ea7,hat7⟩:=(HRL.out.on (mapz RuleM.sz _) (below2 HB4.out HBQ.out)).2.2 j (by rw [List.length_map]; exact hjl)
       simp only [List.getElem_map] at hat7
       have HMQ:Hid (rs[j] ∈ rs):=List.getElem_mem hjl
       have HCQ:Hid (rusE L S2 S3 rs=rusE L S2 S3 (rs[j] :: rs.drop (j+1))):=by show _=_; rw [HRQ.out,List.drop_eq_getElem_cons hjl]
       obtain⟨q,eq⟩:∃ q,rs[j]=q:=⟨_,rfl⟩
       rw [eq] at hat7 HCQ HMQ
       have HRG7:Hid (wr.rangeAt b7 (o7+j * 10) q.vals.toList):=fun j v hv=>by
        have hj:j < 10:=(List.getElem?_eq_some_iff.1 hv).1
        rw [hat7 j hj,← hv]; simp
       have HZ7:Hid ((wr.alloc (.cells #[zU 0,zU 0,zU 0,zI 0,zU 0,.string ⟨#[]⟩,.slice none 0 0,zI 0,.slice none 0 0,zI 0] 92)).heap[wr§]? = some (.cells #[zU 0,zU 0,zU 0,zI 0,zU 0,.string ⟨#[]⟩,.slice none 0 0,zI 0,.slice none 0 0,zI 0] 92 (0,0))):=heap_new _ _
       have hbx7:Below wr§ wr ((wr.alloc (.cells #[zU 0,zU 0,zU 0,zI 0,zU 0,.string ⟨#[]⟩,.slice none 0 0,zI 0,.slice none 0 0,zI 0] 92)).setRow wr§ q.vals):=below_row (below_new _ _) (Nat.le_refl _) _
       have HBX7:Hid (Below WK§ WK ((wr.alloc (.cells #[zU 0,zU 0,zU 0,zI 0,zU 0,.string ⟨#[]⟩,.slice none 0 0,zI 0,.slice none 0 0,zI 0] 92)).setRow wr§ q.vals)):=below2 HBQ.out hbx7
       have HNX7:Hid (((wr.alloc (.cells #[zU 0,zU 0,zU 0,zI 0,zU 0,.string ⟨#[]⟩,.slice none 0 0,zI 0,.slice none 0 0,zI 0] 92)).setRow wr§ q.vals).heap[wr§]? = some (.cells q.vals 92 (0,0))):=setRow_heap _ _ _ _ _ _ HZ7.out
       subst ea7
       clear hat7 eq hbx7 HRQ HBQ
       go_upto_region 13 with (first | (refine wpList_load_mid rfl 92 (.tmp 37) rfl b7 (o7+j * 10) rfl q.vals.toList _ HRG7.out Tryz.underlying92 rfl (by show _=some 10; exact size106') ?_; rw [Array.toArray_toList]) | (refine wpList_store_row rfl 92 (.tmp 9) (.tmp 38) rfl wr§ q.vals rfl rfl 92 #[zU 0,zU 0,zU 0,zI 0,zU 0,.string ⟨#[]⟩,.slice none 0 0,zI 0,.slice none 0 0,zI 0] HZ7.out size106' rfl (all10' q) ?_))
       generalize hWQ:World.setRow _ _ _=WQ
       rw [hWQ] at HBX7 HNX7
       clear hWQ HZ7 HRG7
       have hwq:=below2 HB4.out HBX7.out
       have hkq:=(HBX7.out.block _ (Array.getElem?_eq_some_iff.1 HN4.out).1).trans HN4.out
       have k0:WQ.cell? ⟨M4,0,none⟩=some (.map (some b)):=cell_of hkq 0
       have k1:WQ.cell? ⟨M4,1,none⟩=some (.map (some b2)):=cell_of hkq 1
       have k2:WQ.cell? ⟨M4,2,none⟩=some (.map (some b3)):=cell_of hkq 2
       have cC:Calls zG 33 #[.agg #[.map (some b),.map (some b2),.map (some b3)],.agg q.vals] WQ (OutC WQ (ruE L S2 S3 q)):=checkRule_any b b2 b3 L S2 S3 q WQ (HK4.out.on HBX7.out) (HH.out.2.1.on hwq) (HH.out.2.2.on hwq) ((HRS.out q HMQ.out).1.on hwq) (HRS.out q HMQ.out).2
       clear hwq hkq
       go_wp2_with (refine wpList_load_row rfl 92 (.tmp 9) rfl wr§ rfl 92 q.vals (0,0) _ HNX7.out Tryz.underlying92 rfl size106' ?_)
       refine cC.mono ?_
       rintro e w8 (⟨hn,rfl,hb8⟩ | ⟨p,no,T,v,hn,rfl,her,hb8⟩)
       ·have HB8:Hid (Below WK§ WK w8):=below2 HBX7.out hb8
        have HN8:Hid (rusE L S2 S3 rs=rusE L S2 S3 (rs.drop (j+1))):=HCQ.out.trans (rusE_none hn)
        clear cC hb8 hn k0 k1 k2
        go_wp2_with fail
        exact⟨⟨j+1,hjl,rfl,HB8,HN8⟩,by simp only [intOf]; omega⟩
       ·have HB8:Hid (Below w§ w w8∧Er w8 (.iface T v) no p):=⟨below2 HB4.out (below2 HBX7.out hb8),her⟩
        have HD:Hid (R=some (p,no)):=HC2.out _ (HCQ.out.trans (rusE_some hn))
        clear cC hb8 hn her k0 k1 k2
        go_wp2_with fail
        go_ret
        exact .inr ⟨p,no,T,v,ER.out.trans HD.out,rfl,HB8.out.2,HB8.out.1⟩
      ·obtain rfl:j=rs.length:=by omega
       have hnot:¬ (rs.length:Int) < (rs.length:Int):=by omega
       have HN0:Hid (R=stsE L S2 S3 (ts.drop (i+1))):=HC3.out (by rw [HRQ.out,List.drop_length]; rfl)
       clear HRQ
       go_wp2_with fail
       exact⟨⟨i+1,hlt,rfl,HBQ,HN0⟩,by simp only [intOf]; omega⟩
    ·obtain rfl:i=ts.length:=by omega
     have hnot:¬ (ts.length:Int) < (ts.length:Int):=by omega
     have HD:Hid (R=none):=by show _=_; rw [HR.out,List.drop_length]; rfl
     clear HR
     go_wp2_with fail
     go_ret
     exact .inl ⟨ER.out.trans HD.out,rfl,below2 HB4.out HBR.out⟩
 ·have hE:(E == 0)=false:=by simpa using h0
  have HF:Hid (chkE S=some (0,E)):=by show _=_; unfold chkE; rw [HE.out,if_neg h0]
  clear h0 g
  go_wp2_with fail
  refine (wrong_any _ _ _).mono ?_
  rintro e w7 ⟨rfl,hf7,hb7⟩
  have HB7:Hid (Below w§ w w7∧Er w7 (.iface 118 (zP w2§)) E 0):=⟨below2 HB2.out hb7,hf7.er⟩
  clear hb7 hf7
  go_wp2_with fail
  go_ret
  exact .inr ⟨0,E,_,_,HF.out,rfl,HB7.out.2,HB7.out.1⟩
set_option maxRecDepth 100000 in
set_option maxHeartbeats 4000000 in
theorem regs_any (r:StratM) (w:World) (hl:StratL w r):Calls zG 42 #[.agg r.vals] w fun e w'=>∃ b,e=.returned (.map (some b))∧w§≤b∧RgM w' b (regL r.rs)∧Below w§ w w':=by
 have hb1:=below_new w (.cells r.vals 27)
 have hn1:=heap_new w (.cells r.vals 27)
 have hs1:=size_alloc w (.cells r.vals 27)
 obtain⟨W1,e1⟩:∃ W,w.alloc (.cells r.vals 27)=W:=⟨_,rfl⟩
 have E1:Hid (w.alloc (.cells r.vals 27)=W1):=e1
 rw [e1] at hb1 hn1 hs1
 have hb2:=below_new W1 (.map #[] 0)
 have hm2:=RgN.made W1
 have hk2:=(hb2.block _ (Array.getElem?_eq_some_iff.1 hn1).1).trans hn1
 have hbw:=below2 hb1 hb2
 rw [hs1] at hm2
 have HS1:Hid (W1§=w§+1):=hs1
 obtain⟨W2,e2⟩:∃ W,W1.alloc (.map #[] 0)=W:=⟨_,rfl⟩
 have E2:Hid (W1.alloc (.map #[] 0)=W2):=e2
 rw [e2] at hm2 hk2 hbw
 have HSL:Hid (SlAt w 11 r.ra r.rc (r.rs.map RegM.vals)):=hl.1
 have HRL:Hid (∀ d ∈ r.rs,RegL w d):=hl.2.1
 have HM2:Hid (RgN W2 (w§+1) 0 (regL [])):=hm2
 have HBW:Hid (Below w§ w W2):=hbw
 obtain⟨ds,eds⟩:∃ ds,r.rs=ds:=⟨_,rfl⟩
 have q1:W2.cell? ⟨w§,1,none⟩=some (.slice r.ra ds.length r.rc):=by rw [← eds]; exact cell_of hk2 1
 rw [eds] at HSL HRL ⊢
 obtain⟨ra,era⟩:∃ q,r.ra=q:=⟨_,rfl⟩
 rw [era] at HSL q1
 clear hb1 hn1 hs1 hb2 hm2 hk2 hbw e1 e2 eds era hl
 have hmk:∀ w:World,Sem.run Tryz.prog (Instr.makeMap 83 none) w=.ok (.map (some w§)) (w.alloc (.map #[] 0)):=fun w=>by first | rfl | exact run_makeMap _ _ _ | simp [run_makeMap]
 go_enter Tryz.func42,Tryz.ntmps42
 go_upto_region 2 with fail
 try rw [E1.out]
 try rw [HS1.out]
 try rw [E2.out]
 go_wp2_with fail
 clear E1 E2 HS1
 go_loopw [5,6,7,12] (fun t5 t6 t7 t wr=>∃ i:Nat,i≤ds.length∧t=zI i∧Below w§ w wr∧Hid (RgN wr (w§+1) i (regL (ds.take i)))) (fun t5 t6 t7 t _=>ds.length - (intOf t).toNat)
 case atStart=>exact⟨0,by omega,rfl,HBW.out,HM2.out⟩
 case round =>
  obtain⟨i,hi,rfl,hbr,HR⟩:=hrel
  have HBR:Hid (Below w§ w wr):=hbr
  clear hbr
  by_cases hlt:i < ds.length
  ·have hlt':(i:Int) < (ds.length:Int):=by omega
   have hlen:ds.length≤9223372036854775807:=by have h1:=HSL.out.1; have h2:=HSL.out.2.1; rw [List.length_map] at h1; omega
   have hmx:(i:Int)+1≤9223372036854775807:=by omega
   have hn:i < maxLen:=by unfold maxLen; omega
   obtain⟨b,o,ea,hat⟩:=(HSL.out.on (mapz RegM.sz _) HBR.out).2.2 i (by rw [List.length_map]; exact hlt)
   simp only [List.getElem_map] at hat
   have HMEM:Hid (ds[i] ∈ ds):=List.getElem_mem hlt
   have HTK:Hid (ds.take (i+1)=ds.take i ++ [ds[i]]):=by show _=_; simp
   obtain⟨d,ed⟩:∃ d,ds[i]=d:=⟨_,rfl⟩
   rw [ed] at hat HTK HMEM
   have HRG:Hid (wr.rangeAt b (o+i * 11) d.vals.toList):=fun j v hv=>by
    have hj:j < 11:=(List.getElem?_eq_some_iff.1 hv).1
    rw [hat j hj,← hv]; simp
   have HZ:Hid ((wr.alloc (.cells #[.string ⟨#[]⟩,zU 0,zU 0,zU 0,zU 0,zI 0,zU 0,.string ⟨#[]⟩,.slice none 0 0,zI 0,zI 0] 62)).heap[wr§]? = some (.cells #[.string ⟨#[]⟩,zU 0,zU 0,zU 0,zU 0,zI 0,zU 0,.string ⟨#[]⟩,.slice none 0 0,zI 0,zI 0] 62 (0,0))):=heap_new _ _
   have hbx:Below wr§ wr ((wr.alloc (.cells #[.string ⟨#[]⟩,zU 0,zU 0,zU 0,zU 0,zI 0,zU 0,.string ⟨#[]⟩,.slice none 0 0,zI 0,zI 0] 62)).setRow wr§ d.vals):=below_row (below_new _ _) (Nat.le_refl _) _
   have HBX:Hid (Below w§ w ((wr.alloc (.cells #[.string ⟨#[]⟩,zU 0,zU 0,zU 0,zU 0,zI 0,zU 0,.string ⟨#[]⟩,.slice none 0 0,zI 0,zI 0] 62)).setRow wr§ d.vals)):=below2 HBR.out hbx
   have HNX:Hid (((wr.alloc (.cells #[.string ⟨#[]⟩,zU 0,zU 0,zU 0,zU 0,zI 0,zU 0,.string ⟨#[]⟩,.slice none 0 0,zI 0,zI 0] 62)).setRow wr§ d.vals).heap[wr§]? = some (.cells d.vals 62 (0,0))):=setRow_heap _ _ _ _ _ _ HZ.out
   have HMX:Hid (RgN ((wr.alloc (.cells #[.string ⟨#[]⟩,zU 0,zU 0,zU 0,zU 0,zI 0,zU 0,.string ⟨#[]⟩,.slice none 0 0,zI 0,zI 0] 62)).setRow wr§ d.vals) (w§+1) i (regL (ds.take i))):=HR.out.on hbx
   obtain⟨A,eA⟩:∃ A,ra=A:=⟨_,rfl⟩
   rw [eA] at ea ⊢
   subst ea
   clear hat ed hbx HR hlen
   go_upto_region 5 with (first | (refine wpList_load_mid rfl 62 (.tmp 14) rfl b (o+i * 11) rfl d.vals.toList _ HRG.out Tryz.underlying62 rfl (by show _=some 11; exact size100') ?_; rw [Array.toArray_toList]) | (refine wpList_store_row rfl 62 (.tmp 5) (.tmp 15) rfl wr§ d.vals rfl rfl 62 #[.string ⟨#[]⟩,zU 0,zU 0,zU 0,zU 0,zI 0,zU 0,.string ⟨#[]⟩,.slice none 0 0,zI 0,zI 0] HZ.out size100' rfl (all11 d) ?_))
   generalize hWX:World.setRow _ _ _=WX
   rw [hWX] at HBX HNX HMX
   clear hWX HZ HRG
   have c0:WX.cell? ⟨wr§,0,none⟩=some (.string d.x):=cell_of HNX.out 0
   have c1:WX.cell? ⟨wr§,1,none⟩=some (zU d.t):=cell_of HNX.out 1
   have hrl:=HRL.out d HMEM.out
   have hx:d.x.size≤maxLen:=by have h1:=hrl.2.2.2; unfold SzX at h1; unfold maxLen; omega
   have hwf:(Lit.int .u8 d.t).wf=true:=by have h1:=hrl.2.1; unfold B8 at h1; rw [show (Lit.int .u8 d.t).wf=(decide ((0:Int)≤d.t) && decide (d.t≤255)) from rfl,decide_eq_true h1.1,decide_eq_true h1.2]; rfl
   have hkey:=WideMaps.keyOf_string_mk (P:=Tryz.prog) Tryz.underlying9 hx
   obtain⟨D,hown,hL⟩:=HMX.out
   have hh:=(hL d.x hx).1
   cases eL:regL (ds.take i) d.x with
   | some t =>
    have HM3:Hid (RgN WX (w§+1) (i+1) (regL (ds.take (i+1)))):=by show RgN _ _ _ _; rw [HTK.out]; exact HMX.out.same (by rw [eL]; rfl)
    rw [eL] at hh
    simp only [Option.isSome_some] at hh
    clear hL eL hrl
    go_wp2_with (at_lookup; refine wpList_lookup_own_ok_int _ rfl _ _ 83 rfl 9 44 .u8 law9 Tryz.underlying83 Tryz.underlying44 (zero34 _) (w§+1) i D rfl hown _ _ rfl hkey ?_; intro cc hat hwc)
    exact⟨⟨i+1,hlt,rfl,HBX.out,HM3.out⟩,by simp only [intOf]; omega⟩
   | none =>
    rw [eL] at hh
    simp only [Option.isSome_none] at hh
    have HP:Hid (∀ w1:World,w1.ownsMap Tryz.prog 9 (plainElem Tryz.prog 44) (w§+1) (i+1) (D.put (.string d.x.data.toList) (.lit (.int .u8 d.t)))→RgN w1 (w§+1) (i+1) (regL (ds.take (i+1)))):=fun w1 h1=>by rw [HTK.out]; exact RgN.put hown hL eL h1
    clear hL eL hrl
    go_wp2_with (first | (at_lookup; refine wpList_lookup_own_ok_int _ rfl _ _ 83 rfl 9 44 .u8 law9 Tryz.underlying83 Tryz.underlying44 (zero34 _) (w§+1) i D rfl hown _ _ rfl hkey ?_; intro cc hat hwc) | (at_mapUpdate; refine wpList_mapUpdate_own _ rfl _ _ _ 83 rfl 9 44 law9 Tryz.underlying83 _ (w§+1) i D rfl hown hn _ _ _ rfl rfl hkey _ [] (plainElem_int Tryz.underlying44 hwf) ?_; intro w1 hown1 hgrow1))
    exact⟨⟨i+1,hlt,rfl,HBX.out.grown hgrow1 HBX.out.size (fun k hk=>by cases hk; omega),HP.out w1 hown1⟩,by simp only [intOf]; omega⟩
  ·obtain rfl:i=ds.length:=by omega
   have hnot:¬ (ds.length:Int) < (ds.length:Int):=by omega
   have HM:Hid (RgM wr (w§+1) (regL ds)):=by have h1:=HR.out; rw [List.take_length] at h1; exact h1.m
   clear HR
   go_wp2_with fail
   go_ret
   exact⟨_,rfl,by omega,HM.out,HBR.out⟩
def ofE (r:StratM) (m:Nd):Except (Int × Int) Int:=if cE m=0 then tyR (regL r.rs) m else .error (0,cE m)
set_option maxRecDepth 100000 in
set_option maxHeartbeats 4000000 in
theorem of_any (r:StratM) (m:Nd) (w:World) (hl:StratL w r) (hm:Lies w m) (hz:size m≤1000000000000) (ht:Tab w) (hf:FTab w):Calls zG 16 #[.agg r.vals,.agg m.vals] w (OutT w (ofE r m)):=by
 have hb1:=below_new w (.cells #[.string r.x,.slice r.ra r.rs.length r.rc,.slice r.sa r.ss.length r.sc,.slice r.ta r.ts.length r.tc] 27)
 have hn1:=heap_new w (.cells #[.string r.x,.slice r.ra r.rs.length r.rc,.slice r.sa r.ss.length r.sc,.slice r.ta r.ts.length r.tc] 27)
 have hs1:=size_alloc w (.cells #[.string r.x,.slice r.ra r.rs.length r.rc,.slice r.sa r.ss.length r.sc,.slice r.ta r.ts.length r.tc] 27)
 obtain⟨W1,e1⟩:∃ W,w.alloc (.cells #[.string r.x,.slice r.ra r.rs.length r.rc,.slice r.sa r.ss.length r.sc,.slice r.ta r.ts.length r.tc] 27)=W:=⟨_,rfl⟩
 have E1:Hid (w.alloc (.cells #[.string r.x,.slice r.ra r.rs.length r.rc,.slice r.sa r.ss.length r.sc,.slice r.ta r.ts.length r.tc] 27)=W1):=e1
 rw [e1] at hb1 hn1 hs1
 have hb2:=below_new W1 (.cells #[zU m.h.k,zU m.h.o,zU m.h.t,zI m.h.n,zU m.h.f,.string m.h.x,.slice m.a m.ks.length m.c,zI m.h.p] 48)
 have hn2:=heap_new W1 (.cells #[zU m.h.k,zU m.h.o,zU m.h.t,zI m.h.n,zU m.h.f,.string m.h.x,.slice m.a m.ks.length m.c,zI m.h.p] 48)
 have hk2:=(hb2.block _ (Array.getElem?_eq_some_iff.1 hn1).1).trans hn1
 have hbw:=below2 hb1 hb2
 rw [hs1] at hn2
 have HS1:Hid (W1§=w§+1):=hs1
 obtain⟨W2,e2⟩:∃ W,W1.alloc (.cells #[zU m.h.k,zU m.h.o,zU m.h.t,zI m.h.n,zU m.h.f,.string m.h.x,.slice m.a m.ks.length m.c,zI m.h.p] 48)=W:=⟨_,rfl⟩
 have E2:Hid (W1.alloc (.cells #[zU m.h.k,zU m.h.o,zU m.h.t,zI m.h.n,zU m.h.f,.string m.h.x,.slice m.a m.ks.length m.c,zI m.h.p] 48)=W2):=e2
 rw [e2] at hn2 hk2 hbw
 have HB:Hid (Below w§ w W2):=hbw
 have HK:Hid (W2.heap[w§]? = some (.cells #[.string r.x,.slice r.ra r.rs.length r.rc,.slice r.sa r.ss.length r.sc,.slice r.ta r.ts.length r.tc] 27 (0,0))):=hk2
 have HN:Hid (W2.heap[w§+1]? = some (.cells #[zU m.h.k,zU m.h.o,zU m.h.t,zI m.h.n,zU m.h.f,.string m.h.x,.slice m.a m.ks.length m.c,zI m.h.p] 48 (0,0))):=hn2
 have HH:Hid (StratL w r∧Lies w m∧FTab w):=⟨hl,hm,hf⟩
 have cC:Calls zG 40 #[.agg #[zU m.h.k,zU m.h.o,zU m.h.t,zI m.h.n,zU m.h.f,.string m.h.x,.slice m.a m.ks.length m.c,zI m.h.p]] W2 fun e w'=>e=.returned (zI (cE m))∧Below W2§ W2 w':=checkExpr_any m W2 (hm.on hbw) hz (ht.on hbw)
 have c0:W2.cell? ⟨w§+1,0,none⟩=some (zU m.h.k):=cell_of hn2 0
 have c1:W2.cell? ⟨w§+1,1,none⟩=some (zU m.h.o):=cell_of hn2 1
 have c2:W2.cell? ⟨w§+1,2,none⟩=some (zU m.h.t):=cell_of hn2 2
 have c3:W2.cell? ⟨w§+1,3,none⟩=some (zI m.h.n):=cell_of hn2 3
 have c4:W2.cell? ⟨w§+1,4,none⟩=some (zU m.h.f):=cell_of hn2 4
 have c5:W2.cell? ⟨w§+1,5,none⟩=some (.string m.h.x):=cell_of hn2 5
 have c6:W2.cell? ⟨w§+1,6,none⟩=some (.slice m.a m.ks.length m.c):=cell_of hn2 6
 have c7:W2.cell? ⟨w§+1,7,none⟩=some (zI m.h.p):=cell_of hn2 7
 obtain⟨E,eE⟩:∃ E,cE m=E:=⟨_,rfl⟩
 have HE:Hid (cE m=E):=eE
 rw [eE] at cC
 clear hb1 hn1 hs1 hb2 hk2 hn2 hbw hl hm ht hf e1 e2 eE hz
 show Calls zG 16 #[.agg #[.string r.x,.slice r.ra r.rs.length r.rc,.slice r.sa r.ss.length r.sc,.slice r.ta r.ts.length r.tc],.agg #[zU m.h.k,zU m.h.o,zU m.h.t,zI m.h.n,zU m.h.f,.string m.h.x,.slice m.a m.ks.length m.c,zI m.h.p]] w _
 go_enter Tryz.func16,Tryz.ntmps16
 go_upto_region 1 with fail
 rw [E1.out,E2.out]
 try rw [HS1.out]
 clear E1 E2 HS1
 go_wp2_with fail
 refine cC.mono ?_
 rintro e w3 ⟨rfl,hb3⟩
 have HB3:Hid (Below w§ w w3):=below2 HB.out hb3
 have HK3:Hid (w3.heap[w§]? = some (.cells #[.string r.x,.slice r.ra r.rs.length r.rc,.slice r.sa r.ss.length r.sc,.slice r.ta r.ts.length r.tc] 27 (0,0))):=(hb3.block _ (Array.getElem?_eq_some_iff.1 HK.out).1).trans HK.out
 have HN3:Hid (w3.heap[w§+1]? = some (.cells #[zU m.h.k,zU m.h.o,zU m.h.t,zI m.h.n,zU m.h.f,.string m.h.x,.slice m.a m.ks.length m.c,zI m.h.p] 48 (0,0))):=(hb3.block _ (Array.getElem?_eq_some_iff.1 HN.out).1).trans HN.out
 clear cC hb3 c0 c1 c2 c3 c4 c5 c6 c7 HK HN HB
 by_cases h0:E=0
 ·subst h0
  have HF:Hid (ofE r m=tyR (regL r.rs) m):=if_pos HE.out
  have HO:Hid (OkT m):=okT_cE HE.out
  go_upto_region 4 with fail
  refine wp_region_held_drew (S:=fun v=>Below w3§ w3 v) zK ⟨rfl,rfl,rfl,Nat.le_refl _,fun _ _=>rfl⟩ (fun hHeld=>?_)
  refine wpAnyH_take (i:=0) (v:=?_) rfl zK zK zK (fun _ _ _ h=>h) (Or.inl ⟨by rfl,?_⟩) (by assumption) ?_
  rotate_left
  ·(intro v hv; have g:=(hv.block _ (Array.getElem?_eq_some_iff.1 HK3.out).1).trans HK3.out; have t0:=cell_of g 0; have t1:=cell_of g 1; have t2:=cell_of g 2; have t3:=cell_of g 3; clear g; go_simp; try (with_reducible rfl))
  try simp [Act.put]
  refine wpAnyH_take (i:=2) (v:=?_) rfl zK zK zK (fun _ _ _ h=>h) (Or.inl ⟨by rfl,?_⟩) (by assumption) ?_
  rotate_left
  ·(intro v hv; have g:=(hv.block _ (Array.getElem?_eq_some_iff.1 HN3.out).1).trans HN3.out; have t0:=cell_of g 0; have t1:=cell_of g 1; have t2:=cell_of g 2; have t3:=cell_of g 3; have t4:=cell_of g 4; have t5:=cell_of g 5; have t6:=cell_of g 6; have t7:=cell_of g 7; clear g; go_simp; try (with_reducible rfl))
  try simp [Act.put]
  have hb4:Below w3§ w3 w3.drew:=⟨rfl,rfl,rfl,Nat.le_refl _,fun _ _=>rfl⟩
  have cR:Calls zG 42 #[.agg #[.string r.x,.slice r.ra r.rs.length r.rc,.slice r.sa r.ss.length r.sc,.slice r.ta r.ts.length r.tc]] w3.drew fun e w'=>∃ b,e=.returned (.map (some b))∧w3.drew§≤b∧RgM w' b (regL r.rs)∧Below w3.drew§ w3.drew w':=regs_any r w3.drew (HH.out.1.on (below2 HB3.out hb4))
  have HB4:Hid (Below w3§ w3 w3.drew):=hb4
  clear hb4
  refine wpAnyH_ready (rs:=[1]) zK (by simp) ?_
  refine AllReadyH.cons rfl (fun K hK=>?_) AllReadyH.nil
  go_simp
  refine cR.mono ?_
  rintro e w5 ⟨bm,rfl,hle,hrm,hb5⟩
  have HB5:Hid (Below w3§ w3 w5):=below2 HB4.out hb5
  have hbw:=below2 HB3.out HB5.out
  have cT:∀ v,Below w5§ w5 v→Calls zG 43 #[.map (some bm),.agg #[zU m.h.k,zU m.h.o,zU m.h.t,zI m.h.n,zU m.h.f,.string m.h.x,.slice m.a m.ks.length m.c,zI m.h.p]] v (OutT v (tyR (regL r.rs) m)):=fun v hv=>typ_any bm (regL r.rs) m v (hrm.on hv) ((HH.out.2.2.on hbw).on hv) ((HH.out.2.1.on hbw).on hv) HO.out
  clear hle hrm hb5 hbw cR
  refine hK.out _ _ HB5.out (fun hHeld=>?_)
  clear hK K
  try simp [Act.put]
  refine wpAnyH_ready (rs:=[3]) zK (by simp) ?_
  refine AllReadyH.cons rfl (fun K hK=>?_) AllReadyH.nil
  go_simp
  refine (cT _ (by first | exact Below.refl _ _ | exact⟨rfl,rfl,rfl,Nat.le_refl _,fun _ _=>rfl⟩)).mono ?_
  rintro e w6 (⟨t,h1,rfl,hb6⟩ | ⟨p,no,b5,h1,rfl,h3,h4,hb6⟩)
  ·have HB6:Hid (Below w§ w w6):=below2 (below2 HB3.out HB5.out) hb6
   have HR:Hid (ofE r m=.ok t):=HF.out.trans h1
   refine hK.out _ _ (below2 HB5.out hb6) (fun hHeld=>?_)
   clear hK K cT h1 hb6
   try simp [Act.put]
   refine wpAnyH_take (i:=4) (v:=?_) rfl zK zK zK (fun _ _ _ h=>h) (Or.inl ⟨by rfl,?_⟩) (by assumption) ?_
   rotate_left
   ·(intro v hv; go_simp; try (with_reducible rfl))
   try simp [Act.put]
   refine wpAnyH_take (i:=5) (v:=?_) rfl zK zK zK (fun _ _ _ h=>h) (Or.inl ⟨by rfl,?_⟩) (by assumption) ?_
   rotate_left
   ·(intro v hv; go_simp; try (with_reducible rfl))
   try simp [Act.put]
   refine wpAnyH_take (i:=6) (v:=?_) rfl zK zK zK (fun _ _ _ h=>h) (Or.inl ⟨by rfl,?_⟩) (by assumption) ?_
   rotate_left
   ·(intro v hv; go_simp; try (with_reducible rfl))
   try simp [Act.put]
   refine wpAnyH_take (i:=7) (v:=?_) rfl zK zK zK (fun _ _ _ h=>h) (Or.inl ⟨by rfl,?_⟩) (by assumption) ?_
   rotate_left
   ·(intro v hv; go_simp; try (with_reducible rfl))
   try simp [Act.put]
   refine wpAnyH_done zK ?_ _
   go_wp2_with fail
   go_ret2
   exact .inl ⟨t,HR.out,rfl,by have h1:=HB6.out; exact⟨h1.os,h1.tape,h1.output,h1.size,h1.block⟩⟩
  ·have HB6:Hid (Below w§ w w6∧FlAt w6 b5 Zb p no∧w§≤b5):=⟨below2 (below2 HB3.out HB5.out) hb6,h4,by have h1:=HB3.out.size; have h2:=HB5.out.size; omega⟩
   have HR:Hid (ofE r m=.error (p,no)):=HF.out.trans h1
   refine hK.out _ _ (below2 HB5.out hb6) (fun hHeld=>?_)
   clear hK K cT h1 h3 h4 hb6
   try simp [Act.put]
   refine wpAnyH_take (i:=4) (v:=?_) rfl zK zK zK (fun _ _ _ h=>h) (Or.inl ⟨by rfl,?_⟩) (by assumption) ?_
   rotate_left
   ·(intro v hv; go_simp; try (with_reducible rfl))
   try simp [Act.put]
   refine wpAnyH_take (i:=5) (v:=?_) rfl zK zK zK (fun _ _ _ h=>h) (Or.inl ⟨by rfl,?_⟩) (by assumption) ?_
   rotate_left
   ·(intro v hv; go_simp; try (with_reducible rfl))
   try simp [Act.put]
   refine wpAnyH_take (i:=6) (v:=?_) rfl zK zK zK (fun _ _ _ h=>h) (Or.inl ⟨by rfl,?_⟩) (by assumption) ?_
   rotate_left
   ·(intro v hv; go_simp; try (with_reducible rfl))
   try simp [Act.put]
   refine wpAnyH_take (i:=7) (v:=?_) rfl zK zK zK (fun _ _ _ h=>h) (Or.inl ⟨by rfl,?_⟩) (by assumption) ?_
   rotate_left
   ·(intro v hv; go_simp; try (with_reducible rfl))
   try simp [Act.put]
   refine wpAnyH_done zK ?_ _
   go_wp2_with fail
   go_ret2
   exact .inr ⟨p,no,b5,HR.out,rfl,HB6.out.2.2,HB6.out.2.1,by have h1:=HB6.out.1; exact⟨h1.os,h1.tape,h1.output,h1.size,h1.block⟩⟩
 ·have h1:(E == 0)=false:=by simpa using h0
  have HF:Hid (ofE r m=.error (0,E)):=by show _=_; unfold ofE; rw [HE.out,if_neg h0]
  clear h0
  go_wp2_with fail
  refine (untyped_any _ _ _).mono ?_
  rintro e w7 ⟨rfl,hf7,hb7⟩
  have HB7:Hid (Below w§ w w7∧FlAt w7 w3§ Zb 0 E∧w§≤w3§):=⟨below2 HB3.out hb7,hf7,HB3.out.size⟩
  clear hb7 hf7
  go_wp2_with fail
  go_ret2
  exact .inr ⟨0,E,w3§,HF.out,rfl,HB7.out.2.2,HB7.out.2.1,HB7.out.1⟩
end Go.Proofs.YtoogodlnnijikaaGreatDoor
