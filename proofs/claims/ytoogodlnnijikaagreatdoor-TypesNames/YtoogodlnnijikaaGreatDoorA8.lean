import Derived.Test.YtoogodlnnijikaaGreatDoorA0
import Derived.Test.YtoogodlnnijikaaGreatDoorA7
import Derived.Test.YtoogodlnnijikaaGreatDoorA1
import Derived.Deep.QuietTactic
import Derived.BigQuiet
import Derived.Below
import Derived.WalkKit
import Derived.ProofKit
import Derived.OwnWalk
import Derived.WalkSmall
import Derived.Outline
import Derived.Test.YtoogodlnnijikaaGreatDoorA6
import Derived.Deep.AppendLies
import Derived.Deep.RegionLaw
import Derived.Test.YtoogodlnnijikaaGreatDoorA2
import Derived.Deep.RegionHeld3
namespace Go.Proofs.YtoogodlnnijikaaGreatDoor
set_option maxHeartbeats 4000000
set_option maxRecDepth 100000
open Go.RowKit
theorem below2of (w:yW) (m k:Nd):NdH ((w.alloc (.cells m.vals 48)).alloc (.cells k.vals 48)) w§ m∧NdH ((w.alloc (.cells m.vals 48)).alloc (.cells k.vals 48)) (w§+1) k:=by
 refine⟨QI (Qd _ _) (by rw [Qf]; omega),?_⟩
 unfold NdH
 rw [← Qf w (.cells m.vals 48)]; exact Qd _ _
theorem same_any:∀ (m k:Nd) (w:yW),Lies w m→Lies w k→Calls zG 191 #[.agg m.vals,.agg k.vals] w fun e w'=>e=.returned (.bool (J7 m k))∧yD w w':=by
 refine Nd.ind fun g a c js ih k w hl hk=>?_
 have cE:∀ v,yD w v→Calls zG 194 #[.slice a js.length c,.slice k.a k.ks.length k.c,.func (.func 191) #[] #[]] v fun e w'=>e=.returned (.bool (decide (js.length=k.ks.length) && Js js k.ks))∧yD v w':=fun v hv=>by
  obtain⟨h,b,d,ks⟩:=k
  exact eqf_any js ks a b c d hl.cap hl.max (fun j hj k w h1 h2=>ih j hj k w h1 h2) g h v (hl.on hv) (hk.on hv)
 obtain⟨m,em⟩:∃ m,Nd.mk g a c js=m:=⟨_,rfl⟩
 have HS:Hid (J7 m k=(JZ m.h k.h && (decide (m.ks.length=k.ks.length) && Js m.ks k.ks))):=by show _=_; rw [← em]; rfl
 have cE:∀ v,yD w v→Calls zG 194 #[.slice m.a m.ks.length m.c,.slice k.a k.ks.length k.c,.func (.func 191) #[] #[]] v fun e w'=>e=.returned (.bool (decide (m.ks.length=k.ks.length) && Js m.ks k.ks))∧yD v w':=by rw [← em]; exact cE
 rw [em]
 clear em ih hl hk
 have cS:∀ v,Calls zG 142 #[.agg (zV m)] v fun e w'=>e=.returned (.agg #[zU m.h.k,zU m.h.o,zU m.h.t,zI m.h.n,zU m.h.f,.string m.h.x])∧yD v w':=fun v=>selfOf_any m.h m.a m.ks.length m.c v
 have cT:∀ v,Calls zG 142 #[.agg (zV k)] v fun e w'=>e=.returned (.agg #[zU k.h.k,zU k.h.o,zU k.h.t,zI k.h.n,zU k.h.f,.string k.h.x])∧yD v w':=fun v=>selfOf_any k.h k.a k.ks.length k.c v
 obtain⟨B,eB⟩:∃ B,(decide (m.ks.length=k.ks.length) && Js m.ks k.ks)=B:=⟨_,rfl⟩
 simp only [eB] at cE
 rw [eB] at HS
 obtain⟨A,eA⟩:∃ A,JZ m.h k.h=A:=⟨_,rfl⟩
 have HA:Hid (JZ m.h k.h=A):=eA
 rw [eA] at HS
 clear eB eA
 obtain⟨X,eX⟩:∃ X,(w.alloc (.cells m.vals 48)).alloc (.cells k.vals 48)=X:=⟨_,rfl⟩
 have HKX:Hid (KK X w§ (w§+1) m k):=by rw [← eX]; exact⟨(below2of w m k).1,(below2of w m k).2⟩
 have HBX:Hid (yD w X):=by rw [← eX]; exact Ql _ _ _
 unfold Nd.vals hdA at eX
 show Calls zG 191 #[.agg (zV m),.agg (zV k)] w _
 go_enter Tryz.func191,Tryz.ntmps191
 go_wp2_with fail
 clear eX
 cases A with
 | true =>
  have hs:=alike_eq HA.out
  unfold J6 at hs
  simp only [hs] at cT
  clear hs
  refine wp_region_held_drew (S:=(fun v=>v.cell? w§¢0=some (zU m.h.k)∧v.cell? w§¢1=some (zU m.h.o)∧v.cell? w§¢2=some (zU m.h.t)∧v.cell? w§¢3=some (zI m.h.n)∧v.cell? w§¢4=some (zU m.h.f)∧v.cell? w§¢5=some (.string m.h.x)∧v.cell? w§¢6=some (.slice m.a m.ks.length m.c)∧v.cell? w§¢7=some (zI m.h.p)∧v.cell? ⟨(w§+1),0,none⟩=some (zU k.h.k)∧v.cell? ⟨(w§+1),1,none⟩=some (zU k.h.o)∧v.cell? ⟨(w§+1),2,none⟩=some (zU k.h.t)∧v.cell? ⟨(w§+1),3,none⟩=some (zI k.h.n)∧v.cell? ⟨(w§+1),4,none⟩=some (zU k.h.f)∧v.cell? ⟨(w§+1),5,none⟩=some (.string k.h.x)∧v.cell? ⟨(w§+1),6,none⟩=some (.slice k.a k.ks.length k.c)∧v.cell? ⟨(w§+1),7,none⟩=some (zI k.h.p)∧GB X v)) zK (HKX.out.keep (by (repeat (first | with_reducible assumption | with_reducible exact GB.refl _ | with_reducible apply GB.drew | with_reducible apply GB.alloc | with_reducible refine GB.call (by with_reducible assumption) ?_)))) (fun hHeld=>?_)
  refine wpAnyH_take (i:=0) (v:=?_) rfl zK zK zK (fun _ _ _ h=>h) (Or.inl ⟨by rfl,?_⟩) (by assumption) ?_
  rotate_left
  ·(intro w hSw; (try dsimp only at hSw); go_simp; try (with_reducible rfl))
  try simp [Act.put]
  refine wpAnyH_take (i:=2) (v:=?_) rfl zK zK zK (fun _ _ _ h=>h) (Or.inl ⟨by rfl,?_⟩) (by assumption) ?_
  rotate_left
  ·(intro w hSw; (try dsimp only at hSw); go_simp; try (with_reducible rfl))
  try simp [Act.put]
  refine wpAnyH_ready (rs:=[1]) zK (by simp) ?_
  refine AllReadyH.cons rfl (fun K hK=>?_) AllReadyH.nil
  go_simp
  refine (cS _).mono ?_
  rintro e w2 ⟨rfl,hb2⟩
  have hg2:GB X w2:=GB.call hb2 (by (repeat (first | with_reducible assumption | with_reducible exact GB.refl _ | with_reducible apply GB.drew | with_reducible apply GB.alloc | with_reducible refine GB.call (by with_reducible assumption) ?_)))
  have HG2:Hid (GB X w2):=hg2
  go_simp
  refine hK.out _ _ ?_ (fun hHeld=>?_)
  ·exact HKX.out.keep hg2
  clear hK K
  try simp [Act.put]
  refine wpAnyH_ready (rs:=[3]) zK (by simp) ?_
  refine AllReadyH.cons rfl (fun K hK=>?_) AllReadyH.nil
  go_simp
  refine (cT _).mono ?_
  rintro e w3 ⟨rfl,hb3⟩
  have hg3:GB X w3:=GB.call hb3 HG2.out
  have HG3:Hid (GB X w3):=hg3
  go_simp
  refine hK.out _ _ ?_ (fun hHeld=>?_)
  ·exact HKX.out.keep hg3
  clear hK K
  try simp [Act.put]
  refine wpAnyH_take (i:=4) (v:=?_) rfl zK zK zK (fun _ _ _ h=>h) (Or.inl ⟨by rfl,?_⟩) (by assumption) ?_
  rotate_left
  ·(intro w hSw; (try dsimp only at hSw); go_simp; try (with_reducible rfl))
  try simp [Act.put]
  refine wpAnyH_take (i:=5) (v:=?_) rfl zK zK zK (fun _ _ _ h=>h) (Or.inl ⟨by rfl,?_⟩) (by assumption) ?_
  rotate_left
  ·(intro w hSw; (try dsimp only at hSw); go_simp; try (with_reducible rfl))
  try simp [Act.put]
  refine wpAnyH_take (i:=6) (v:=?_) rfl zK zK zK (fun _ _ _ h=>h) (Or.inl ⟨by rfl,?_⟩) (by assumption) ?_
  rotate_left
  ·(intro w hSw; (try dsimp only at hSw); go_simp; try (with_reducible rfl))
  try simp [Act.put]
  refine wpAnyH_take (i:=7) (v:=?_) rfl zK zK zK (fun _ _ _ h=>h) (Or.inl ⟨by rfl,?_⟩) (by assumption) ?_
  rotate_left
  ·(intro w hSw; (try dsimp only at hSw); go_simp; try (with_reducible rfl))
  try simp [Act.put]
  refine wpAnyH_take (i:=8) (v:=?_) rfl zK zK zK (fun _ _ _ h=>h) (Or.inl ⟨by rfl,?_⟩) (by assumption) ?_
  rotate_left
  ·(intro w hSw; (try dsimp only at hSw); go_simp; try (with_reducible rfl))
  try simp [Act.put]
  refine wpAnyH_take (i:=9) (v:=?_) rfl zK zK zK (fun _ _ _ h=>h) (Or.inl ⟨by rfl,?_⟩) (by assumption) ?_
  rotate_left
  ·(intro w hSw; (try dsimp only at hSw); go_simp; try (with_reducible rfl))
  try simp [Act.put]
  refine wpAnyH_ready (rs:=[10]) zK (by simp) ?_
  refine AllReadyH.cons rfl (fun K hK=>?_) AllReadyH.nil
  go_simp
  refine (cE _ (Qs HBX.out HG3.out)).mono ?_
  rintro e w4 ⟨rfl,hb4⟩
  have hg4:GB X w4:=GB.call hb4 HG3.out
  have HG4:Hid (GB X w4):=hg4
  go_simp
  refine hK.out _ _ ?_ (fun hHeld=>?_)
  ·exact HKX.out.keep hg4
  clear hK K
  try simp [Act.put]
  refine wpAnyH_take (i:=11) (v:=?_) rfl zK zK zK (fun _ _ _ h=>h) (Or.inl ⟨by rfl,?_⟩) (by assumption) ?_
  rotate_left
  ·(intro w hSw; (try dsimp only at hSw); go_simp; try (with_reducible rfl))
  try simp [Act.put]
  refine wpAnyH_take (i:=12) (v:=?_) rfl zK zK zK (fun _ _ _ h=>h) (Or.inl ⟨by rfl,?_⟩) (by assumption) ?_
  rotate_left
  ·(intro w hSw; (try dsimp only at hSw); go_simp; try (with_reducible rfl))
  try simp [Act.put]
  refine wpAnyH_done zK ?_ _
  have HV:Hid (yD w w4):=Qs HBX.out HG4.out
  clear hHeld hb2 hb3 hg2 hg3 hb4 hg4
  go_wp2_with fail
  go_ret
  exact⟨by rw [HS.out]; cases B <;> rfl,HV.out⟩
 | false =>
  refine wp_region_held_drew (S:=(fun v=>v.cell? w§¢0=some (zU m.h.k)∧v.cell? w§¢1=some (zU m.h.o)∧v.cell? w§¢2=some (zU m.h.t)∧v.cell? w§¢3=some (zI m.h.n)∧v.cell? w§¢4=some (zU m.h.f)∧v.cell? w§¢5=some (.string m.h.x)∧v.cell? w§¢6=some (.slice m.a m.ks.length m.c)∧v.cell? w§¢7=some (zI m.h.p)∧v.cell? ⟨(w§+1),0,none⟩=some (zU k.h.k)∧v.cell? ⟨(w§+1),1,none⟩=some (zU k.h.o)∧v.cell? ⟨(w§+1),2,none⟩=some (zU k.h.t)∧v.cell? ⟨(w§+1),3,none⟩=some (zI k.h.n)∧v.cell? ⟨(w§+1),4,none⟩=some (zU k.h.f)∧v.cell? ⟨(w§+1),5,none⟩=some (.string k.h.x)∧v.cell? ⟨(w§+1),6,none⟩=some (.slice k.a k.ks.length k.c)∧v.cell? ⟨(w§+1),7,none⟩=some (zI k.h.p)∧GB X v)) zK (HKX.out.keep (by (repeat (first | with_reducible assumption | with_reducible exact GB.refl _ | with_reducible apply GB.drew | with_reducible apply GB.alloc | with_reducible refine GB.call (by with_reducible assumption) ?_)))) (fun hHeld=>?_)
  refine wpAnyH_take (i:=0) (v:=?_) rfl zK zK zK (fun _ _ _ h=>h) (Or.inl ⟨by rfl,?_⟩) (by assumption) ?_
  rotate_left
  ·(intro w hSw; (try dsimp only at hSw); go_simp; try (with_reducible rfl))
  try simp [Act.put]
  refine wpAnyH_take (i:=2) (v:=?_) rfl zK zK zK (fun _ _ _ h=>h) (Or.inl ⟨by rfl,?_⟩) (by assumption) ?_
  rotate_left
  ·(intro w hSw; (try dsimp only at hSw); go_simp; try (with_reducible rfl))
  try simp [Act.put]
  refine wpAnyH_ready (rs:=[1]) zK (by simp) ?_
  refine AllReadyH.cons rfl (fun K hK=>?_) AllReadyH.nil
  go_simp
  refine (cS _).mono ?_
  rintro e w2 ⟨rfl,hb2⟩
  have hg2:GB X w2:=GB.call hb2 (by (repeat (first | with_reducible assumption | with_reducible exact GB.refl _ | with_reducible apply GB.drew | with_reducible apply GB.alloc | with_reducible refine GB.call (by with_reducible assumption) ?_)))
  have HG2:Hid (GB X w2):=hg2
  go_simp
  refine hK.out _ _ ?_ (fun hHeld=>?_)
  ·exact HKX.out.keep hg2
  clear hK K
  try simp [Act.put]
  refine wpAnyH_ready (rs:=[3]) zK (by simp) ?_
  refine AllReadyH.cons rfl (fun K hK=>?_) AllReadyH.nil
  go_simp
  refine (cT _).mono ?_
  rintro e w3 ⟨rfl,hb3⟩
  have hg3:GB X w3:=GB.call hb3 HG2.out
  have HG3:Hid (GB X w3):=hg3
  go_simp
  refine hK.out _ _ ?_ (fun hHeld=>?_)
  ·exact HKX.out.keep hg3
  clear hK K
  try simp [Act.put]
  refine wpAnyH_take (i:=4) (v:=.bool false) rfl zK zK zK (fun _ _ _ h=>h) (Or.inl ⟨by rfl,?_⟩) (by assumption) ?_
  ·(intro w hSw; (try dsimp only at hSw); go_simp; exact neq6 HA.out)
  try simp [Act.put]
  refine wpAnyH_take (i:=5) (v:=?_) rfl zK zK zK (fun _ _ _ h=>h) (Or.inl ⟨by rfl,?_⟩) (by assumption) ?_
  rotate_left
  ·(intro w hSw; (try dsimp only at hSw); go_simp; try (with_reducible rfl))
  try simp [Act.put]
  refine wpAnyH_take (i:=6) (v:=?_) rfl zK zK zK (fun _ _ _ h=>h) (Or.inr ⟨by rfl,?_⟩) (by assumption) ?_
  rotate_left
  ·rfl
  try simp [Act.put]
  refine wpAnyH_take (i:=7) (v:=?_) rfl zK zK zK (fun _ _ _ h=>h) (Or.inr ⟨by rfl,?_⟩) (by assumption) ?_
  rotate_left
  ·rfl
  try simp [Act.put]
  refine wpAnyH_take (i:=8) (v:=?_) rfl zK zK zK (fun _ _ _ h=>h) (Or.inr ⟨by rfl,?_⟩) (by assumption) ?_
  rotate_left
  ·rfl
  try simp [Act.put]
  refine wpAnyH_take (i:=9) (v:=?_) rfl zK zK zK (fun _ _ _ h=>h) (Or.inr ⟨by rfl,?_⟩) (by assumption) ?_
  rotate_left
  ·rfl
  try simp [Act.put]
  refine wpAnyH_take (i:=10) (v:=?_) rfl zK zK zK (fun _ _ _ h=>h) (Or.inr ⟨by rfl,?_⟩) (by assumption) ?_
  rotate_left
  ·rfl
  try simp [Act.put]
  refine wpAnyH_take (i:=11) (v:=?_) rfl zK zK zK (fun _ _ _ h=>h) (Or.inl ⟨by rfl,?_⟩) (by assumption) ?_
  rotate_left
  ·(intro w hSw; (try dsimp only at hSw); go_simp; try (with_reducible rfl))
  try simp [Act.put]
  refine wpAnyH_take (i:=12) (v:=?_) rfl zK zK zK (fun _ _ _ h=>h) (Or.inl ⟨by rfl,?_⟩) (by assumption) ?_
  rotate_left
  ·(intro w hSw; (try dsimp only at hSw); go_simp; try (with_reducible rfl))
  try simp [Act.put]
  refine wpAnyH_done zK ?_ _
  have HV:Hid (yD w w3):=Qs HBX.out HG3.out
  clear hHeld hb2 hb3 hg2 hg3
  go_wp2_with fail
  go_ret
  exact⟨by rw [HS.out]; rfl,HV.out⟩
def nd0T:Nd:=.mk hdN none 0 []
theorem lies0T (w:yW):Lies w nd0T:=.mk _ _ _ _ ⟨by decide,by decide,by decide,by decide,by decide,by decide,by decide,by decide,by decide,by decide,by decide,by decide,by decide⟩ (Nat.le_refl _) (by decide) (fun i hi=>by simp at hi) (fun k hk=>by cases hk)
theorem count_ok (n l m:Int) (h1:l≤n) (h2:n≤m) (w:yW):Calls zG 101 #[zI n,zI l,zI m] w fun e w'=>e=.returned (.tuple #[])∧w'=w:=by
 have d1:decide (l≤n)=true:=decide_eq_true h1
 have d2:decide (n≤m)=true:=decide_eq_true h2
 go_enter Tryz.func101,Tryz.ntmps101
 go_wp2_with (go_at_call 115; refine (need_t _ _).mono ?_; rintro e w3 ⟨rfl,e4⟩; obtain rfl:=e4.symm)
 go_end0
 exact⟨rfl,rfl⟩
structure PK where
 a:Option Addr
 c:Nat
 T:List Tk
 be:Int
 ba:Int
 lg:Bool
structure Pr (w:yW) (b:Nat) (K:PK) (i:Nat) (e p:Int) (t:Bool):Prop where
 h:w.heap[b]? = (zC #[.slice K.a K.T.length K.c,zI K.be,zI K.ba,zI i,zI e,zI p,.bool t] 77)
 l:i≤K.T.length
 m:K.T.length≤1000000
 z:K.lg=true→e=110∧p=0∧t=true
 r:∀ j (hj:j < K.T.length),∃ G o,K.a=some G¢o∧G≠b∧TkC w G (o+j * 5) K.T[j]
theorem Pr.hid {w:yW}{b:Nat}{K:PK}{i:Nat}{e p:Int}{t:Bool}(h:Pr w b K i e p t):Hid (Pr w b K i e p t):=h
theorem Pr.lt {w:yW}{b:Nat}{K:PK}{i:Nat}{e p:Int}{t:Bool}(h:Pr w b K i e p t):b < w§:=(zJ h.h).1
theorem Pr.new {w w':yW}{b:Nat}{K:PK}{i:Nat}{e p:Int}{t:Bool}(h:Pr w b K i e p t) (k:∀ c,c≠b→c < w§→w'.heap[c]? = w.heap[c]?) {i':Nat}{e' p':Int}{t':Bool}(hl:i'≤K.T.length) (hz:K.lg=true→e'=110∧p'=0∧t'=true) (hh:w'.heap[b]? = (zC #[.slice K.a K.T.length K.c,zI K.be,zI K.ba,zI i',zI e',zI p',.bool t'] 77)):Pr w' b K i' e' p' t' :=
 ⟨hh,hl,h.m,hz,fun j hj=>by
  obtain⟨G,o,e,hn,ht⟩:=h.r j hj
  exact⟨G,o,e,hn,ht.blk (k G hn ht.lt)⟩⟩
theorem Pr.on {w w':yW}{b:Nat}{K:PK}{i:Nat}{e p:Int}{t:Bool}(h:Pr w b K i e p t) (k:yD w w'):Pr w' b K i e p t :=
 h.new (fun c _ hc=>k.block c hc) h.l h.z ((k.block b h.lt).trans h.h)
theorem Pr.blk {w w':yW}{b:Nat}{K:PK}{i:Nat}{e p:Int}{t:Bool}(h:Pr w b K i e p t) (k:∀ c,c < w§→w'.heap[c]? = w.heap[c]?):Pr w' b K i e p t :=
 h.new (fun c _ hc=>k c hc) h.l h.z ((k b h.lt).trans h.h)
def Lv (w:yW) (b:Nat) (K:PK) (ts:List Tk):Prop:=∃ i p t,Pr w b K i 0 p t∧ts=K.T.drop i
def Dd (w:yW) (b:Nat) (K:PK):Ft→Prop
 | .tok no p=>∃ i,Pr w b K i no p false∧no≠0
 | .lex=>∃ e p t,Pr w b K K.T.length e p t∧(e=0∨(e=K.be∧p=K.ba∧t=true)∨K.lg=true)
theorem Lv.hid {w:yW}{b:Nat}{K:PK}{ts:List Tk}(h:Lv w b K ts):Hid (Lv w b K ts):=h
theorem Dd.hid {w:yW}{b:Nat}{K:PK}{f:Ft}(h:Dd w b K f):Hid (Dd w b K f):=h
theorem Lv.on {w w':yW}{b:Nat}{K:PK}{ts:List Tk}(h:Lv w b K ts) (k:yD w w'):Lv w' b K ts:=by
 obtain⟨i,p,t,h1,h2⟩:=h
 exact⟨i,p,t,h1.on k,h2⟩
theorem Dd.on {w w':yW}{b:Nat}{K:PK}{f:Ft}(h:Dd w b K f) (k:yD w w'):Dd w' b K f:=by
 cases f with
 | tok no p=>obtain⟨i,h1,h2⟩:=h; exact⟨i,h1.on k,h2⟩
 | lex=>obtain⟨e,p,t,h1,h2⟩:=h; exact⟨e,p,t,h1.on k,h2⟩
theorem Lv.blk {w w':yW}{b:Nat}{K:PK}{ts:List Tk}(h:Lv w b K ts) (k:∀ c,c < w§→w'.heap[c]? = w.heap[c]?):Lv w' b K ts:=by
 obtain⟨i,p,t,h1,h2⟩:=h
 exact⟨i,p,t,h1.blk k,h2⟩
theorem Dd.blk {w w':yW}{b:Nat}{K:PK}{f:Ft}(h:Dd w b K f) (k:∀ c,c < w§→w'.heap[c]? = w.heap[c]?):Dd w' b K f:=by
 cases f with
 | tok no p=>obtain⟨i,h1,h2⟩:=h; exact⟨i,h1.blk k,h2⟩
 | lex=>obtain⟨e,p,t,h1,h2⟩:=h; exact⟨e,p,t,h1.blk k,h2⟩
theorem Lv.lt {w:yW}{b:Nat}{K:PK}{ts:List Tk}(h:Lv w b K ts):b < w§:=by
 obtain⟨i,p,t,h1,h2⟩:=h
 exact h1.lt
theorem Dd.lt {w:yW}{b:Nat}{K:PK}{f:Ft}(h:Dd w b K f):b < w§:=by
 cases f with
 | tok no p=>obtain⟨i,h1,h2⟩:=h; exact h1.lt
 | lex=>obtain⟨e,p,t,h1,h2⟩:=h; exact h1.lt
theorem Lv.end {w:yW}{b:Nat}{K:PK}(h:Lv w b K []):Dd w b K .lex:=by
 obtain⟨i,p,t,h1,h2⟩:=h
 have hl:=h1.l
 have:i=K.T.length:=by
  have:=congrArg List.length h2
  simp at this
  omega
 subst this
 exact⟨0,p,t,h1,.inl rfl⟩
theorem JS {w:yW}{b:Nat}{K:PK}{i:Nat}{p:Int}{t:Bool}(h:Pr w b K i 0 p t) :
  Calls zG 27 #[zP b] w fun e w'=>e=.returned (.bool false)∧w'=w:=by
 have c4:w.cell? b¢4=some (zI 0):=Qa h.h 4
 clear h
 go_enter Tryz.func27,Tryz.ntmps27
 go_wp2_with fail
 go_ret
 exact⟨rfl,rfl⟩
theorem over_yes {w:yW}{b:Nat}{K:PK}{i:Nat}{e p:Int}{t:Bool}(h:Pr w b K i e p t) (he:e≠0) :
  Calls zG 27 #[zP b] w fun e w'=>e=.returned (.bool true)∧w'=w:=by
 have c4:w.cell? b¢4=some (zI e):=Qa h.h 4
 clear h
 go_enter Tryz.func27,Tryz.ntmps27
 go_wp2_with fail
 go_ret
 exact⟨by show Ending.returned (.bool (e != 0))=_; rw [bne_iff_ne.2 he],rfl⟩
theorem now_over {w:yW}{b:Nat}{K:PK}{i:Nat}{e p:Int}{t:Bool}(h:Pr w b K i e p t) (he:e≠0) :
  Calls zG 90 #[zP b] w fun e w'=>e=.returned (.agg (tkA tk0))∧yD w w':=by
 have HP:=(h.on (Qc w (.cells (tkA tk0) 148))).hid
 have HB:Hid (yD w (w.alloc (.cells (tkA tk0) 148))):=Qc _ _
 have HN:Hid ((w.alloc (.cells (tkA tk0) 148)).heap[w§]? = (zC (tkA tk0) 148)):=Qd _ _
 clear h
 unfold tkA tk0 at HP HB HN
 go_enter Tryz.func90,Tryz.ntmps90
 go_upto_region 1 with fail
 obtain⟨W,eW⟩:∃ W,w.alloc (.cells zl 148)=W:=⟨_,rfl⟩
 rw [eW] at HP HB HN ⊢
 clear eW
 go_quiet ((go_at_call 27; refine Calls.quiet_of_same (over_yes (HP.out.blk (fun _ _=>rfl)) he)))
 obtain⟨V,eV⟩:∃ V,W.drewN nq=V:=⟨_,rfl⟩
 have hV0:V.heap[w§]? = (zC zl 148):=by rw [← eV]; exact HN.out
 have HBV:Hid (yD w V):=by
  have h1:=HB.out
  rw [← eV]
  exact⟨h1.os,h1.tape,h1.output,h1.size,h1.block⟩
 rw [eV]
 clear eV HP
 have z0:V.cell? w§¢0=some (zU 0):=Qa hV0 0
 have q0:V.frozen? w§¢0=false:=Qb hV0 0
 have z1:V.cell? w§¢1=some (yQ):=Qa hV0 1
 have q1:V.frozen? w§¢1=false:=Qb hV0 1
 have z2:V.cell? w§¢2=some (zU 0):=Qa hV0 2
 have q2:V.frozen? w§¢2=false:=Qb hV0 2
 have z3:V.cell? w§¢3=some (zI 0):=Qa hV0 3
 have q3:V.frozen? w§¢3=false:=Qb hV0 3
 have z4:V.cell? w§¢4=some (zI 0):=Qa hV0 4
 have q4:V.frozen? w§¢4=false:=Qb hV0 4
 have HV0:=hV0
 clear hV0
 have HV0:Hid (V.heap[w§]? = (zC zl 148)):=HV0
 go_wp2_with fail
 exact bodyPost_ret (results_cell_row rfl _ _ w§ 148 (tkA tk0) (0,0) _ rfl (put5 HV0.out _ _ _ _ _) Tryz.underlying148 rfl zK) rfl ⟨rfl,(mv5 (F:=fun _=>False) (Mv.ofBelow HBV.out) (Nat.le_refl _) _ _ _ _ _).below (Nat.le_refl _) (fun _ e=>e.elim)⟩
theorem now_none {w:yW}{b:Nat}{K:PK}{p:Int}{t:Bool}(h:Pr w b K K.T.length 0 p t) :
  Calls zG 90 #[zP b] w fun e w'=>e=.returned (.agg (tkA tk0))∧yD w w':=by
 have HP:=(h.on (Qc w (.cells (tkA tk0) 148))).hid
 have HB:Hid (yD w (w.alloc (.cells (tkA tk0) 148))):=Qc _ _
 have HN:Hid ((w.alloc (.cells (tkA tk0) 148)).heap[w§]? = (zC (tkA tk0) 148)):=Qd _ _
 clear h
 unfold tkA tk0 at HP HB HN
 go_enter Tryz.func90,Tryz.ntmps90
 go_upto_region 1 with fail
 obtain⟨W,eW⟩:∃ W,w.alloc (.cells zl 148)=W:=⟨_,rfl⟩
 rw [eW] at HP HB HN ⊢
 clear eW
 have c0:W.cell? b¢0=some (.slice K.a K.T.length K.c):=Qa HP.out.h 0
 have c3:W.cell? b¢3=some (zI K.T.length):=Qa HP.out.h 3
 go_quiet ((go_at_call 27; refine Calls.quiet_of_same (JS (HP.out.blk (fun _ _=>rfl)))))
 obtain⟨V,eV⟩:∃ V,W.drewN nq=V:=⟨_,rfl⟩
 have hV0:V.heap[w§]? = (zC zl 148):=by rw [← eV]; exact HN.out
 have HBV:Hid (yD w V):=by
  have h1:=HB.out
  rw [← eV]
  exact⟨h1.os,h1.tape,h1.output,h1.size,h1.block⟩
 rw [eV]
 clear eV HP c0 c3
 have z0:V.cell? w§¢0=some (zU 0):=Qa hV0 0
 have q0:V.frozen? w§¢0=false:=Qb hV0 0
 have z1:V.cell? w§¢1=some (yQ):=Qa hV0 1
 have q1:V.frozen? w§¢1=false:=Qb hV0 1
 have z2:V.cell? w§¢2=some (zU 0):=Qa hV0 2
 have q2:V.frozen? w§¢2=false:=Qb hV0 2
 have z3:V.cell? w§¢3=some (zI 0):=Qa hV0 3
 have q3:V.frozen? w§¢3=false:=Qb hV0 3
 have z4:V.cell? w§¢4=some (zI 0):=Qa hV0 4
 have q4:V.frozen? w§¢4=false:=Qb hV0 4
 have HV0:=hV0
 clear hV0
 have HV0:Hid (V.heap[w§]? = (zC zl 148)):=HV0
 go_wp2_with fail
 exact bodyPost_ret (results_cell_row rfl _ _ w§ 148 (tkA tk0) (0,0) _ rfl (put5 HV0.out _ _ _ _ _) Tryz.underlying148 rfl zK) rfl ⟨rfl,(mv5 (F:=fun _=>False) (Mv.ofBelow HBV.out) (Nat.le_refl _) _ _ _ _ _).below (Nat.le_refl _) (fun _ e=>e.elim)⟩
theorem now_live {w:yW}{b:Nat}{K:PK}{i:Nat}{p:Int}{t:Bool}{tk:Tk}(h:Pr w b K i 0 p t) (hg:K.T[i]? = some tk) :
  Calls zG 90 #[zP b] w fun e w'=>e=.returned (.agg (tkA tk))∧yD w w':=by
 obtain⟨hi,etk⟩:=List.getElem?_eq_some_iff.1 hg
 clear hg
 obtain⟨G,o,ea,hn,ht⟩:=h.r i hi
 rw [etk] at ht
 have hGw:=ht.lt
 have hbw:=h.lt
 have HTK:Hid (TkC w G (o+i * 5) tk):=ht
 clear ht etk
 have HP:=(h.on (Qc w (.cells (tkA tk0) 148))).hid
 have HB:Hid (yD w (w.alloc (.cells (tkA tk0) 148))):=Qc _ _
 have HN:Hid ((w.alloc (.cells (tkA tk0) 148)).heap[w§]? = (zC (tkA tk0) 148)):=Qd _ _
 clear h
 unfold tkA tk0 at HP HB HN
 go_enter Tryz.func90,Tryz.ntmps90
 go_upto_region 1 with fail
 obtain⟨W,eW⟩:∃ W,w.alloc (.cells zl 148)=W:=⟨_,rfl⟩
 rw [eW] at HP HB HN ⊢
 clear eW
 have c0:W.cell? b¢0=some (.slice K.a K.T.length K.c):=Qa HP.out.h 0
 have c3:W.cell? b¢3=some (zI i):=Qa HP.out.h 3
 have hd:¬ (K.T.length:Int)≤(i:Int):=by omega
 have hd':decide ((K.T.length:Int)≤(i:Int))=false:=decide_eq_false hd
 go_quiet ((go_at_call 27; refine Calls.quiet_of_same (JS (HP.out.blk (fun _ _=>rfl)))))
 obtain⟨V,eV⟩:∃ V,W.drewN nq=V:=⟨_,rfl⟩
 have hV0:V.heap[w§]? = (zC zl 148):=by rw [← eV]; exact HN.out
 have HBV:Hid (yD w V):=by
  have h1:=HB.out
  rw [← eV]
  exact⟨h1.os,h1.tape,h1.output,h1.size,h1.block⟩
 rw [eV]
 clear c0 c3
 have HPV:=(HP.out.blk (w':=V) (fun _ _=>by rw [← eV]; rfl)).hid
 clear eV HP
 obtain⟨y0,y1,y2,y3,y4⟩:=HTK.out.blk (HBV.out.block G hGw)
 have c0:V.cell? b¢0=some (.slice (some G¢o) K.T.length K.c):=by rw [← ea]; exact Qa HPV.out.h 0
 have c3:V.cell? b¢3=some (zI i):=Qa HPV.out.h 3
 have hi':(i:Int) < (K.T.length:Int):=by omega
 clear ea
 go_upto_region 3 with fail
 have HKP:Hid (∀ v,Mv V v (fun k=>k=w§)→v.cell? b¢0=some (.slice (some G¢o) K.T.length K.c)∧v.cell? b¢3=some (zI i)∧v.cell? ⟨G,o+i * 5,none⟩=some (zU tk.k)∧v.cell? ⟨G,o+i * 5+1,none⟩=some (.string tk.x)∧v.cell? ⟨G,o+i * 5+2,none⟩=some (zU tk.ty)∧v.cell? ⟨G,o+i * 5+3,none⟩=some (zI tk.n)∧v.cell? ⟨G,o+i * 5+4,none⟩=some (zI tk.p)):=fun v hv=>by
  have h0:=hv.block b (World.block_lt_of_cell? V _ c0) (by omega)
  have h1:=hv.block G (World.block_lt_of_cell? V _ y0) (by omega)
  exact⟨(World.cell?_of_block h0).trans c0,(World.cell?_of_block h0).trans c3,(World.cell?_of_block h1).trans y0,(World.cell?_of_block h1).trans y1,(World.cell?_of_block h1).trans y2,(World.cell?_of_block h1).trans y3,(World.cell?_of_block h1).trans y4⟩
 clear c0 c3 y0 y1 y2 y3 y4
 have HW:Hid (V.heap[w§]? = (zC zl 148)):=hV0
 clear hV0
 refine wp_region_held_drew (S:=fun v=>Mv V v (fun k=>k=w§)) zK ((Mv.refl _ _).drew) (fun hHeld=>?_)
 refine wpAnyH_take (i:=0) (v:=?_) rfl zK zK zK (fun _ _ _ h=>h) (Or.inl ⟨by rfl,?_⟩) (by assumption) ?_
 rotate_left
 ·(intro v hv; obtain⟨c0,c3,y0,y1,y2,y3,y4⟩:=HKP.out v hv; go_simp; try (with_reducible rfl))
 try simp [Act.put]
 refine wpAnyH_take (i:=1) (v:=?_) rfl zK zK zK (fun _ _ _ h=>h) (Or.inl ⟨by rfl,?_⟩) (by assumption) ?_
 rotate_left
 ·(intro v hv; obtain⟨c0,c3,y0,y1,y2,y3,y4⟩:=HKP.out v hv; go_simp; try (with_reducible rfl))
 try simp [Act.put]
 refine wpAnyH_take (i:=2) (v:=?_) rfl zK zK zK (fun _ _ _ h=>h) (Or.inl ⟨by rfl,?_⟩) (by assumption) ?_
 rotate_left
 ·(intro v hv; obtain⟨c0,c3,y0,y1,y2,y3,y4⟩:=HKP.out v hv; go_simp; try (with_reducible rfl))
 try simp [Act.put]
 refine wpAnyH_take (i:=3) (v:=?_) rfl zK zK zK (fun _ _ _ h=>h) (Or.inl ⟨by rfl,?_⟩) (by assumption) ?_
 rotate_left
 ·(intro v hv; obtain⟨c0,c3,y0,y1,y2,y3,y4⟩:=HKP.out v hv; go_simp; try (with_reducible rfl))
 try simp [Act.put]
 refine wpAnyH_take (i:=4) (v:=?_) rfl zK zK zK (fun _ _ _ h=>h) (Or.inl ⟨by rfl,?_⟩) (by assumption) ?_
 rotate_left
 ·(intro v hv; obtain⟨c0,c3,y0,y1,y2,y3,y4⟩:=HKP.out v hv; go_simp; try (with_reducible rfl))
 try simp [Act.put]
 refine wpAnyH_take (i:=5) (v:=?_) rfl zK zK zK (fun _ _ _ h=>h) (Or.inl ⟨by rfl,?_⟩) (by assumption) ?_
 rotate_left
 ·(intro v hv; obtain⟨c0,c3,y0,y1,y2,y3,y4⟩:=HKP.out v hv; go_simp; try (with_reducible rfl))
 try simp [Act.put]
 refine wpAnyH_take (i:=6) (v:=?_) rfl zK zK zK (fun _ _ _ h=>h) (Or.inl ⟨by rfl,?_⟩) (by assumption) ?_
 rotate_left
 ·(intro v hv; obtain⟨c0,c3,y0,y1,y2,y3,y4⟩:=HKP.out v hv; go_simp; try (with_reducible rfl))
 try simp [Act.put]
 refine wpAnyH_take (i:=7) (v:=?_) rfl zK zK zK (fun _ _ _ h=>h) (Or.inl ⟨by rfl,?_⟩) (by assumption) ?_
 rotate_left
 ·(intro v hv; obtain⟨c0,c3,y0,y1,y2,y3,y4⟩:=HKP.out v hv; go_simp; try (with_reducible rfl))
 try simp [Act.put]
 refine wpAnyH_take (i:=8) (v:=?_) rfl zK zK zK (fun _ _ _ h=>h) (Or.inl ⟨by rfl,?_⟩) (by assumption) ?_
 rotate_left
 ·(intro v hv; obtain⟨c0,c3,y0,y1,y2,y3,y4⟩:=HKP.out v hv; go_simp; try (with_reducible rfl))
 try simp [Act.put]
 refine wpAnyH_take (i:=9) (v:=?_) rfl zK zK zK (fun _ _ _ h=>h) (Or.inl ⟨by rfl,?_⟩) (by assumption) ?_
 rotate_left
 ·(intro v hv; obtain⟨c0,c3,y0,y1,y2,y3,y4⟩:=HKP.out v hv; go_simp; try (with_reducible rfl))
 try simp [Act.put]
 obtain⟨U,eU⟩:∃ U,V.drew=U:=⟨_,rfl⟩
 have hU0:U.heap[w§]? = (zC zl 148):=by rw [← eU]; exact HW.out
 have HMU:Hid (Mv V U (fun k=>k=w§)):=by rw [← eU]; exact (Mv.refl _ _).drew
 have HBU:Hid (yD w U):=by rw [← eU]; exact HBV.out.drew
 rw [eU] at hHeld ⊢
 clear eU
 have z0:U.cell? w§¢0=some (zU 0):=Qa hU0 0
 have q0:U.frozen? w§¢0=false:=Qb hU0 0
 have z1:U.cell? w§¢1=some (yQ):=Qa hU0 1
 have q1:U.frozen? w§¢1=false:=Qb hU0 1
 have z2:U.cell? w§¢2=some (zU 0):=Qa hU0 2
 have q2:U.frozen? w§¢2=false:=Qb hU0 2
 have z3:U.cell? w§¢3=some (zI 0):=Qa hU0 3
 have q3:U.frozen? w§¢3=false:=Qb hU0 3
 have z4:U.cell? w§¢4=some (zI 0):=Qa hU0 4
 have q4:U.frozen? w§¢4=false:=Qb hU0 4
 have HU0:Hid (U.heap[w§]? = (zC zl 148)):=hU0
 clear hU0
 refine wpAnyH_ready (rs:=[10]) zK (by simp) ?_
 refine AllReadyH.cons rfl (fun K hK=>?_) AllReadyH.nil
 go_simp
 refine hK.out _ _ (((((HMU.out.setCell (a:=w§¢0) (.inl rfl) _).setCell (a:=w§¢1) (.inl rfl) _).setCell (a:=w§¢2) (.inl rfl) _).setCell (a:=w§¢3) (.inl rfl) _).setCell (a:=w§¢4) (.inl rfl) _) (fun hHeld7=>?_)
 clear hK K
 refine wpAnyH_done zK ?_ _
 go_wp2_with fail
 exact bodyPost_ret (results_cell_row rfl _ _ w§ 148 (tkA tk) (0,0) _ rfl (put5 HU0.out _ _ _ _ _) Tryz.underlying148 rfl zK) rfl ⟨rfl,(mv5 (F:=fun _=>False) (Mv.ofBelow HBU.out) (Nat.le_refl _) _ _ _ _ _).below (Nat.le_refl _) (fun _ e=>e.elim)⟩
end Go.Proofs.YtoogodlnnijikaaGreatDoor
