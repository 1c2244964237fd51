import Derived.Test.YteedmmljahgpjaaGreatDoorA0
import Derived.Test.YteedmmljahgpjaaGreatDoorA28
import Derived.Test.YteedmmljahgpjaaGreatDoorA7
import Derived.Test.YteedmmljahgpjaaGreatDoorA9
import Derived.Test.YteedmmljahgpjaaGreatDoorA13
import Derived.Test.YteedmmljahgpjaaGreatDoorA21
import Derived.Test.YteedmmljahgpjaaGreatDoorA27
import Derived.Test.YteedmmljahgpjaaGreatDoorA22
import Derived.Test.YteedmmljahgpjaaGreatDoorA3
import Derived.Deep.Slices
import Derived.ProofKit
import Derived.OpenShut
import Derived.ChangeArms
import Derived.SizedLaws
namespace Go.Proofs.YteedmmljahgpjaaGreatDoor
open Go.RowKit
set_option linter.unusedVariables false
set_option linter.unusedSimpArgs false
def Agr (a:Nat) (h h':Nat→Int):Prop:=∀ j,a≤j→h j=h' j
def Zr (b:Nat) (h:Nat→Int):Prop:=∀ j,b < j→h j=0
theorem Agr.mono {a b:Nat}{h h':Nat→Int}(k:Agr a h h') (hab:a≤b):Agr b h h':=fun j hj=>k j (Nat.le_trans hab hj)
theorem Agr.upd {a:Nat}{h h':Nat→Int}(k:Agr a h h') (p:Nat) (x:Int):Agr a (upd h p x) (upd h' p x):=fun j hj=>by
 unfold Go.Proofs.YteedmmljahgpjaaGreatDoor.upd
 split
 ·rfl
 ·exact k j hj
theorem Agr.comeB {a:Nat}{h h':Nat→Int}(k:Agr a h h') {p:Nat}(hp:a≤p) (x:Int):comeB h p x=comeB h' p x:=by
 unfold Go.Proofs.YteedmmljahgpjaaGreatDoor.comeB; rw [k p hp]
theorem Agr.comeH {a:Nat}{h h':Nat→Int}(k:Agr a h h') (p:Nat) (x:Int):Agr a (comeH h p x) (comeH h' p x):=by
 unfold Go.Proofs.YteedmmljahgpjaaGreatDoor.comeH
 split
 ·exact k.upd p _
 ·exact k
theorem Agr.and2 {a:Nat}{h h':Nat→Int}(k:Agr a h h') {p q:Nat}(hp:a≤p) (hq:a≤q) (x y:Int):(and2 h p x q y).1=(and2 h' p x q y).1∧Agr a (and2 h p x q y).2 (and2 h' p x q y).2:=by
 unfold Go.Proofs.YteedmmljahgpjaaGreatDoor.and2
 rw [k.comeB hp x]
 split
 ·exact⟨(k.comeH p x).comeB hq y,(k.comeH p x).comeH q y⟩
 ·exact⟨rfl,k.comeH p x⟩
theorem Zr.comeH {b:Nat}{h:Nat→Int}(k:Zr b h) {p:Nat}(hp:p≤b) (x:Int):Zr b (comeH h p x):=by
 unfold Go.Proofs.YteedmmljahgpjaaGreatDoor.comeH
 split
 ·intro j hj
  unfold Go.Proofs.YteedmmljahgpjaaGreatDoor.upd
  rw [if_neg (by omega)]
  exact k j hj
 ·exact k
theorem Zr.and2 {b:Nat}{h:Nat→Int}(k:Zr b h) {p q:Nat}(hp:p≤b) (hq:q≤b) (x y:Int):Zr b (and2 h p x q y).2:=by
 unfold Go.Proofs.YteedmmljahgpjaaGreatDoor.and2
 split
 ·exact (k.comeH hp x).comeH hq y
 ·exact k.comeH hp x
def Jmp (d:InM) (a b:Nat):Prop:=(d.k=6∨d.k=7∨d.k=8∨d.k=9)→a+1≤d.a.toNat∧d.a.toNat≤b
theorem jmp_of {t:TbM}{d:InM}{a b:Nat}(h:Qg t d a b=true):Jmp d a b:=fun e=>by
 have hwb:Qb ((a:Int)+1) d.a (b:Int)=true:=by
  unfold Qg at h
  rcases e with e | e | e | e <;> simpa [e] using h
 unfold Qb at hwb
 simp at hwb
 omega
theorem goF_agr {a b:Nat}{h h':Nat→Int}{d:InM}{x:Int}(k:Agr (a+1) h h') (j:Jmp d a b):(goF h d a x).1=(goF h' d a x).1∧Agr (a+1) (goF h d a x).2 (goF h' d a x).2:=by
 unfold goF
 cases e5:(d.k == 5) with
 | true =>
  simp only [if_true]
  split
  ·split
   ·exact⟨k.comeB (Nat.le_refl _) _,k.comeH _ _⟩
   ·exact⟨rfl,k⟩
  ·split
   ·exact⟨k.comeB (Nat.le_refl _) _,k.comeH _ _⟩
   ·exact⟨rfl,k⟩
 | false =>
  simp only [Bool.false_eq_true,if_false]
  cases e6:(d.k == 6) with
  | true =>
   simp only [if_true]
   exact k.and2 (j (.inl (by simpa using e6))).1 (Nat.le_refl _) _ _
  | false =>
   simp only [Bool.false_eq_true,if_false]
   cases e7:(d.k == 7) with
   | true =>
    simp only [if_true]
    exact k.and2 (j (.inr (.inl (by simpa using e7)))).1 (Nat.le_refl _) _ _
   | false =>
    simp only [Bool.false_eq_true,if_false]
    cases e8:(d.k == 8) with
    | true =>
     simp only [if_true]
     exact k.and2 (j (.inr (.inr (.inl (by simpa using e8))))).1 (Nat.le_refl _) _ _
    | false =>
     simp only [Bool.false_eq_true,if_false]
     cases e9:(d.k == 9) with
     | true =>
      simp only [if_true]
      exact⟨k.comeB (j (.inr (.inr (.inr (by simpa using e9))))).1 _,k.comeH _ _⟩
     | false =>
      simp only [Bool.false_eq_true,if_false]
      exact⟨k.comeB (Nat.le_refl _) _,k.comeH _ _⟩
theorem goF_zr {a b:Nat}{h:Nat→Int}{d:InM}{x:Int}(k:Zr b h) (hab:a+1≤b) (j:Jmp d a b):Zr b (goF h d a x).2:=by
 unfold goF
 cases e5:(d.k == 5) with
 | true =>
  simp only [if_true]
  split
  ·split
   ·exact k.comeH hab _
   ·exact k
  ·split
   ·exact k.comeH hab _
   ·exact k
 | false =>
  simp only [Bool.false_eq_true,if_false]
  cases e6:(d.k == 6) with
  | true =>
   simp only [if_true]
   exact k.and2 (j (.inl (by simpa using e6))).2 hab _ _
  | false =>
   simp only [Bool.false_eq_true,if_false]
   cases e7:(d.k == 7) with
   | true =>
    simp only [if_true]
    exact k.and2 (j (.inr (.inl (by simpa using e7)))).2 hab _ _
   | false =>
    simp only [Bool.false_eq_true,if_false]
    cases e8:(d.k == 8) with
    | true =>
     simp only [if_true]
     exact k.and2 (j (.inr (.inr (.inl (by simpa using e8))))).2 hab _ _
    | false =>
     simp only [Bool.false_eq_true,if_false]
     cases e9:(d.k == 9) with
     | true =>
      simp only [if_true]
      exact k.comeH (j (.inr (.inr (.inr (by simpa using e9))))).2 _
     | false =>
      simp only [Bool.false_eq_true,if_false]
      exact k.comeH hab _
theorem fitsL_agr {ds:List InM}{b:Nat}:∀ (n a:Nat) (h h':Nat→Int),a+n=b→(∀ j,a≤j→j < b→Jmp (ds.getD j ⟨0,0⟩) j b)→Agr a h h'→(QH ds n a h).1=(QH ds n a h').1
 | 0,a,h,h',_,_,k=>by simp only [QH]; rw [k a (Nat.le_refl _)]
 | n+1,a,h,h',e,j,k=>by
  simp only [QH]
  rw [k a (Nat.le_refl _)]
  split
  ·rfl
  ·obtain⟨g1,g2⟩:=goF_agr (x:=h' a - 1) (k.mono (Nat.le_succ a)) (j a (Nat.le_refl _) (by omega))
   rw [g1]
   split
   ·exact fitsL_agr n (a+1) _ _ (by omega) (fun i h1 h2=>j i (by omega) h2) g2
   ·rfl
theorem fitsL_zr {ds:List InM}{b:Nat}:∀ (n a:Nat) (h:Nat→Int),a+n=b→(∀ j,a≤j→j < b→Jmp (ds.getD j ⟨0,0⟩) j b)→Zr b h→Zr b (QH ds n a h).2
 | 0,a,h,_,_,k=>k
 | n+1,a,h,e,j,k=>by
  simp only [QH]
  split
  ·exact k
  ·have hz:=goF_zr (x:=h a - 1) k (by omega) (j a (Nat.le_refl _) (by omega))
   split
   ·exact fitsL_zr n (a+1) _ (by omega) (fun i h1 h2=>j i (by omega) h2) hz
   ·exact hz
theorem span_agr {t:TbM}{h:Nat→Int}{f b:Nat}(hfb:f < b) (k:Zr f h):(QE t h f b).1=(QE t (fun _=>0) f b).1∧Zr b (QE t h f b).2:=by
 unfold QE
 cases hs:QB t b (b - f) f with
 | false=>exact⟨rfl,fun j hj=>k j (by omega)⟩
 | true =>
  have hj:∀ j,f≤j→j < b→Jmp (t.ds.getD j ⟨0,0⟩) j b:=fun j h1 h2=>jmp_of (JQ _ _ hs j h1 (by omega))
  have ha:Agr f (upd h f 1) (upd (fun _=>0) f 1):=fun j hj=>by
   unfold Go.Proofs.YteedmmljahgpjaaGreatDoor.upd
   split
   ·rfl
   ·exact k j (by omega)
  have h1:=fitsL_agr (ds:=t.ds) (b - f) f _ _ (show f+(b - f)=b by omega) hj ha
  have hz:Zr b (upd h f 1):=fun j hj=>by
   unfold Go.Proofs.YteedmmljahgpjaaGreatDoor.upd
   rw [if_neg (by omega)]
   exact k j (by omega)
  have h2:=fitsL_zr (ds:=t.ds) (b - f) f _ (show f+(b - f)=b by omega) hj hz
  simp only [if_true]
  rw [h1]
  split
  ·exact⟨rfl,h2⟩
  ·exact⟨rfl,h2⟩
def Nxt (E:(Nat→Int)→Int × (Nat→Int)) (D:Int) (p q:Int):Prop:=∀ h,Zr p.toNat h→(E h).1=D∧(D=0→Zr q.toNat (E h).2)
theorem sp_nxt {t:TbM}{x:Sp}(h0:0≤x.f) (h1:x.f < x.t):Nxt (fun h=>QE t h x.f.toNat x.t.toNat) (spD t x) x.f x.t:=fun h k=>by
 obtain⟨a,b⟩:=span_agr (t:=t) (h:=h) (show x.f.toNat < x.t.toNat by omega) k
 exact⟨a,fun _=>b⟩
theorem lies_le:∀ (l:List Sp) (p q:Int),Qv p l=some q→p≤q
 | [],p,q,h=>by simp [Qv] at h; omega
 | x :: l,p,q,h=>by
  simp only [Qv] at h
  split at h
  ·cases h
  ·rename_i hc
   simp at hc
   have:=lies_le l _ _ h
   omega
theorem lies_cons {x:Sp}{l:List Sp}{p q:Int}(h:Qv p (x :: l)=some q):x.f=p∧x.f < x.t∧Qv x.t l=some q:=by
 simp only [Qv] at h
 split at h
 ·cases h
 ·rename_i hc
  simp at hc
  exact⟨hc.1,hc.2,h⟩
theorem sps_nxt {t:TbM}:∀ (l:List Sp) (p q:Int),0≤p→Qv p l=some q→Nxt (fun h=>Jg t h l) (spsD t l) p q
 | [],p,q,_,h=>by
  simp [Qv] at h
  subst h
  exact fun h k=>⟨rfl,fun _=>k⟩
 | x :: l,p,q,hp,h=>by
  obtain⟨h1,h2,h3⟩:=lies_cons h
  subst h1
  have hs:=sp_nxt (t:=t) hp h2
  have hl:=sps_nxt (t:=t) l x.t q (by omega) h3
  intro g k
  obtain⟨a,b⟩:=hs g k
  simp only [Jg,spsD]
  simp only at a b
  rw [a]
  by_cases e:spD t x=0
  ·rw [if_pos (by simpa using e),if_pos (by simpa using e)]
   exact hl _ (b e)
  ·rw [if_neg (by simpa using e),if_neg (by simpa using e)]
   exact⟨a,fun e'=>absurd e' e⟩
def rwsD (t:TbM):List RowM→Int
 | []=>0
 | r :: l=>if spsD t (hasL r) == 0 then rwsD t l else spsD t (hasL r)
theorem rws_nxt {t:TbM}:∀ (l:List RowM) (p q:Int),0≤p→Qv p (l.map hasL).flatten=some q→Nxt (fun h=>Kj t h l) (rwsD t l) p q
 | [],p,q,_,h=>by
  simp [Qv] at h
  subst h
  exact fun h k=>⟨rfl,fun _=>k⟩
 | r :: l,p,q,hp,h=>by
  rw [List.map_cons,List.flatten_cons,JI] at h
  obtain⟨m,hm1,hm2⟩:=Option.bind_eq_some_iff.1 h
  have hs:=sps_nxt (t:=t) _ p m hp hm1
  have hl:=rws_nxt (t:=t) l m q (by have:=lies_le _ _ _ hm1; omega) hm2
  intro g k
  obtain⟨a,b⟩:=hs g k
  simp only [Kj,rwsD]
  simp only at a b
  rw [a]
  by_cases e:spsD t (hasL r)=0
  ·rw [if_pos (by simpa using e),if_pos (by simpa using e)]
   exact hl _ (b e)
  ·rw [if_neg (by simpa using e),if_neg (by simpa using e)]
   exact⟨a,fun e'=>absurd e' e⟩
def gdD (t:TbM) (g:GdM):Int:=if spD t g.wh == 0 then (if (Ql t.ds g.wh).1 == g.fd then (if (Ql t.ds g.wh).2 == g.rg then rwsD t g.rs else 193) else 193) else spD t g.wh
theorem gd_nxt {t:TbM}{sl:Int}{nr ns:Nat}(g:GdM) (p q:Int) (hp:0≤p) (h:gdN sl nr ns g p=some q):Nxt (fun h=>gdE t h g) (gdD t g) p q:=by
 unfold gdN at h
 split at h
 ·unfold gSp at h
  obtain⟨h1,h2,h3⟩:=lies_cons h
  subst h1
  have hs:=sp_nxt (t:=t) hp h2
  have hl:=rws_nxt (t:=t) g.rs g.wh.t q (by omega) h3
  intro hh k
  obtain⟨a,b⟩:=hs hh k
  simp only [gdE,gdD]
  simp only at a b
  rw [a]
  cases e:(spD t g.wh == 0) with
  | true =>
   have e':spD t g.wh=0:=by simpa using e
   simp only [if_true]
   cases e1:((Ql t.ds g.wh).1 == g.fd) with
   | true =>
    simp only [if_true]
    cases e2:((Ql t.ds g.wh).2 == g.rg) with
    | true =>
     simp only [if_true]
     exact hl _ (b e')
    | false =>
     simp only [Bool.false_eq_true,if_false]
     exact⟨by first | rfl | trivial,fun k=>by cases k⟩
   | false =>
    simp only [Bool.false_eq_true,if_false]
    exact⟨by first | rfl | trivial,fun k=>by cases k⟩
  | false =>
   have e':¬ spD t g.wh=0:=by simpa using e
   simp only [Bool.false_eq_true,if_false]
   exact⟨a,fun k=>absurd k e'⟩
 ·cases h
theorem gd_le {sl:Int}{nr ns:Nat}{g:GdM}{p q:Int}(h:gdN sl nr ns g p=some q):p≤q:=by
 unfold gdN at h
 split at h
 ·exact lies_le _ _ _ h
 ·cases h
def gdsD (t:TbM):List GdM→Int
 | []=>0
 | g :: l=>if gdD t g == 0 then gdsD t l else gdD t g
theorem gds_nxt {t:TbM}{sl:Int}{nr ns:Nat}:∀ (l:List GdM) (p q:Int),0≤p→gdsN sl nr ns p l=some q→Nxt (fun h=>gdsE t h l) (gdsD t l) p q∧p≤q
 | [],p,q,_,h=>by
  simp [gdsN] at h
  subst h
  exact⟨fun h k=>⟨rfl,fun _=>k⟩,Int.le_refl _⟩
 | g :: l,p,q,hp,h=>by
  simp only [gdsN] at h
  obtain⟨m,hm1,hm2⟩:=Option.bind_eq_some_iff.1 h
  have hs:=gd_nxt (t:=t) g p m hp hm1
  have hle:=gd_le hm1
  obtain⟨hl,hle2⟩:=gds_nxt (t:=t) l m q (by omega) hm2
  refine⟨fun hh k=>?_,by omega⟩
  obtain⟨a,b⟩:=hs hh k
  simp only [gdsE,gdsD]
  simp only at a b
  rw [a]
  by_cases e:gdD t g=0
  ·rw [if_pos (by simpa using e),if_pos (by simpa using e)]
   exact hl _ (b e)
  ·rw [if_neg (by simpa using e),if_neg (by simpa using e)]
   exact⟨a,fun e'=>absurd e' e⟩
def stsD (t:TbM):List StM→Int
 | []=>0
 | s :: l=>if gdsD t s.gs == 0 then stsD t l else gdsD t s.gs
theorem sts_nxt {t:TbM}{sl:Int}{nr ns:Nat}:∀ (l:List StM) (p q:Int),0≤p→stsN sl nr ns p l=some q→Nxt (fun h=>stsE t h l) (stsD t l) p q
 | [],p,q,_,h=>by
  simp [stsN] at h
  subst h
  exact fun h k=>⟨rfl,fun _=>k⟩
 | s :: l,p,q,hp,h=>by
  simp only [stsN] at h
  split at h
  ·cases h
  ·obtain⟨m,hm1,hm2⟩:=Option.bind_eq_some_iff.1 h
   obtain⟨hs,hle⟩:=gds_nxt (t:=t) s.gs p m hp hm1
   have hl:=sts_nxt (t:=t) l m q (by omega) hm2
   intro hh k
   obtain⟨a,b⟩:=hs hh k
   simp only [stsE,stsD]
   simp only at a b
   rw [a]
   by_cases e:gdsD t s.gs=0
   ·rw [if_pos (by simpa using e),if_pos (by simpa using e)]
    exact hl _ (b e)
   ·rw [if_neg (by simpa using e),if_neg (by simpa using e)]
    exact⟨a,fun e'=>absurd e' e⟩
theorem checkD_eq (t:TbM):Qp t=if QG t then stsD t t.ts else 190:=by
 unfold Qp
 cases hf:QG t with
 | false=>rfl
 | true =>
  simp only [if_true]
  unfold QG at hf
  simp only [Bool.and_eq_true] at hf
  have he:=hf.2
  unfold endB at he
  split at he
  ·rename_i q hq
   exact (sts_nxt (t:=t) t.ts 0 q (Int.le_refl _) hq (fun _=>0) (fun _ _=>rfl)).1
  ·cases he
set_option maxRecDepth 100000
set_option maxHeartbeats 4000000
def ct (a b:Int):Int:=if a == 0 then b else a
theorem ct_n {a:Int}(b:Int) (h:(a != 0)=true):ct a b=a:=by unfold ct; rw [if_neg (by simpa using h)]
theorem ct_z {a:Int}(b:Int) (h:(a != 0)=false):ct a b=b:=by unfold ct; rw [if_pos (by simpa using h)]
theorem ct_a (a b c:Int):ct (ct a b) c=ct a (ct b c):=by
 unfold ct
 cases e:(a == 0) with
 | true=>simp
 | false=>simp [e]
theorem sts_c {t:TbM}{ts:List StM}{i:Nat}(hi:i < ts.length):stsD t (ts.drop i)=ct (gdsD t ts[i].gs) (stsD t (ts.drop (i+1))):=by rw [List.drop_eq_getElem_cons hi]; rfl
theorem gds_c {t:TbM}{gs:List GdM}{i:Nat}(hi:i < gs.length):gdsD t (gs.drop i)=ct (gdD t gs[i]) (gdsD t (gs.drop (i+1))):=by rw [List.drop_eq_getElem_cons hi]; rfl
theorem rws_c {t:TbM}{rs:List RowM}{i:Nat}(hi:i < rs.length):rwsD t (rs.drop i)=ct (spsD t (hasL rs[i])) (rwsD t (rs.drop (i+1))):=by rw [List.drop_eq_getElem_cons hi]; rfl
theorem reads_w {t:TbM}{x:Sp}(hx:SpW t x):Ql t.ds x=rdL t.ds (x.t.toNat - x.f.toNat) x.f.toNat (0,0):=by
 obtain⟨h0,h1,h2⟩:=hx
 unfold Ql
 rw [show mnL x.t t.ds.length=x.t by unfold mnL; split <;> omega,show mx0 x.f=x.f by unfold mx0; split <;> omega]
theorem rreads_sp (t:TbM) (x:Sp) (w:World) (hl:TbL w t) (hx:SpW t x):Calls zG 30 #[.slice t.da t.ds.length t.dc,.agg x.vals] w fun e w'=>e=.returned (.tuple #[.int .u16 (Ql t.ds x).1,.int .u16 (Ql t.ds x).2])∧Below w§ w w':=by
 rw [reads_w hx]
 obtain⟨f,b⟩:=x
 obtain⟨h0,h1,h2⟩:=hx
 simp only at h0 h1 h2
 obtain⟨n,rfl⟩:=Int.eq_ofNat_of_zero_le h0
 exact rreads_any t n b w hl h2
theorem rcheck_any (t : TbM) (w : World) (hl : TbL w t) : Calls zG 13 #[.agg t.vals] w fun e w' => e = .returned (zI (Qp t)) ∧ Below w§ w w' := by
 have hb1:=Bn w (.cells t.vals 26)
 have hn1:=Hn w (.cells t.vals 26)
 obtain⟨W1,e1⟩:∃ W,w.alloc (.cells t.vals 26)=W:=⟨_,rfl⟩
 have E1:Hid (w.alloc (.cells t.vals 26)=W1):=e1
 rw [e1] at hb1 hn1
 have HB1:Hid (Below w§ w W1):=hb1
 have HN1:Hid (W1.heap[w§]? = some (.cells t.vals 26 (0,0))):=hn1
 have HL:Hid (TbL W1 t):=hl.on hb1
 have cN:=formed_any t W1 (hl.on hb1)
 clear hb1 e1 hl hn1
 rw [checkD_eq]
 obtain⟨ANS,eA⟩:∃ q,(if QG t then stsD t t.ts else 190)=q:=⟨_,rfl⟩
 have HA:Hid ((if QG t then stsD t t.ts else 190)=ANS):=eA
 rw [eA]
 clear eA
 have HFW : Hid (QG t = true → (t.rs.length ≤ 12 ∧ t.cs.length ≤ 1024 ∧ t.ds.length ≤ 4096) ∧ ∀ s ∈ t.ts, ∀ g ∈ s.gs, GdW t g) := form_w
 obtain⟨fb,efb⟩:∃ b,QG t=b:=⟨_,rfl⟩
 rw [efb] at cN HA HFW
 clear efb
 go_enter Tryz.func13,Tryz.ntmps13
 go_upto_region 1 with fail
 rw [E1.out]
 clear E1
 go_wp2_with (refine wpList_load_row rfl 26 (.tmp 1) rfl w§ rfl 26 t.vals (0,0) _ HN1.out Tryz.underlying26 rfl Qe ?_)
 refine cN.mono ?_
 rintro e w2 ⟨rfl,hb2⟩
 have HB2:Hid (Below W1§ W1 w2):=hb2
 clear hb2 cN
 cases fb with
 | false =>
  have HN:Hid (ANS=190):=HA.out.symm
  go_wp2_with fail
  go_ret
  exact⟨by rw [HN.out]; rfl,Qa HB1.out HB2.out⟩
 | true =>
  have HX:Hid (stsD t (t.ts.drop 0)=ANS):=HA.out
  have HSM:Hid (t.ds.length≤4096):=(HFW.out rfl).1.2.2
  have HGW:Hid (∀ s ∈ t.ts,∀ g ∈ s.gs,GdW t g):=(HFW.out rfl).2
  clear HA HFW
  go_wp2_with fail
  go_loopw [4] (fun q wr=>∃ (i:Nat),i≤t.ts.length∧q=zI i∧Hid (Below W1§ W1 wr)∧Hid (stsD t (t.ts.drop i)=ANS)) (fun q _=>t.ts.length - (intOf q).toNat)
  case atStart=>exact⟨0,by omega,rfl,HB2,HX⟩
  case round =>
   clear HB2 HX
   obtain⟨i,hi,rfl,HBR,HSR⟩:=hrel
   have c5:wr.cell? ⟨w§,5,none⟩=some (.slice t.ta t.ts.length t.tc):=Qf (Co HN1.out 5) HBR.out
   by_cases hlt:i < t.ts.length
   ·have hlt':(i:Int) < (t.ts.length:Int):=by omega
    have hmx:(i:Int)+1≤9223372036854775807:=by have h1:=HL.out.T.1; have h2:=HL.out.T.2.1; rw [List.length_map] at h1; omega
    obtain⟨b1,o1,ea,r1⟩:=QP StM.sz HL.out.T i hlt
    have HGX:Hid (StL W1 t.ts[i]):=HL.out.Ti _ (List.getElem_mem hlt)
    have HGY:Hid (∀ g ∈ t.ts[i].gs,GdW t g):=HGW.out _ (List.getElem_mem hlt)
    obtain⟨X,eX⟩:∃ X,stsD t (t.ts.drop (i+1))=X:=⟨_,rfl⟩
    have HSA:Hid (ct (gdsD t (t.ts[i].gs.drop 0)) X=ANS):=by show _=_; rw [← HSR.out,sts_c hlt,eX]; rfl
    have HXE:Hid (stsD t (t.ts.drop (i+1))=X):=eX
    obtain⟨x,ex⟩:∃ x,t.ts[i]=x:=⟨_,rfl⟩
    rw [ex] at r1 HGX HGY HSA
    clear ex eX HSR
    rw [ea] at c5
    have HC5:Hid (W1.cell? ⟨w§,5,none⟩=some (.slice (some ⟨b1,o1,none⟩) t.ts.length t.tc)):=by rw [← ea]; exact Co HN1.out 5
    clear ea
    have HX0:Hid (W1.cell? ⟨b1,o1+i,none⟩=some (.slice x.a x.gs.length x.c)):=by have:=r1 0 _ rfl; rw [Nat.mul_one,Nat.add_zero] at this; exact this
    clear r1
    go_wp2_with fail
    clear c5
    go_loopw [5] (fun q wv=>∃ (j:Nat),j≤x.gs.length∧q=zI j∧Hid (Below W1§ W1 wv)∧Hid (ct (gdsD t (x.gs.drop j)) X=ANS)) (fun q _=>x.gs.length - (intOf q).toNat)
    case atStart=>exact⟨0,by omega,rfl,HBR,HSA⟩
    case round =>
     clear HBR HSA
     obtain⟨j,hj,rfl,HBW,HJR⟩:=hrel
     have c5:=Qf HC5.out HBW.out
     have x0:=Qf HX0.out HBW.out
     by_cases hjl:j < x.gs.length
     ·have hjl':(j:Int) < (x.gs.length:Int):=by omega
      have hmy:(j:Int)+1≤9223372036854775807:=by have h1:=HGX.out.1.1; have h2:=HGX.out.1.2.1; rw [List.length_map] at h1; omega
      obtain⟨b3,o3,ea,r3⟩:=QP GdM.sz HGX.out.1 j hjl
      have HGG:Hid (GdL W1 x.gs[j]):=HGX.out.2 _ (List.getElem_mem hjl)
      have HGD:Hid (GdW t x.gs[j]):=HGY.out _ (List.getElem_mem hjl)
      obtain⟨Y,eY⟩:∃ Y,ct (gdsD t (x.gs.drop (j+1))) X=Y:=⟨_,rfl⟩
      have HYE:Hid (ct (gdsD t (x.gs.drop (j+1))) X=Y):=eY
      have HJA:Hid (ct (gdD t x.gs[j]) Y=ANS):=by show _=_; rw [← HJR.out,gds_c hjl,ct_a,eY]
      obtain⟨g,eg⟩:∃ g,x.gs[j]=g:=⟨_,rfl⟩
      rw [eg] at r3 HGG HGD HJA
      clear eg eY HJR
      rw [ea] at x0
      clear ea
      have HRG:Hid (wr.rangeAt b3 (o3+j * 5) g.vals.toList):=rng_on r3 HBW.out
      have HZ:Hid ((wr.alloc (.cells zA4 68)).heap[wr§]? = some (.cells zA4 68 (0,0))):=Hn _ _
      have HWX:Hid (Below W1§ W1 ((wr.alloc (.cells zA4 68)).setRow wr§ g.vals)):=Qa HBW.out (Qc (Bn _ _) (Nat.le_refl _) _)
      have HNX:Hid (((wr.alloc (.cells zA4 68)).setRow wr§ g.vals).heap[wr§]? = some (.cells g.vals 68 (0,0))):=setRow_heap _ _ _ _ _ _ HZ.out
      clear r3
      go_upto_region 11 with (first | (refine wpList_load_mid rfl 68 (.tmp 38) rfl b3 (o3+j * 5) rfl g.vals.toList _ HRG.out Tryz.underlying68 rfl (by show _=some 5; exact QD) ?_; rw [Array.toArray_toList]) | (refine wpList_store_row rfl 68 (.tmp 6) (.tmp 39) rfl wr§ g.vals rfl rfl 68 zA4 HZ.out QD rfl (allGd g) ?_))
      clear c5 x0 HZ HRG HBW
      generalize World.setRow _ _ _=V at HNX HWX ⊢
      generalize wr§=G at HNX ⊢
      have HTB:Hid (V.heap[w§]? = some (.cells t.vals 26 (0,0))):=(HWX.out.block _ (Qy HN1.out)).trans HN1.out
      have g0:V.cell? ⟨G,0,none⟩=some (zI g.wh.f):=Co HNX.out 0
      have g1:V.cell? ⟨G,1,none⟩=some (zI g.wh.t):=Co HNX.out 1
      have hSW:SpW t g.wh:=HGD.out g.wh (by unfold gSp; exact List.mem_cons_self ..)
      have HSW:=QY hSW
      have cS:=rspan_sp t g.wh V (HL.out.on HWX.out) HSM.out hSW
      have HGE:Hid (gdD t g=if spD t g.wh == 0 then (if (Ql t.ds g.wh).1 == g.fd then (if (Ql t.ds g.wh).2 == g.rg then rwsD t g.rs else 193) else 193) else spD t g.wh):=rfl
      obtain⟨E,eE⟩:∃ E,spD t g.wh=E:=⟨_,rfl⟩
      rw [eE] at cS HGE
      unfold Sp.vals at cS
      clear eE hSW
      go_wp2_with (refine wpList_load_row rfl 26 (.tmp 1) rfl w§ rfl 26 t.vals (0,0) _ HTB.out Tryz.underlying26 rfl Qe ?_)
      refine cS.mono ?_
      rintro e w5 ⟨rfl,hb5⟩
      have HB5:Hid (Below V§ V w5):=hb5
      clear cS hb5 g0 g1
      cases hE:(E != 0) with
      | true =>
       have HN:Hid (ANS=E):=by
        show _=_
        rw [← HJA.out,HGE.out,if_neg (by simpa using hE),ct_n _ hE]
       go_wp2_with fail
       go_ret
       exact⟨by rw [HN.out]; rfl,Qa HB1.out (Qa HWX.out HB5.out)⟩
      | false =>
       have HGE2:Hid (gdD t g=if (Ql t.ds g.wh).1 == g.fd then (if (Ql t.ds g.wh).2 == g.rg then rwsD t g.rs else 193) else 193):=by show _=_; rw [HGE.out,if_pos (by simpa using hE)]
       clear HGE
       have c4:w5.cell? ⟨w§,4,none⟩=some (.slice t.da t.ds.length t.dc):=Qf (Co HTB.out 4) HB5.out
       have HNX5:Hid (w5.heap[G]? = some (.cells g.vals 68 (0,0))):=(HB5.out.block _ (Qy HNX.out)).trans HNX.out
       have g0:w5.cell? ⟨G,0,none⟩=some (zI g.wh.f):=Co HNX5.out 0
       have g1:w5.cell? ⟨G,1,none⟩=some (zI g.wh.t):=Co HNX5.out 1
       have cR:=rreads_sp t g.wh w5 (HL.out.on (Qa HWX.out HB5.out)) HSW.out
       obtain⟨m1,em1⟩:∃ m,(Ql t.ds g.wh).1=m:=⟨_,rfl⟩
       obtain⟨m2,em2⟩:∃ m,(Ql t.ds g.wh).2=m:=⟨_,rfl⟩
       rw [em1,em2] at cR HGE2
       unfold Sp.vals at cR
       clear em1 em2
       go_wp2_with fail
       refine cR.mono ?_
       rintro e w6 ⟨rfl,hb6⟩
       have HB6:Hid (Below V§ V w6):=Qa HB5.out hb6
       have HN6:Hid (w6.heap[G]? = some (.cells g.vals 68 (0,0))):=(HB6.out.block _ (Qy HNX.out)).trans HNX.out
       clear cR hb6 g0 g1 c4 hE HB5 HNX5
       have g2:w6.cell? ⟨G,2,none⟩=some (.int .u16 g.fd):=Co HN6.out 2
       have g3:w6.cell? ⟨G,3,none⟩=some (.int .u16 g.rg):=Co HN6.out 3
       cases h1:(m1 != g.fd) with
       | true =>
        have HN:Hid (ANS=193):=by show _=_; rw [← HJA.out,HGE2.out,if_neg (by simpa using h1)]; rfl
        go_wp2_with fail
        go_ret
        exact⟨by rw [HN.out]; rfl,Qa HB1.out (Qa HWX.out HB6.out)⟩
       | false =>
        cases h2:(m2 != g.rg) with
        | true =>
         have HN:Hid (ANS=193):=by show _=_; rw [← HJA.out,HGE2.out,if_pos (by simpa using h1),if_neg (by simpa using h2)]; rfl
         go_wp2_with fail
         go_ret
         exact⟨by rw [HN.out]; rfl,Qa HB1.out (Qa HWX.out HB6.out)⟩
        | false =>
         have HRS:Hid (ct (rwsD t (g.rs.drop 0)) Y=ANS):=by show _=_; rw [← HJA.out,HGE2.out,if_pos (by simpa using h1),if_pos (by simpa using h2)]; rfl
         clear HGE2 HJA
         go_upto_region 17 with fail
         clear h1 h2 g2 g3
         go_wp2_with fail
         go_loopw [10] (fun q wv=>∃ (k:Nat),k≤g.rs.length∧q=zI k∧Hid (Below V§ V wv)∧Hid (ct (rwsD t (g.rs.drop k)) Y=ANS)) (fun q _=>g.rs.length - (intOf q).toNat)
         case atStart=>exact⟨0,by omega,rfl,HB6,HRS⟩
         case round =>
          clear HB6 HRS HN6
          obtain⟨k,hk,rfl,HBK,HKR⟩:=hrel
          have g4:wr.cell? ⟨G,4,none⟩=some (.slice g.a g.rs.length g.c):=Qf (Co HNX.out 4) HBK.out
          by_cases hkl:k < g.rs.length
          ·have hkl':(k:Int) < (g.rs.length:Int):=by omega
           have hmz:(k:Int)+1≤9223372036854775807:=by have h1:=HGG.out.2.2.2.1.1; have h2:=HGG.out.2.2.2.1.2.1; rw [List.length_map] at h1; omega
           obtain⟨b5,o5,ea,r5⟩:=QP RowM.sz HGG.out.2.2.2.1 k hkl
           have hSX:∀ y ∈ hasL g.rs[k],SpW t y:=fun y hy=>HGD.out y (by unfold gSp; exact List.mem_cons_of_mem _ (List.mem_flatten.2 ⟨_,List.mem_map.2 ⟨_,List.getElem_mem hkl,rfl⟩,hy⟩))
           obtain⟨Z,eZ⟩:∃ Z,ct (rwsD t (g.rs.drop (k+1))) Y=Z:=⟨_,rfl⟩
           have HZE:Hid (ct (rwsD t (g.rs.drop (k+1))) Y=Z):=eZ
           have HKA:Hid (ct (spsD t (hasL g.rs[k])) Z=ANS):=by show _=_; rw [← HKR.out,rws_c hkl,ct_a,eZ]
           obtain⟨r,er⟩:∃ r,g.rs[k]=r:=⟨_,rfl⟩
           rw [er] at r5 hSX HKA
           clear er eZ HKR
           have HFA:Hid (∀ v:World,Below wr§ wr v→v.heap[w§]? = some (.cells t.vals 26 (0,0))):=fun v hv=>((Qa HBK.out hv).block _ (Qy HTB.out)).trans HTB.out
           have HFB:Hid (∀ v:World,Below wr§ wr v→v.cell? ⟨G,4,none⟩=some (.slice (some ⟨b5,o5,none⟩) g.rs.length g.c)):=fun v hv=>by rw [← ea]; exact Qf (Co HNX.out 4) (Qa HBK.out hv)
           have HFD:Hid (∀ v:World,Below wr§ wr v→v.rangeAt b5 (o5+k * 11) r.vals.toList):=fun v hv=>rng_on r5 (Qa HWX.out (Qa HBK.out hv))
           have cS:=rrows_any t r wr.drew ((HL.out.on (Qa HWX.out HBK.out)).on ⟨rfl,rfl,rfl,Nat.le_refl _,fun _ _=>rfl⟩) HSM.out hSX
           obtain⟨F,eF⟩:∃ F,spsD t (hasL r)=F:=⟨_,rfl⟩
           rw [eF] at cS HKA
           clear eF hSX r5 ea
           go_upto_region 20 with fail
           clear g4
           refine wp_region_held_drew (S:=fun v=>Below wr§ wr v) zK ⟨rfl,rfl,rfl,Nat.le_refl _,fun _ _=>rfl⟩ (fun hHeld=>?_)
           refine wpAnyH_take (i:=0) (v:=.agg t.vals) rfl zK zK zK (fun _ _ _ h=>h) (yl_row (by rfl) 26 (.tmp 1) rfl w§ rfl 26 t.vals (0,0) _ HFA.out Tryz.underlying26 rfl Qe) (by assumption) ?_
           try simp [Act.put]
           refine wpAnyH_take (i:=1) (v:=?_) rfl zK zK zK (fun _ _ _ h=>h) (Or.inl ⟨by rfl,?_⟩) (by assumption) ?_
           rotate_left
           ·(intro v hv; go_simp; try (with_reducible rfl))
           try simp [Act.put]
           refine wpAnyH_take (i:=2) (v:=?_) rfl zK zK zK (fun _ _ _ h=>h) (Or.inl ⟨by rfl,?_⟩) (by assumption) ?_
           rotate_left
           ·(intro v hv; have hF:=HFB.out v hv; go_simp; try (with_reducible rfl))
           try simp [Act.put]
           refine wpAnyH_take (i:=3) (v:=?_) rfl zK zK zK (fun _ _ _ h=>h) (Or.inl ⟨by rfl,?_⟩) (by assumption) ?_
           rotate_left
           ·(intro v hv; go_simp; try (with_reducible rfl))
           try simp [Act.put]
           refine wpAnyH_take (i:=4) (v:=?_) rfl zK zK zK (fun _ _ _ h=>h) (Or.inl ⟨by rfl,?_⟩) (by assumption) ?_
           rotate_left
           ·(intro v hv; go_simp; try (with_reducible rfl))
           try simp [Act.put]
           refine wpAnyH_take (i:=5) (v:=.agg r.vals) rfl zK zK zK (fun _ _ _ h=>h) (yl_mid (by rfl) 85 (.tmp 76) rfl b5 (o5+k * 11) rfl r.vals _ HFD.out Tryz.underlying85 rfl (by show _=some 11; exact Qi)) (by assumption) ?_
           try simp [Act.put]
           refine wpAnyH_ready (rs:=[6]) zK (by simp) ?_
           refine AllReadyH.cons rfl (fun K hK=>?_) AllReadyH.nil
           go_simp
           refine cS.mono ?_
           rintro e w7 ⟨rfl,hb7⟩
           have hB7:Below wr§ wr w7:=⟨hb7.os,hb7.tape,hb7.output,hb7.size,hb7.block⟩
           have HB7:Hid (Below V§ V w7):=Qa HBK.out hB7
           refine hK.out _ _ hB7 (fun hHeld=>?_)
           clear hK K cS hb7 hB7
           try simp [Act.put]
           refine wpAnyH_take (i:=7) (v:=?_) rfl zK zK zK (fun _ _ _ h=>h) (Or.inl ⟨by rfl,?_⟩) (by assumption) ?_
           rotate_left
           ·(intro v hv; go_simp; try (with_reducible rfl))
           try simp [Act.put]
           refine wpAnyH_done zK ?_ _
           cases hF:(F != 0) with
           | true =>
            have HN:Hid (ANS=F):=by show _=_; rw [← HKA.out,ct_n _ hF]
            go_wp2_with fail
            go_ret
            exact⟨by rw [HN.out]; rfl,Qa HB1.out (Qa HWX.out HB7.out)⟩
           | false =>
            have HN:Hid (ct (rwsD t (g.rs.drop (k+1))) Y=ANS):=by show _=_; rw [HZE.out,← HKA.out,ct_z _ hF]
            go_wp2_with fail
            exact⟨⟨k+1,hkl,rfl,HB7,HN⟩,by simp only [intOf]; omega⟩
          ·obtain rfl:k=g.rs.length:=by omega
           have hnot:¬ (g.rs.length:Int) < (g.rs.length:Int):=by omega
           have HN:Hid (ct (gdsD t (x.gs.drop (j+1))) X=ANS):=by
            show _=_
            rw [HYE.out,← HKR.out,List.drop_length]
            rfl
           go_wp2_with fail
           exact⟨⟨j+1,hjl,rfl,Qa HWX.out HBK.out,HN⟩,by simp only [intOf]; omega⟩
     ·obtain rfl:j=x.gs.length:=by omega
      have hnot:¬ (x.gs.length:Int) < (x.gs.length:Int):=by omega
      have HN:Hid (stsD t (t.ts.drop (i+1))=ANS):=by
       show _=_
       rw [HXE.out,← HJR.out,List.drop_length]
       rfl
      go_wp2_with fail
      exact⟨⟨i+1,hlt,rfl,HBW,HN⟩,by simp only [intOf]; omega⟩
   ·obtain rfl:i=t.ts.length:=by omega
    have hnot:¬ (t.ts.length:Int) < (t.ts.length:Int):=by omega
    have HN:Hid (ANS=0):=by
     show _=_
     rw [← HSR.out,List.drop_length]; rfl
    go_wp2_with fail
    go_ret
    exact⟨by rw [HN.out]; rfl,Qa HB1.out HBR.out⟩
theorem rowsR_all (sl:Int) (nr ns:Nat):∀ l:List RowM,JS sl nr ns l=true→∀ r ∈ l,rowB sl nr ns r=true
 | [],_=>fun r hr=>by cases hr
 | x :: l,h=>fun r hr=>by
  simp only [JS,Bool.and_eq_true] at h
  rcases List.mem_cons.1 hr with rfl | hr
  ·exact h.1.1
  ·exact rowsR_all sl nr ns l h.2 r hr
theorem gdsN_rows (sl:Int) (nr ns:Nat):∀ (l:List GdM) (p q:Int),gdsN sl nr ns p l=some q→∀ g ∈ l,∀ r ∈ g.rs,rowB sl nr ns r=true
 | [],p,q,h=>fun x hx=>by cases hx
 | y :: l,p,q,h=>by
  unfold gdsN at h
  obtain⟨r,hr,h⟩:=Option.bind_eq_some_iff.1 h
  unfold gdN at hr
  split at hr
  ·rename_i hb
   unfold rowsB at hb
   rw [Bool.and_eq_true] at hb
   intro g hg
   rcases List.mem_cons.1 hg with rfl | hg
   ·exact rowsR_all sl nr ns _ hb.2
   ·exact gdsN_rows sl nr ns l r q h g hg
  ·cases hr
theorem stsN_rows (sl:Int) (nr ns:Nat):∀ (l:List StM) (p q:Int),stsN sl nr ns p l=some q→∀ s ∈ l,∀ g ∈ s.gs,∀ r ∈ g.rs,rowB sl nr ns r=true
 | [],p,q,h=>fun x hx=>by cases hx
 | y :: l,p,q,h=>by
  unfold stsN at h
  split at h
  ·cases h
  ·obtain⟨r,hr,h⟩:=Option.bind_eq_some_iff.1 h
   intro s hs
   rcases List.mem_cons.1 hs with rfl | hs
   ·exact gdsN_rows sl nr ns _ p r hr
   ·exact stsN_rows sl nr ns l r q h s hs
theorem form_rows {t:TbM}(h:QG t=true):∀ s ∈ t.ts,∀ g ∈ s.gs,∀ r ∈ g.rs,rowB t.sl t.rs.length t.ts.length r=true:=by
 unfold QG at h
 rw [Bool.and_eq_true,Bool.and_eq_true] at h
 obtain⟨_,h3⟩:=h
 unfold endB at h3
 split at h3
 ·rename_i q hq
  exact stsN_rows _ _ _ _ 0 q hq
 ·cases h3
def pL (l:List Int):List UInt8:=(l.map (fun n=>W.put1 n.toNat)).flatten
structure TzB (t:TbM):Prop where
 sl:0≤t.sl∧t.sl≤4
 r:t.rs.length≤12
 s:t.ts.length≤12
theorem row_kio {t:TbM}{r:RowM}(hz:TzB t) (hb:rowB t.sl t.rs.length t.ts.length r=true):(0≤r.k∧r.k≤6)∧(0≤r.o∧r.o≤5)∧(0≤r.i∧r.i≤12)∧Q4 r 4=true:=by
 unfold rowB at hb
 simp only [Bool.and_eq_true] at hb
 obtain⟨⟨h1,h2⟩,h3⟩:=hb
 obtain⟨z1,z2,z3⟩:=hz
 unfold idxN Qb at h2
 unfold Jl at h1
 by_cases e1:r.k=1
 ·simp [e1] at h1 h2; exact⟨by omega,by omega,by omega,h3⟩
 by_cases e2:r.k=2
 ·simp [e2] at h1 h2; exact⟨by omega,by omega,by omega,h3⟩
 by_cases e3:r.k=3
 ·simp [e3] at h1 h2; exact⟨by omega,by omega,by omega,h3⟩
 by_cases e4:r.k=4
 ·simp [e4] at h1 h2; exact⟨by omega,by omega,by omega,h3⟩
 by_cases e5:r.k=5
 ·simp [e5] at h1 h2; exact⟨by omega,by omega,by omega,h3⟩
 by_cases e6:r.k=6
 ·simp [e6] at h1 h2; exact⟨by omega,by omega,by omega,h3⟩
 ·simp [e1,e2,e3,e4,e5,e6] at h2
  omega
structure SmP (u t:TbM):Prop where
 x:u.x=t.x
 s:u.sl=t.sl
 r:u.rs=t.rs
 c:u.cs=t.cs
 d:u.ds=t.ds
theorem stand_s {u t:TbM}(h:SmP u t) (d:InM) (a b:Int):Qg u d a b=Qg t d a b:=by unfold Qg; rw [h.r,h.c]
theorem stands_s {u t:TbM}(h:SmP u t) (b:Nat):∀ n a,QB u b n a=QB t b n a
 | 0,a=>rfl
 | n+1,a=>by simp only [QB]; rw [stand_s h,h.d,stands_s h b n (a+1)]
theorem sp_s {u t:TbM}(h:SmP u t) (x:Sp):spD u x=spD t x:=by
 unfold spD QE
 rw [stands_s h,h.d]
theorem sps_s {u t:TbM}(h:SmP u t):∀ l,spsD u l=spsD t l
 | []=>rfl
 | x :: l=>by simp only [spsD]; rw [sp_s h,sps_s h l]
theorem rws_s {u t:TbM}(h:SmP u t):∀ l,rwsD u l=rwsD t l
 | []=>rfl
 | r :: l=>by simp only [rwsD]; rw [sps_s h,rws_s h l]
theorem gd_s {u t:TbM}(h:SmP u t) {g g':GdM}(k:JO g g'):gdD u g=gdD t g':=by
 obtain⟨k1,k2,k3,k4,k5⟩:=k
 have hw:g.wh=g'.wh:=by
  obtain⟨⟨a,b⟩,_,_,_,_,_⟩:=g
  obtain⟨⟨c,d⟩,_,_,_,_,_⟩:=g'
  simp only at k1 k2
  subst k1 k2
  rfl
 unfold gdD
 rw [sp_s h,h.d,hw,k3,k4,k5,rws_s h]
theorem gdN_s {sl:Int}{nr ns:Nat}{g g':GdM}(k:JO g g') (p:Int):gdN sl nr ns g p=gdN sl nr ns g' p:=by
 obtain⟨k1,k2,k3,k4,k5⟩:=k
 have hw:g.wh=g'.wh:=by
  obtain⟨⟨a,b⟩,_,_,_,_,_⟩:=g
  obtain⟨⟨c,d⟩,_,_,_,_,_⟩:=g'
  simp only at k1 k2
  subst k1 k2
  rfl
 unfold gdN gSp
 rw [hw,k5]
def GsS (l l':List GdM):Prop:=l.length=l'.length∧∀ j (h3:j < l.length) (h4:j < l'.length),JO l[j] l'[j]
theorem GsS.cons {g g':GdM}{l l':List GdM}(h:GsS (g :: l) (g' :: l')):JO g g'∧GsS l l' :=
 ⟨h.2 0 (by simp) (by simp),by simpa using h.1,fun j h3 h4=>h.2 (j+1) (by simpa using h3) (by simpa using h4)⟩
theorem gds_s {u t:TbM}(h:SmP u t):∀ l l',GsS l l'→gdsD u l=gdsD t l'
 | [],[],_=>rfl
 | g :: l,g' :: l',k=>by
  simp only [gdsD]
  rw [gd_s h k.cons.1,gds_s h l l' k.cons.2]
 | [],_ :: _,k=>by have:=k.1; simp at this
 | _ :: _,[],k=>by have:=k.1; simp at this
theorem gdsN_s {sl:Int}{nr ns:Nat}:∀ (l l':List GdM),GsS l l'→∀ p,gdsN sl nr ns p l=gdsN sl nr ns p l'
 | [],[],_,p=>rfl
 | g :: l,g' :: l',k,p=>by
  simp only [gdsN]
  rw [gdN_s k.cons.1]
  congr 1
  funext q
  exact gdsN_s l l' k.cons.2 q
 | [],_ :: _,k,_=>by have:=k.1; simp at this
 | _ :: _,[],k,_=>by have:=k.1; simp at this
def TsS (l l':List StM):Prop:=l.length=l'.length∧∀ j (h3:j < l.length) (h4:j < l'.length),SameS l[j] l'[j]
theorem TsS.cons {g g':StM}{l l':List StM}(h:TsS (g :: l) (g' :: l')):SameS g g'∧TsS l l' :=
 ⟨h.2 0 (by simp) (by simp),by simpa using h.1,fun j h3 h4=>h.2 (j+1) (by simpa using h3) (by simpa using h4)⟩
theorem sts_s {u t:TbM}(h:SmP u t):∀ l l',TsS l l'→stsD u l=stsD t l'
 | [],[],_=>rfl
 | g :: l,g' :: l',k=>by
  simp only [stsD]
  rw [gds_s h g.gs g'.gs ⟨k.cons.1.1,k.cons.1.2⟩,sts_s h l l' k.cons.2]
 | [],_ :: _,k=>by have:=k.1; simp at this
 | _ :: _,[],k=>by have:=k.1; simp at this
theorem stsN_s {sl:Int}{nr ns:Nat}:∀ (l l':List StM),TsS l l'→∀ p,stsN sl nr ns p l=stsN sl nr ns p l'
 | [],[],_,p=>rfl
 | g :: l,g' :: l',k,p=>by
  simp only [stsN]
  rw [k.cons.1.1,gdsN_s g.gs g'.gs ⟨k.cons.1.1,k.cons.1.2⟩]
  congr 1
  congr 1
  funext q
  exact stsN_s l l' k.cons.2 q
 | [],_ :: _,k,_=>by have:=k.1; simp at this
 | _ :: _,[],k,_=>by have:=k.1; simp at this
theorem check_s {u t:TbM}(h:JU u t):Qp u=Qp t:=by
 obtain⟨h1,h2,h3,h4,h5,h6,h7⟩:=h
 have hp:SmP u t:=⟨h1,h2,h3,h4,h5⟩
 have ht:TsS u.ts t.ts:=⟨h6,fun j h3 h4=>h7 j h3 h4 h3⟩
 rw [checkD_eq,checkD_eq,sts_s hp _ _ ht]
 have hf:QG u=QG t:=by
  unfold QG Q0
  rw [h1,h2,h3,h4,h5,h6,stsN_s _ _ ht]
 rw [hf]
theorem map_gs:∀ l l':List GdM,l.map plG=l'.map plG→GsS l l'
 | [],[],_=>⟨rfl,fun j h=>absurd h (Nat.not_lt_zero _)⟩
 | g :: l,g' :: l',h=>by
  rw [List.map_cons,List.map_cons] at h
  injection h with h1 h2
  have k:=map_gs l l' h2
  unfold plG at h1
  injection h1 with a b c d
  refine⟨by rw [List.length_cons,List.length_cons,k.1],fun j h3 h4=>?_⟩
  cases j with
  | zero=>exact⟨by show g.wh.f=g'.wh.f; rw [a],by show g.wh.t=g'.wh.t; rw [a],b,c,d⟩
  | succ j=>exact k.2 j (by simpa using h3) (by simpa using h4)
 | [],_ :: _,h=>by simp at h
 | _ :: _,[],h=>by simp at h
theorem map_ts:∀ l l':List StM,l.map (fun s=>s.gs.map plG)=l'.map (fun s=>s.gs.map plG)→TsS l l'
 | [],[],_=>⟨rfl,fun j h=>absurd h (Nat.not_lt_zero _)⟩
 | g :: l,g' :: l',h=>by
  rw [List.map_cons,List.map_cons] at h
  injection h with h1 h2
  have k:=map_ts l l' h2
  have k2:=map_gs g.gs g'.gs h1
  refine⟨by rw [List.length_cons,List.length_cons,k.1],fun j h3 h4=>?_⟩
  cases j with
  | zero=>exact⟨k2.1,k2.2⟩
  | succ j=>exact k.2 j (by simpa using h3) (by simpa using h4)
 | [],_ :: _,h=>by simp at h
 | _ :: _,[],h=>by simp at h
theorem QL {k:Int}{l:List UInt8}{p n q:Int}(h:Qh k l p=some (n,q)):numS k l (some p)=(n,some q):=by unfold numS; simp only [h]
theorem QX {k:Int}{l:List UInt8}{st:Option Int}{n q:Int}(h:numS k l st=(n,some q)):∃ p,st=some p∧Qh k l p=some (n,q):=by
 cases st with
 | none=>simp [numS] at h
 | some p =>
  refine⟨p,rfl,?_⟩
  unfold numS at h
  simp only at h
  cases hu:Qh k l p with
  | none=>simp [hu] at h
  | some r =>
   simp only [hu,Prod.mk.injEq,Option.some.injEq] at h
   obtain⟨h1,h2⟩:=h
   subst h1 h2
   rfl
theorem upto_mono {k k':Int}{l:List UInt8}{p n q:Int}(h:Qh k l p=some (n,q)) (hk:n≤k'):Qh k' l p=some (n,q):=by
 unfold Qh at h ⊢
 obtain⟨d,h1,h2⟩:=Option.bind_eq_some_iff.1 h
 split at h2
 ·simp only [Option.some.injEq] at h2
  subst h2
  rw [h1]
  simp [hk]
 ·cases h2
theorem spsS_none (l:List UInt8):∀ (bs:List Bool) (f:Int),(spsS l bs f none).2.2=none
 | [],f=>rfl
 | b :: bs,f=>by
  simp only [spsS]
  split
  ·exact spsS_none l bs _
  ·exact spsS_none l bs _
theorem sps_fwd {l:List UInt8}:∀ (bs:List Bool) {q q':RS}{p p':Int}{xs:List Sp},spsR bs q l p=some (xs,q',p')→spsS l bs q.sp (some p)=(xs,q'.sp,some p')
 | [],q,q',p,p',xs,h=>by
  simp only [spsR,Option.some.injEq,Prod.mk.injEq] at h
  obtain⟨e1,e2,e3⟩:=h
  subst e1 e2 e3
  rfl
 | true :: bs,q,q',p,p',xs,h=>by
  simp only [spsR,if_true] at h
  obtain⟨d,k1,k2⟩:=Option.bind_eq_some_iff.1 h
  obtain⟨r,k3,k4⟩:=Option.map_eq_some_iff.1 k2
  obtain⟨x,qa,m⟩:=d
  obtain⟨ys,qb,z⟩:=r
  simp only [Prod.mk.injEq] at k4
  obtain⟨e1,e2,e3⟩:=k4
  subst e1 e2 e3
  unfold lenR at k1
  obtain⟨n,h1,h2⟩:=Option.map_eq_some_iff.1 k1
  obtain⟨n1,n2⟩:=n
  simp only [Prod.mk.injEq] at h2
  obtain⟨e1,e2,e3⟩:=h2
  subst e1 e2 e3
  have ih:=sps_fwd bs k3
  simp only [spsS,if_true,QL h1]
  rw [show q.sp+n1=(spR q n1).sp from rfl,ih]
 | false :: bs,q,q',p,p',xs,h=>by
  simp only [spsR,Bool.false_eq_true,if_false] at h
  obtain⟨r,k3,k4⟩:=Option.map_eq_some_iff.1 h
  obtain⟨ys,qb,z⟩:=r
  simp only [Prod.mk.injEq] at k4
  obtain⟨e1,e2,e3⟩:=k4
  subst e1 e2 e3
  have ih:=sps_fwd bs k3
  simp only [spsS,Bool.false_eq_true,if_false,ih]
theorem sps_bwd {l:List UInt8}:∀ (bs:List Bool) {q:RS}{p p' f':Int}{xs:List Sp},spsS l bs q.sp (some p)=(xs,f',some p')→∃ q',spsR bs q l p=some (xs,q',p')∧q'.sp=f'
 | [],q,p,p',f',xs,h=>by
  simp only [spsS,Prod.mk.injEq,Option.some.injEq] at h
  obtain⟨e1,e2,e3⟩:=h
  subst e1 e2 e3
  exact⟨q,rfl,rfl⟩
 | true :: bs,q,p,p',f',xs,h=>by
  simp only [spsS,if_true] at h
  obtain⟨n,st,hn⟩:∃ n st,numS 4096 l (some p)=(n,st):=⟨_,_,rfl⟩
  simp only [hn] at h
  cases st with
  | none =>
   exfalso
   have:=spsS_none l bs (q.sp+n)
   simp only [Prod.mk.injEq] at h
   rw [h.2] at this
   cases this
  | some m =>
   obtain⟨p2,e,hu⟩:=QX hn
   injection e with e
   subst e
   obtain⟨ys,f2,st2,hr⟩:∃ a b c,spsS l bs (q.sp+n) (some m)=(a,b,c):=⟨_,_,_,rfl⟩
   rw [hr] at h
   simp only [Prod.mk.injEq] at h
   obtain⟨e1,e2,e3⟩:=h
   subst e1 e2 e3
   obtain⟨q',h1,h2⟩:=sps_bwd bs (q:=spR q n) hr
   refine⟨q',?_,h2⟩
   simp only [spsR,if_true,lenR,hu,Option.map_some,Option.bind_some,h1]
 | false :: bs,q,p,p',f',xs,h=>by
  simp only [spsS,Bool.false_eq_true,if_false] at h
  obtain⟨ys,f2,st2,hr⟩:∃ a b c,spsS l bs q.sp (some p)=(a,b,c):=⟨_,_,_,rfl⟩
  rw [hr] at h
  simp only [Prod.mk.injEq] at h
  obtain⟨e1,e2,e3⟩:=h
  subst e1 e2 e3
  obtain⟨q',h1,h2⟩:=sps_bwd bs hr
  refine⟨q',?_,h2⟩
  simp only [spsR,Bool.false_eq_true,if_false,h1,Option.map_some]
theorem row_fwd {l:List UInt8}{q q':RS}{p p':Int}{r:RowM}(h:rowR q l p=some (r,q',p')):rowS l q.sp (some p)=(r,q'.sp,some p'):=by
 unfold rowR at h
 obtain⟨k,h1,h⟩:=Option.bind_eq_some_iff.1 h
 obtain⟨o,h2,h⟩:=Option.bind_eq_some_iff.1 h
 obtain⟨i,h3,h⟩:=Option.bind_eq_some_iff.1 h
 obtain⟨d,h4,h5⟩:=Option.map_eq_some_iff.1 h
 obtain⟨xs,qb,z⟩:=d
 obtain⟨k1,k2⟩:=k
 obtain⟨o1,o2⟩:=o
 obtain⟨i1,i2⟩:=i
 simp only [Prod.mk.injEq] at h5 h2 h3 h4
 obtain⟨e1,e2,e3⟩:=h5
 subst e1 e2 e3
 have h3':=upto_mono (k':=1000) h3 (by have:=Qo h3; omega)
 have h6:=sps_fwd _ h4
 unfold rowS
 simp only [QL h1,QL h2,QL h3',h6]
theorem row_bwd {l:List UInt8}{q:RS}{p p' f':Int}{r:RowM}(h:rowS l q.sp (some p)=(r,f',some p')) (hi:r.i≤12):∃ q',rowR q l p=some (r,q',p')∧q'.sp=f':=by
 unfold rowS at h
 obtain⟨k,st1,h1⟩:∃ n st,numS 6 l (some p)=(n,st):=⟨_,_,rfl⟩
 simp only [h1] at h
 obtain⟨o,st2,h2⟩:∃ n st,numS 5 l st1=(n,st):=⟨_,_,rfl⟩
 simp only [h2] at h
 obtain⟨i,st3,h3⟩:∃ n st,numS 1000 l st2=(n,st):=⟨_,_,rfl⟩
 simp only [h3] at h
 cases st3 with
 | none =>
  exfalso
  have:=spsS_none l (prts (Qn k o)) q.sp
  simp only [Prod.mk.injEq] at h
  rw [h.2] at this
  cases this
 | some m =>
  obtain⟨p2,e,u3⟩:=QX h3
  subst e
  obtain⟨p1,e,u2⟩:=QX h2
  subst e
  obtain⟨p0,e,u1⟩:=QX h1
  injection e with e
  subst e
  obtain⟨ys,f2,st4,hr⟩:∃ a b c,spsS l (prts (Qn k o)) q.sp (some m)=(a,b,c):=⟨_,_,_,rfl⟩
  rw [hr] at h
  simp only [Prod.mk.injEq] at h
  obtain⟨e1,e2,e3⟩:=h
  subst e1 e2 e3
  obtain⟨q',h5,h6⟩:=sps_bwd _ hr
  refine⟨q',?_,h6⟩
  have u3':=upto_mono (k':=12) u3 hi
  unfold rowR
  simp only [u1,Option.bind_some,u2,u3',h5,Option.map_some]
theorem list_fwd {α β:Type}{stR':RS→Int→Option (β × RS × Int)}{step:Int→Option Int→α × Int × Option Int}{mk:α→β}(hs:∀ q q' p p' a,stR' q p=some (a,q',p')→∃ a0,step q.sp (some p)=(a0,q'.sp,some p')∧mk a0=a) :
  ∀ (n:Nat) {q q':RS}{p p':Int}{al:List β},Qd stR' n q p=some (al,q',p')→∃ al0,Qm step n q.sp (some p)=(al0,q'.sp,some p')∧al0.map mk=al
 | 0,q,q',p,p',al,h=>by
  simp only [Qd,Option.some.injEq,Prod.mk.injEq] at h
  obtain⟨e1,e2,e3⟩:=h
  subst e1 e2 e3
  exact⟨[],rfl,rfl⟩
 | n+1,q,q',p,p',al,h=>by
  simp only [Qd] at h
  obtain⟨d,k1,k2⟩:=Option.bind_eq_some_iff.1 h
  obtain⟨r,k3,k4⟩:=Option.map_eq_some_iff.1 k2
  obtain⟨x,qa,m⟩:=d
  obtain⟨ys,qb,z⟩:=r
  simp only [Prod.mk.injEq] at k4
  obtain⟨e1,e2,e3⟩:=k4
  subst e1 e2 e3
  obtain⟨a0,h1,h2⟩:=hs _ _ _ _ _ k1
  obtain⟨al0,h3,h4⟩:=list_fwd hs n k3
  refine⟨a0 :: al0,?_,by rw [List.map_cons,h2,h4]⟩
  simp only [Qm,h1,h3]
theorem list_bwd {α β:Type}{stR':RS→Int→Option (β × RS × Int)}{step:Int→Option Int→α × Int × Option Int}{mk:α→β}{ok:α→Prop}(hs:∀ q p p' f' a,step q.sp (some p)=(a,f',some p')→ok a→∃ q',stR' q p=some (mk a,q',p')∧q'.sp=f') :
  ∀ (n:Nat) {q:RS}{p p' f':Int}{al:List α},Qm step n q.sp (some p)=(al,f',some p')→(∀ a ∈ al,ok a)→∃ q',Qd stR' n q p=some (al.map mk,q',p')∧q'.sp=f'
 | 0,q,p,p',f',al,h,_=>by
  simp only [Qm,Prod.mk.injEq,Option.some.injEq] at h
  obtain⟨e1,e2,e3⟩:=h
  subst e1 e2 e3
  exact⟨q,rfl,rfl⟩
 | n+1,q,p,p',f',al,h,hok=>by
  obtain⟨a,f1,st1,h1⟩:∃ a b c,step q.sp (some p)=(a,b,c):=⟨_,_,_,rfl⟩
  simp only [Qm,h1] at h
  cases st1 with
  | none=>rw [Jn] at h; simp at h
  | some m =>
   obtain⟨ys,f2,st2,hr⟩:∃ a b c,Qm step n f1 (some m)=(a,b,c):=⟨_,_,_,rfl⟩
   rw [hr] at h
   simp only [Prod.mk.injEq] at h
   obtain⟨e1,e2,e3⟩:=h
   subst e1 e2 e3
   obtain⟨q1,g1,g2⟩:=hs _ _ _ _ _ h1 (hok a (List.mem_cons_self ..))
   rw [← g2] at hr
   obtain⟨q2,g3,g4⟩:=list_bwd hs n hr (fun b hb=>hok b (List.mem_cons_of_mem _ hb))
   refine⟨q2,?_,g4⟩
   simp only [Qd,g1,Option.bind_some,g3,Option.map_some,List.map_cons]
def okG (g:GdP):Prop:=∀ r ∈ g.rs,r.i≤12
theorem rule_fwd {ds:List InM}{l:List UInt8}{q q':RS}{p p':Int}{g:GdP}(h:QT ds l q p=some (g,q',p')):∃ g0,gdS l q.sp (some p)=(g0,q'.sp,some p')∧mkG ds g0=g:=by
 unfold QT at h
 obtain⟨d,h1,h⟩:=Option.bind_eq_some_iff.1 h
 obtain⟨n,h2,h⟩:=Option.bind_eq_some_iff.1 h
 obtain⟨r,h3,h4⟩:=Option.map_eq_some_iff.1 h
 obtain⟨x,qa,m⟩:=d
 obtain⟨n1,n2⟩:=n
 obtain⟨rs,qb,z⟩:=r
 simp only [Prod.mk.injEq] at h4 h2 h3
 obtain⟨e1,e2,e3⟩:=h4
 subst e1 e2 e3
 unfold lenR at h1
 obtain⟨k,h5,h6⟩:=Option.map_eq_some_iff.1 h1
 obtain⟨k1,k2⟩:=k
 simp only [Prod.mk.injEq] at h6
 obtain⟨e1,e2,e3⟩:=h6
 subst e1 e2 e3
 obtain⟨rs0,h7,h8⟩:=list_fwd (step:=rowS l) (mk:=id) (fun q q' p p' a hh=>⟨a,row_fwd hh,rfl⟩) _ h3
 rw [List.map_id] at h8
 subst h8
 refine⟨⟨⟨q.sp,q.sp+k1⟩,0,0,rs0⟩,?_,rfl⟩
 unfold gdS
 rw [show (spR q k1).sp=q.sp+k1 from rfl] at h7
 simp only [QL h5,QL h2,h7]
theorem rule_bwd {ds:List InM}{l:List UInt8}{q:RS}{p p' f':Int}{g:GdP}(h:gdS l q.sp (some p)=(g,f',some p')) (hok:okG g):∃ q',QT ds l q p=some (mkG ds g,q',p')∧q'.sp=f':=by
 unfold gdS at h
 obtain⟨n,st1,h1⟩:∃ n st,numS 4096 l (some p)=(n,st):=⟨_,_,rfl⟩
 simp only [h1] at h
 obtain⟨k,st2,h2⟩:∃ n st,numS 8 l st1=(n,st):=⟨_,_,rfl⟩
 simp only [h2] at h
 obtain⟨rs,f2,st3,hr⟩:∃ a b c,Qm (rowS l) k.toNat (q.sp+n) st2=(a,b,c):=⟨_,_,_,rfl⟩
 rw [hr] at h
 simp only [Prod.mk.injEq] at h
 obtain⟨e1,e2,e3⟩:=h
 subst e1 e2 e3
 cases st2 with
 | none=>rw [Jn] at hr; simp at hr
 | some m =>
  obtain⟨p1,e,u2⟩:=QX h2
  subst e
  obtain⟨p0,e,u1⟩:=QX h1
  injection e with e
  subst e
  rw [show q.sp+n=(spR q n).sp from rfl] at hr
  obtain⟨q',h5,h6⟩:=list_bwd (stR':=stR l) (mk:=id) (ok:=fun r=>r.i≤12) (fun q p p' f' a hh hk=>row_bwd hh hk) _ hr hok
  rw [List.map_id] at h5
  refine⟨q',?_,h6⟩
  unfold QT lenR
  simp only [u1,Option.map_some,Option.bind_some,u2,h5]
  rfl
theorem state_fwd {ds:List InM}{l:List UInt8}{q q':RS}{p p':Int}{g:List GdP}(h:Qs ds l q p=some (g,q',p')):∃ g0,stS l q.sp (some p)=(g0,q'.sp,some p')∧g0.map (mkG ds)=g:=by
 unfold Qs at h
 obtain⟨n,h1,h2⟩:=Option.bind_eq_some_iff.1 h
 obtain⟨n1,n2⟩:=n
 obtain⟨al0,h3,h4⟩:=list_fwd (step:=gdS l) (mk:=mkG ds) (fun q q' p p' a hh=>rule_fwd hh) _ h2
 refine⟨al0,?_,h4⟩
 unfold stS
 simp only [QL h1]
 exact h3
theorem state_bwd {ds:List InM}{l:List UInt8}{q:RS}{p p' f':Int}{g:List GdP}(h:stS l q.sp (some p)=(g,f',some p')) (hok:∀ a ∈ g,okG a):∃ q',Qs ds l q p=some (g.map (mkG ds),q',p')∧q'.sp=f':=by
 unfold stS at h
 obtain⟨n,st1,h1⟩:∃ n st,numS 12 l (some p)=(n,st):=⟨_,_,rfl⟩
 simp only [h1] at h
 cases st1 with
 | none=>rw [Jn] at h; simp at h
 | some m =>
  obtain⟨p0,e,u1⟩:=QX h1
  injection e with e
  subst e
  obtain⟨q',h5,h6⟩:=list_bwd (stR':=QT ds l) (mk:=mkG ds) (ok:=okG) (fun q p p' f' a hh hk=>rule_bwd hh hk) _ h hok
  refine⟨q',?_,h6⟩
  unfold Qs
  simp only [u1,Option.bind_some,h5]
theorem code_fwd {l:List UInt8}:∀ (n:Nat) {p p':Int}{ds:List InM},insR l n p=some (ds,p')→Qm (cdS l) n 0 (some p)=(ds,0,some p')
 | 0,p,p',ds,h=>by
  simp only [insR,Option.some.injEq,Prod.mk.injEq] at h
  obtain⟨e1,e2⟩:=h
  subst e1 e2
  rfl
 | n+1,p,p',ds,h=>by
  simp only [insR] at h
  obtain⟨d,k1,k2⟩:=Option.bind_eq_some_iff.1 h
  obtain⟨r,k3,k4⟩:=Option.map_eq_some_iff.1 k2
  obtain⟨x,m⟩:=d
  obtain⟨ys,z⟩:=r
  simp only [Prod.mk.injEq] at k4
  obtain⟨e1,e2⟩:=k4
  subst e1 e2
  unfold JX at k1
  obtain⟨k,h1,h2⟩:=Option.bind_eq_some_iff.1 k1
  obtain⟨a,h3,h4⟩:=Option.map_eq_some_iff.1 h2
  obtain⟨ka,kb⟩:=k
  obtain⟨aa,ab⟩:=a
  simp only [Prod.mk.injEq] at h4 h3
  obtain⟨e1,e2⟩:=h4
  subst e1 e2
  have ih:=code_fwd n k3
  have hc:cdS l 0 (some p)=(⟨ka,aa⟩,0,some ab):=by unfold cdS; simp only [QL h1,QL h3]
  simp only [Qm,hc,ih]
theorem code_bwd {l:List UInt8}:∀ (n:Nat) {p p' f':Int}{ds:List InM},Qm (cdS l) n 0 (some p)=(ds,f',some p')→insR l n p=some (ds,p')
 | 0,p,p',f',ds,h=>by
  simp only [Qm,Prod.mk.injEq,Option.some.injEq] at h
  obtain⟨e1,e2,e3⟩:=h
  subst e1 e2 e3
  rfl
 | n+1,p,p',f',ds,h=>by
  obtain⟨k,st1,h1⟩:∃ n st,numS 9 l (some p)=(n,st):=⟨_,_,rfl⟩
  obtain⟨a,st2,h2⟩:∃ n st,numS 4096 l st1=(n,st):=⟨_,_,rfl⟩
  have hc:cdS l 0 (some p)=(⟨k,a⟩,0,st2):=by unfold cdS; simp only [h1,h2]
  simp only [Qm,hc] at h
  cases st2 with
  | none=>rw [Jn] at h; simp at h
  | some m =>
   obtain⟨p1,e,u2⟩:=QX h2
   subst e
   obtain⟨p0,e,u1⟩:=QX h1
   injection e with e
   subst e
   obtain⟨ys,f2,st3,hr⟩:∃ a b c,Qm (cdS l) n 0 (some m)=(a,b,c):=⟨_,_,_,rfl⟩
   rw [hr] at h
   simp only [Prod.mk.injEq] at h
   obtain⟨e1,e2,e3⟩:=h
   subst e1 e2 e3
   have ih:=code_bwd n hr
   simp only [insR,JX,u1,Option.bind_some,u2,Option.map_some,ih]
theorem sgn_fwd {k:Int}{l:List UInt8}{p n q p':Int}{xs:List Int}(h1:Qh k l p=some (n,q)) (h2:Qx l n.toNat q=some (xs,p')):sgnS k l (some p)=(xs,some p'):=by
 unfold sgnS
 simp only [QL h1,h2,finI]
theorem sgn_bwd {k:Int}{l:List UInt8}{st:Option Int}{xs:List Int}{p':Int}(h:sgnS k l st=(xs,some p')):∃ p n q,st=some p∧Qh k l p=some (n,q)∧Qx l n.toNat q=some (xs,p'):=by
 unfold sgnS at h
 obtain⟨n,st1,h1⟩:∃ n st',numS k l st=(n,st'):=⟨_,_,rfl⟩
 simp only [h1] at h
 cases st1 with
 | none=>simp at h
 | some q =>
  obtain⟨p,e,u⟩:=QX h1
  refine⟨p,n,q,e,u,?_⟩
  simp only at h
  cases hi:Qx l n.toNat q with
  | none=>rw [hi] at h; simp [finI] at h
  | some r =>
   rw [hi] at h
   obtain⟨a,b⟩:=r
   simp only [finI,Prod.mk.injEq,Option.some.injEq] at h
   obtain⟨e1,e2⟩:=h
   subst e1 e2
   rfl
theorem read_fwd {l:List UInt8}{T:TbP}{e:Int}(h:Jo l 0=some (T,e)):∃ x p,txtR l 0=some (x,p)∧(JE l x p).2=some e∧mkTb (JE l x p).1=T:=by
 unfold Jo at h
 obtain⟨x,h1,h⟩:=Option.bind_eq_some_iff.1 h
 obtain⟨n1,h2,h⟩:=Option.bind_eq_some_iff.1 h
 obtain⟨rs,h3,h⟩:=Option.bind_eq_some_iff.1 h
 obtain⟨sl,h4,h⟩:=Option.bind_eq_some_iff.1 h
 obtain⟨n2,h5,h⟩:=Option.bind_eq_some_iff.1 h
 obtain⟨cs,h6,h⟩:=Option.bind_eq_some_iff.1 h
 obtain⟨n3,h7,h⟩:=Option.bind_eq_some_iff.1 h
 obtain⟨ds,h8,h⟩:=Option.bind_eq_some_iff.1 h
 obtain⟨n4,h9,h⟩:=Option.bind_eq_some_iff.1 h
 obtain⟨r,h10,h11⟩:=Option.map_eq_some_iff.1 h
 obtain⟨x1,x2⟩:=x
 obtain⟨a1,a2⟩:=n1
 obtain⟨b1,b2⟩:=rs
 obtain⟨c1,c2⟩:=sl
 obtain⟨d1,d2⟩:=n2
 obtain⟨e1,e2⟩:=cs
 obtain⟨f1,f2⟩:=n3
 obtain⟨g1,g2⟩:=ds
 obtain⟨i1,i2⟩:=n4
 obtain⟨j1,j2,j3⟩:=r
 simp only [Prod.mk.injEq] at h2 h3 h4 h5 h6 h7 h8 h9 h10 h11
 obtain⟨hT,he⟩:=h11
 subst hT he
 refine⟨x1,x2,h1,?_⟩
 have s1:=sgn_fwd h2 h3
 have s2:=QL h4
 have s3:=sgn_fwd h5 h6
 have s4:codeS l (some e2)=(g1,0,some g2):=by unfold codeS; simp only [QL h7]; exact code_fwd _ h8
 obtain⟨al0,h12,h13⟩:=list_fwd (step:=stS l) (mk:=List.map (mkG g1)) (fun q q' p p' a hh=>state_fwd hh) _ h10
 have s5:QZ l (some g2)=(al0,j2.sp,some j3):=by unfold QZ; simp only [QL h9]; exact h12
 unfold JE
 simp only [s1,s2,s3,s4,s5]
 exact⟨trivial,by unfold mkTb; simp only [h13]⟩
theorem read_bwd {l:List UInt8}{x:ByteArray}{p e:Int}(h1:txtR l 0=some (x,p)) (h2:(JE l x p).2=some e) (hok:∀ gs ∈ (JE l x p).1.ts,∀ g ∈ gs,okG g):Jo l 0=some (mkTb (JE l x p).1,e):=by
 unfold JE at h2 hok ⊢
 obtain⟨rs,st1,s1⟩:∃ a b,sgnS 12 l (some p)=(a,b):=⟨_,_,rfl⟩
 simp only [s1] at h2 hok ⊢
 obtain⟨sl,st2,s2⟩:∃ a b,numS 4 l st1=(a,b):=⟨_,_,rfl⟩
 simp only [s2] at h2 hok ⊢
 obtain⟨cs,st3,s3⟩:∃ a b,sgnS 1024 l st2=(a,b):=⟨_,_,rfl⟩
 simp only [s3] at h2 hok ⊢
 obtain⟨ds,f4,st4,s4⟩:∃ a b c,codeS l st3=(a,b,c):=⟨_,_,_,rfl⟩
 simp only [s4] at h2 hok ⊢
 obtain⟨al,f5,st5,s5⟩:∃ a b c,QZ l st4=(a,b,c):=⟨_,_,_,rfl⟩
 simp only [s5] at h2 hok ⊢
 subst h2
 unfold QZ at s5
 obtain⟨n4,st4',u4⟩:∃ a b,numS 12 l st4=(a,b):=⟨_,_,rfl⟩
 simp only [u4] at s5
 cases st4' with
 | none=>rw [Jn] at s5; simp at s5
 | some m4 =>
  obtain⟨p4,e4,w4⟩:=QX u4
  subst e4
  obtain⟨q',g5,g6⟩:=list_bwd (stR':=Qs ds l) (mk:=List.map (mkG ds)) (ok:=fun gs=>∀ a ∈ gs,okG a) (fun q p p' f' a hh hk=>state_bwd hh hk) _ (q:=q00) s5 hok
  unfold codeS at s4
  obtain⟨n3,st3',u3⟩:∃ a b,numS 4096 l st3=(a,b):=⟨_,_,rfl⟩
  simp only [u3] at s4
  cases st3' with
  | none=>rw [Jn] at s4; simp at s4
  | some m3 =>
   obtain⟨p3,e3,w3⟩:=QX u3
   subst e3
   have c3:=code_bwd _ s4
   obtain⟨p2,n2,q2,e2,w2,i2⟩:=sgn_bwd s3
   subst e2
   obtain⟨p1,e1,w1⟩:=QX s2
   subst e1
   obtain⟨p0,n0,q0,e0,w0,i0⟩:=sgn_bwd s1
   injection e0 with e0
   subst e0
   unfold Jo
   simp only [h1,Option.bind_some,w0,i0,w1,w2,i2,w3,c3,w4,g5,Option.map_some]
   rfl
theorem dec_un (b:ByteArray):decP b=unR b∨(unR b=none∧∃ T,decP b=some T∧∀ t,Is T t→Qp t≠0):=by
 unfold decP unR
 split
 ·split
  ·obtain⟨l,el⟩:∃ q,W.unS b.data.toList 0=q:=⟨_,rfl⟩
   rw [el]
   cases hr:Jo l 0 with
   | some r =>
    obtain⟨T,e⟩:=r
    obtain⟨x,p,h1,h2,h3⟩:=read_fwd hr
    left
    rw [h1]
    simp only [Option.bind_some,h2,h3,Option.some.injEq,beq_iff_eq]
   | none =>
    cases hx:txtR l 0 with
    | none=>left; rfl
    | some xp =>
     obtain⟨x,p⟩:=xp
     simp only [Option.bind_some,Option.bind_none]
     by_cases h2:(JE l x p).2=some (l.length:Int)
     ·rw [if_pos h2]
      right
      refine⟨trivial,_,rfl,fun t hI hc=>?_⟩
      have hno:¬ ∀ gs ∈ (JE l x p).1.ts,∀ g ∈ gs,okG g:=fun hok=>by
       rw [read_bwd hx h2 hok] at hr
       cases hr
      apply hno
      intro gs hgs g hg r hrr
      have hf:QG t=true:=check_form (by rw [hc]; rfl)
      have hfr:=form_rows hf
      have hts:t.ts.map (fun s=>s.gs.map plG)=(JE l x p).1.ts.map (List.map (mkG (JE l x p).1.ds)):=hI.2.2.2.2.2
      have hm:gs.map (mkG (JE l x p).1.ds) ∈ t.ts.map (fun s=>s.gs.map plG):=by rw [hts]; exact List.mem_map.2 ⟨gs,hgs,rfl⟩
      obtain⟨s,hs,es⟩:=List.mem_map.1 hm
      have hm2:mkG (JE l x p).1.ds g ∈ s.gs.map plG:=by rw [es]; exact List.mem_map.2 ⟨g,hg,rfl⟩
      obtain⟨g',hg',eg⟩:=List.mem_map.1 hm2
      have hrs:g'.rs=g.rs:=by
       have:=congrArg GdP.rs eg
       exact this
      unfold QG at hf
      simp only [Bool.and_eq_true] at hf
      obtain⟨⟨_,hsz⟩,_⟩:=hf
      unfold Q0 Qb at hsz
      simp at hsz
      exact (row_kio (t:=t) ⟨by omega,by omega,by omega⟩ (hfr s hs g' hg' r (by rw [hrs]; exact hrr))).2.2.1.2
     ·rw [if_neg h2]
      left
      rfl
  ·left; rfl
 ·left; rfl
theorem is_two {T:TbP}{u t:TbM}(h:Is T u) (k:Is T t):JU u t:=by
 obtain⟨h1,h2,h3,h4,h5,h6⟩:=h
 obtain⟨k1,k2,k3,k4,k5,k6⟩:=k
 have m:=map_ts u.ts t.ts (h6.trans k6.symm)
 exact⟨h1.trans k1.symm,h3.trans k3.symm,h2.trans k2.symm,h4.trans k4.symm,h5.trans k5.symm,m.1,fun i a b _=>m.2 i a b⟩
end Go.Proofs.YteedmmljahgpjaaGreatDoor
