import Derived.Test.YteedmmljahgpjaaGreatDoorA0
import Derived.Test.YteedmmljahgpjaaGreatDoorA5
import Derived.Deep.RegionHeld3
import Derived.Great.BuildSlice
namespace Go.Proofs.YteedmmljahgpjaaGreatDoor
set_option maxRecDepth 100000
set_option maxHeartbeats 4000000
open Go.RowKit
set_option linter.unusedVariables false
set_option linter.unusedSimpArgs false
structure Cx (w0:World) (C:Nat) (t:TbM) (w:World) (h:Nat→Int):Prop where
 T:TbL w0 t
 B:Below w0§ w0 w
 G:w0§≤C
 K:CkAt w C t h
 O:HOk h
theorem Cx.below {w0 w w':World}{C:Nat}{t:TbM}{h:Nat→Int}(c:Cx w0 C t w h) (m:Mv w w' (fun k=>k=C)):Below w0§ w0 w':=c.B.trans (m.below c.B.size (by rintro _ rfl; exact c.G))
theorem Cx.mv {w0 w w':World}{C:Nat}{t:TbM}{h h':Nat→Int}(c:Cx w0 C t w h) (m:Mv w w' (fun k=>k=C)) (k:CkAt w' C t h') (o:HOk h'):Cx w0 C t w' h':=⟨c.T,c.below m,c.G,k,o⟩
theorem Cx.on {w0 w w':World}{C:Nat}{t:TbM}{h:Nat→Int}(c:Cx w0 C t w h) (b:Below w§ w w'):Cx w0 C t w' h:=⟨c.T,Qa c.B b,c.G,c.K.on b,c.O⟩
theorem Cx.tb {w0 w:World}{C:Nat}{t:TbM}{h:Nat→Int}(c:Cx w0 C t w h):TbL w t:=c.T.on c.B
def QH (ds:List InM):Nat→Nat→(Nat→Int)→Bool × (Nat→Int)
 | 0,a,h=>(h a == 2,h)
 | n+1,a,h=>if h a == 0 then (false,h) else if (goF h (ds.getD a ⟨0,0⟩) a (h a - 1)).1 then QH ds n (a+1) (goF h (ds.getD a ⟨0,0⟩) a (h a - 1)).2 else (false,(goF h (ds.getD a ⟨0,0⟩) a (h a - 1)).2)
theorem fitsL_ok (ds:List InM):∀ (n a:Nat) (h:Nat→Int),HOk h→HOk (QH ds n a h).2
 | 0,a,h,k=>k
 | n+1,a,h,k=>by
  unfold QH
  split
  ·exact k
  ·split
   ·exact fitsL_ok ds n (a+1) _ (goF_ok k _ _ _)
   ·exact goF_ok k _ _ _
theorem upd_ok {h:Nat→Int}(k:HOk h) (a:Nat):HOk (upd h a 1):=by
 intro j
 unfold upd
 split
 ·omega
 ·exact k j
theorem stand_ok {t:TbM}{d:InM}{a b:Int}(h:Qg t d a b=true) (hb:b≤4096):(d.k=5→1≤d.a∧d.a≤16)∧(6≤d.k→d.k≤9→a+1≤d.a∧d.a≤4096):=by
 unfold Qg Qb at h
 constructor
 ·intro e
  rw [e] at h
  simpa using h
 ·intro h6 h9
  obtain e | e | e | e:d.k=6∨d.k=7∨d.k=8∨d.k=9:=by omega
  all_goals
   rw [e] at h
   simp at h
   omega
theorem fits_any (C:Nat) (t:TbM) (h:Nat→Int) (f b:Nat) (w:World) (w0:World) (hc:Cx w0 C t w h) (hfb:f < b) (hbd:b≤t.ds.length) (hd:t.ds.length≤4096) (hst:∀ a:Nat,f≤a→a < b→Qg t (t.ds.getD a ⟨0,0⟩) a b=true):Calls zG 128 #[zP C,.agg (Sp.vals ⟨f,b⟩)] w fun e w'=>e=.returned (.bool (QH t.ds (b - f) f (upd h f 1)).1)∧Mv w w' (fun k=>k=C)∧CkAt w' C t (QH t.ds (b - f) f (upd h f 1)).2:=by
 have hb1:=Bn w (.cells (Sp.vals ⟨f,b⟩) 65)
 have hn1:=Hn w (.cells (Sp.vals ⟨f,b⟩) 65)
 obtain⟨W1,e1⟩:∃ W,w.alloc (.cells (Sp.vals ⟨f,b⟩) 65)=W:=⟨_,rfl⟩
 have E1:=zH e1
 rw [e1] at hb1 hn1
 have HB1:=zH hb1
 obtain⟨c0,c1⟩:=cl2 hn1
 have HN1:=zH hn1
 have HS1:Hid (W1§=w§+1):=by show _=_; rw [← e1]; exact Sa _ _
 clear hb1 e1 hn1
 obtain⟨R,eR⟩:∃ R,QH t.ds (b - f) f (upd h f 1)=R:=⟨_,rfl⟩
 rw [eR]
 have HR:=zH eR.symm
 have HOK:=zH hst
 have HCX:Hid (Cx w0 C t w h):=hc
 have hk:=hc.K
 have hh:=hc.O
 have HH:Hid (HOk (upd h f 1)):=upd_ok hh f
 have hf1:(f:Int) < 4097:=by omega
 have hb1:(b:Int) < 4097:=by omega
 have hk1:=hk.on HB1.out
 have ca:=hk1.H f (by omega)
 have fa:=hk1.F (6+f)
 have HCL:Hid (C < w§):=hk.L
 have HKS:Hid (CkAt (W1.setCell ⟨C,6+f,none⟩ (zU 1)).drew C t (upd h f 1)):=(hk1.set f (by omega) 1).on (w':=(W1.setCell ⟨C,6+f,none⟩ (zU 1)).drew) ⟨rfl,rfl,rfl,Nat.le_refl _,fun _ _=>rfl⟩
 have HMS:Hid (Mv w (W1.setCell ⟨C,6+f,none⟩ (zU 1)).drew (fun k=>k=C)):=((Mv.ofBelow (F:=fun k=>k=C) HB1.out).setCell (a:=⟨C,6+f,none⟩) (.inl rfl) _).drew
 have HNS:Hid ((W1.setCell ⟨C,6+f,none⟩ (zU 1)).drew.heap[w§]? = some (.cells (Sp.vals ⟨f,b⟩) 65 (0,0))):=(heap_setCell_other _ _ _ _ (by show w§≠C; have:=HCL.out; omega)).trans HN1.out
 clear eR hst hk hk1 hh hc
 go_enter Tryz.func128,Tryz.ntmps128
 go_upto_region 1 with fail
 rw [E1.out]
 clear E1
 go_region
 generalize (W1.setCell ⟨C,6+f,none⟩ (zU 1)).drew=U at HKS HMS HNS ⊢
 have x0:U.cell? ⟨w§,0,none⟩=some (zI f):=Co HNS.out 0
 clear c0 c1 ca fa HB1 HN1 HS1
 go_wp2_with fail
 go_loopw [5] (fun q wr=>∃ (a:Nat) (g:Nat→Int),f≤a∧a≤b∧q=zI a∧Hid (CkAt wr C t g)∧Hid (HOk g)∧Hid (Mv w wr (fun k=>k=C))∧Hid (wr.heap[w§]? = some (.cells (Sp.vals ⟨f,b⟩) 65 (0,0)))∧Hid (R=QH t.ds (b - a) a g)) (fun q _=>b - (intOf q).toNat)
 case atStart=>exact⟨f,_,by omega,by omega,rfl,HKS,HH,HMS,HNS,HR⟩
 case round =>
  obtain⟨a,g,hfa,hab,rfl,HKR,HHR,HMR,HNR,HRR⟩:=hrel
  have y1:wr.cell? ⟨w§,1,none⟩=some (zI b):=Co HNR.out 1
  have ya:=HKR.out.H a (by omega)
  have hy:=HHR.out a
  have ha1:(a:Int) < 4097:=by omega
  by_cases hlt:a < b
  ·have hlt':(a:Int) < (b:Int):=by omega
   obtain⟨n,en⟩:∃ n,b - a=n+1:=⟨b - a - 1,by omega⟩
   have HD:Hid (R=if g a == 0 then (false,g) else if (goF g (t.ds.getD a ⟨0,0⟩) a (g a - 1)).1 then QH t.ds (b - (a+1)) (a+1) (goF g (t.ds.getD a ⟨0,0⟩) a (g a - 1)).2 else (false,(goF g (t.ds.getD a ⟨0,0⟩) a (g a - 1)).2)):=by show _=_; rw [HRR.out,en,show b - (a+1)=n by omega]; rfl
   have cG:=goOn_any C t g a (g a - 1) wr HKR.out (HCX.out.T.on (HCX.out.below HMR.out)) hd (by omega) (by omega) (stand_ok (HOK.out a hfa hlt) (by omega))
   have HGO:Hid (HOk (goF g (t.ds.getD a ⟨0,0⟩) a (g a - 1)).2):=goF_ok HHR.out _ _ _
   obtain⟨S,eS⟩:∃ S,goF g (t.ds.getD a ⟨0,0⟩) a (g a - 1)=S:=⟨_,rfl⟩
   rw [eS] at HD cG HGO
   obtain⟨y,ey⟩:∃ y,g a=y:=⟨_,rfl⟩
   rw [ey] at HD cG ya hy
   clear eS en HRR ey
   cases hz:(y == 0) with
   | true =>
    have HX:Hid (R=(false,g)):=by show _=_; rw [HD.out,if_pos hz]
    go_wp2_with fail
    go_ret
    exact⟨by rw [HX.out]; rfl,HMR.out,by rw [HX.out]; exact HKR.out⟩
   | false =>
    cases hS:S.1 with
    | false =>
     have HX:Hid (R=(false,S.2)):=by show _=_; rw [HD.out,if_neg (by simp [hz]),if_neg (by simp [hS])]
     rw [hS] at cG
     go_wp2_with fail
     refine cG.mono ?_
     rintro e w5 ⟨rfl,hm5,hk5⟩
     have HM5:Hid (Mv w w5 (fun k=>k=C)):=HMR.out.trans hm5 (fun _ e=>.inl e)
     have HK5:Hid (CkAt w5 C t S.2):=hk5
     clear cG hm5 hk5
     go_wp2_with fail
     go_ret
     exact⟨by rw [HX.out]; rfl,HM5.out,by rw [HX.out]; exact HK5.out⟩
    | true =>
     have HX:Hid (R=QH t.ds (b - (a+1)) (a+1) S.2):=by show _=_; rw [HD.out,if_neg (by simp [hz]),if_pos hS]
     rw [hS] at cG
     go_wp2_with fail
     refine cG.mono ?_
     rintro e w5 ⟨rfl,hm5,hk5⟩
     have HM5:Hid (Mv w w5 (fun k=>k=C)):=HMR.out.trans hm5 (fun _ e=>.inl e)
     have HK5:Hid (CkAt w5 C t S.2):=hk5
     have HN5:Hid (w5.heap[w§]? = some (.cells (Sp.vals ⟨f,b⟩) 65 (0,0))):=(hm5.block _ (Array.getElem?_eq_some_iff.1 HNR.out).1 (by have:=HCL.out; omega)).trans HNR.out
     clear cG hm5 hk5
     go_wp2_with fail
     exact⟨⟨a+1,S.2,by omega,hlt,rfl,HK5,HGO,HM5,HN5,HX⟩,by simp only [intOf]; omega⟩
  ·obtain rfl:a=b:=by omega
   have hnot:¬ (a:Int) < (a:Int):=by omega
   have HX:Hid (R=(g a == 2,g)):=by show _=_; rw [HRR.out,Nat.sub_self]; rfl
   have HMD:Hid (∀ n,Mv w (wr.drewN n) (fun k=>k=C)):=fun n=>HMR.out.trans (show Mv wr (wr.drewN n) (fun _=>False) from Mv.ofBelow ⟨rfl,rfl,rfl,Nat.le_refl _,fun _ _=>rfl⟩) (fun _ e=>e.elim)
   have HKD:Hid (∀ n,CkAt (wr.drewN n) C t g):=fun n=>HKR.out.on ⟨rfl,rfl,rfl,Nat.le_refl _,fun _ _=>rfl⟩
   go_wp2_with fail
   go_quiet (fail)
   go_wp2_with fail
   go_ret
   exact⟨by rw [HX.out]; rfl,HMD.out _,by rw [HX.out]; exact HKD.out _⟩
def QB (t:TbM) (b:Nat):Nat→Nat→Bool
 | 0,_=>true
 | n+1,a=>Qg t (t.ds.getD a ⟨0,0⟩) a b && QB t b n (a+1)
theorem JQ {t:TbM}{b:Nat}:∀ (n a:Nat),QB t b n a=true→∀ j,a≤j→j < a+n→Qg t (t.ds.getD j ⟨0,0⟩) j b=true
 | 0,a,_,j,h1,h2=>by omega
 | n+1,a,h,j,h1,h2=>by
  unfold QB at h
  rw [Bool.and_eq_true] at h
  by_cases e:j=a
  ·rw [e]; exact h.1
  ·exact JQ n (a+1) h.2 j (by omega) (by omega)
def QE (t:TbM) (h:Nat→Int) (f b:Nat):Int × (Nat→Int):=if QB t b (b - f) f then (if (QH t.ds (b - f) f (upd h f 1)).1 then (0,(QH t.ds (b - f) f (upd h f 1)).2) else (192,(QH t.ds (b - f) f (upd h f 1)).2)) else (191,h)
theorem J1 (t:TbM) {h:Nat→Int}(k:HOk h) (f b:Nat):HOk (QE t h f b).2:=by
 unfold QE
 split
 ·split
  ·exact fitsL_ok _ _ _ _ (upd_ok k f)
  ·exact fitsL_ok _ _ _ _ (upd_ok k f)
 ·exact k
theorem span_any (C : Nat) (t : TbM) (h : Nat → Int) (f b : Nat) (w : World) (w0 : World) (hc : Cx w0 C t w h) (hfb : f < b) (hbd : b ≤ t.ds.length) (hs : t.rs.length ≤ 12 ∧ t.cs.length ≤ 1024 ∧ t.ds.length ≤ 4096) : Calls zG 98 #[.pointer (some ⟨C, 0, none⟩), .agg (Sp.vals ⟨f, b⟩)] w fun e w' => e = .returned (zI (QE t h f b).1) ∧ Mv w w' (fun k => k = C) ∧ CkAt w' C t (QE t h f b).2 := by
 have hb1:=Bn w (.cells (Sp.vals ⟨f,b⟩) 65)
 have hn1:=Hn w (.cells (Sp.vals ⟨f,b⟩) 65)
 obtain⟨W1,e1⟩:∃ W,w.alloc (.cells (Sp.vals ⟨f,b⟩) 65)=W:=⟨_,rfl⟩
 have E1:Hid (w.alloc (.cells (Sp.vals ⟨f,b⟩) 65)=W1):=e1
 rw [e1] at hb1 hn1
 have HB1:Hid (Below w§ w W1):=hb1
 obtain⟨c0,c1⟩:=cl2 hn1
 have HN1:Hid (W1.heap[w§]? = some (.cells (Sp.vals ⟨f,b⟩) 65 (0,0))):=hn1
 have HS1:Hid (W1§=w§+1):=by show _=_; rw [← e1]; exact Sa _ _
 clear hb1 e1 hn1
 obtain⟨R,eR⟩:∃ R,QE t h f b=R:=⟨_,rfl⟩
 rw [eR]
 have HR:Hid (R=if QB t b (b - f) f then (if (QH t.ds (b - f) f (upd h f 1)).1 then (0,(QH t.ds (b - f) f (upd h f 1)).2) else (192,(QH t.ds (b - f) f (upd h f 1)).2)) else (191,h)):=eR.symm
 have HCX:Hid (Cx w0 C t W1 h):=hc.on HB1.out
 have HM1 : Hid (Mv w W1 (fun k => k = C)) := Mv.ofBelow HB1.out
 obtain⟨S,eS⟩:∃ S,QB t b (b - f) f=S:=⟨_,rfl⟩
 have HS:Hid (S=QB t b (b - f) f):=eS.symm
 have hlen:f < b:=hfb
 clear eR eS hc
 go_enter Tryz.func98,Tryz.ntmps98
 go_upto_region 1 with fail
 rw [E1.out]
 clear E1
 go_wp2_with fail
 go_loopw [5] (fun q wr=>∃ (a:Nat),f≤a∧a≤b∧q=zI a∧wr=W1∧Hid (S=QB t b (b - a) a)) (fun q _=>b - (intOf q).toNat)
 case atStart=>exact⟨f,by omega,by omega,rfl,rfl,HS⟩
 case round =>
  obtain⟨a,hfa,hab,rfl,rfl,HRR⟩:=hrel
  by_cases hlt:a < b
  ·have hlt':(a:Int) < (b:Int):=by omega
   obtain⟨n,en⟩:∃ n,b - a=n+1:=⟨b - a - 1,by omega⟩
   have HD:Hid (S=(Qg t (t.ds.getD a ⟨0,0⟩) a b && QB t b (b - (a+1)) (a+1))):=by show _=_; rw [HRR.out,en,show b - (a+1)=n by omega]; rfl
   have cS:=stands_any C t h a b wr HCX.out.K HCX.out.tb hs (by omega)
   clear en HRR
   cases hz:Qg t (t.ds.getD a ⟨0,0⟩) a b with
   | false =>
    rw [hz] at cS
    have HX:Hid (R=(191,h)):=by show _=_; rw [HR.out,← HS.out,HD.out,hz]; rfl
    go_wp2_with fail
    refine cS.mono ?_
    rintro e w5 ⟨rfl,rfl⟩
    go_wp2_with fail
    go_ret
    exact⟨by rw [HX.out]; rfl,HM1.out,by rw [HX.out]; exact HCX.out.K⟩
   | true =>
    rw [hz] at cS
    have HX:Hid (S=QB t b (b - (a+1)) (a+1)):=by show _=_; rw [HD.out,hz]; rfl
    go_wp2_with fail
    refine cS.mono ?_
    rintro e w5 ⟨rfl,rfl⟩
    go_wp2_with fail
    exact⟨⟨a+1,by omega,hlt,rfl,by first | rfl | trivial,HX⟩,by simp only [intOf]; omega⟩
  ·obtain rfl:a=b:=by omega
   have hnot:¬ (a:Int) < (a:Int):=by omega
   have hS1:S=true:=by rw [HRR.out,Nat.sub_self]; rfl
   have hS2:QB t a (a - f) f=true:=by rw [← HS.out]; exact hS1
   have HD:Hid (R=if (QH t.ds (a - f) f (upd h f 1)).1 then (0,(QH t.ds (a - f) f (upd h f 1)).2) else (192,(QH t.ds (a - f) f (upd h f 1)).2)):=by show _=_; rw [HR.out,if_pos hS2]
   have cF:=fits_any C t h f a wr w0 HCX.out hlen (by omega) hs.2.2 (fun j h1 h2=>JQ (a - f) f hS2 j h1 (by omega))
   obtain⟨Q,eQ⟩:∃ Q,QH t.ds (a - f) f (upd h f 1)=Q:=⟨_,rfl⟩
   rw [eQ] at cF HD
   clear hS1 hS2 HR HS HRR eQ
   cases hq:Q.1 with
   | true =>
    rw [hq] at cF
    have HX:Hid (R=(0,Q.2)):=by show _=_; rw [HD.out,if_pos hq]
    go_wp2_with fail
    refine cF.mono ?_
    rintro e w5 ⟨rfl,hm5,hk5⟩
    have HM5:Hid (Mv w w5 (fun k=>k=C)):=HM1.out.trans hm5 (fun _ e=>.inl e)
    have HK5:Hid (CkAt w5 C t Q.2):=hk5
    clear cF hm5 hk5
    go_wp2_with fail
    go_ret
    exact⟨by rw [HX.out]; rfl,HM5.out,by rw [HX.out]; exact HK5.out⟩
   | false =>
    rw [hq] at cF
    have HX:Hid (R=(192,Q.2)):=by show _=_; rw [HD.out,if_neg (by simp [hq])]
    go_wp2_with fail
    refine cF.mono ?_
    rintro e w5 ⟨rfl,hm5,hk5⟩
    have HM5:Hid (Mv w w5 (fun k=>k=C)):=HM1.out.trans hm5 (fun _ e=>.inl e)
    have HK5:Hid (CkAt w5 C t Q.2):=hk5
    clear cF hm5 hk5
    go_wp2_with fail
    go_ret
    exact⟨by rw [HX.out]; rfl,HM5.out,by rw [HX.out]; exact HK5.out⟩
theorem run_max (x y:Int):Builtin.max_ #[3,3] 3 #[zI x,zI y]=pure (zI (if y > x then y else x)):=by
 show (Builtin.max2 (zI x) (zI y) >>= fun v=>pure v)=_
 show (pure (Value.int .i64 (if y > x then y else x)) >>= fun v=>(pure v:Sem Value))=_
 rfl
theorem run_min (x y:Int):Builtin.min_ #[3,3] 3 #[zI x,zI y]=pure (zI (if y < x then y else x)):=by
 show (Builtin.min2 (zI x) (zI y) >>= fun v=>pure v)=_
 show (pure (Value.int .i64 (if y < x then y else x)) >>= fun v=>(pure v:Sem Value))=_
 rfl
def mx0 (f:Int):Int:=if 0 > f then 0 else f
def mnL (t:Int) (n:Nat):Int:=if (n:Int) < t then n else t
def orM (m:Int) (a:Int):Int:=bits .or .u16 m (IntKind.u16.wrap (2 ^ a.toNat))
def rd1 (d:InM) (q:Int × Int):Int × Int :=
 if decide (d.a < 0) then q else if decide (d.a ≥ 16) then q else if d.k == 2 then (orM q.1 d.a,q.2) else if d.k == 3 then (orM q.1 d.a,q.2) else if d.k == 4 then (q.1,orM q.2 d.a) else q
def rdL (ds:List InM):Nat→Nat→Int × Int→Int × Int
 | 0,_,q=>q
 | n+1,a,q=>rdL ds n (a+1) (rd1 (ds.getD a ⟨0,0⟩) q)
def Ql (ds:List InM) (x:Sp):Int × Int:=rdL ds ((mnL x.t ds.length).toNat - (mx0 x.f).toNat) (mx0 x.f).toNat (0,0)
theorem reads_any (t:TbM) (x:Sp) (w:World) (hl:TbL w t):Calls zG 23 #[.agg t.vals,.agg x.vals] w fun e w'=>e=.returned (.tuple #[.int .u16 (Ql t.ds x).1,.int .u16 (Ql t.ds x).2])∧Below w§ w w':=by
 have hb1:=Bn w (.cells t.vals 26)
 have hn1:=Hn w (.cells t.vals 26)
 have hs1:=Sa w (.cells t.vals 26)
 obtain⟨W1,e1⟩:∃ W,w.alloc (.cells t.vals 26)=W:=⟨_,rfl⟩
 have E1:Hid (w.alloc (.cells t.vals 26)=W1):=e1
 rw [e1] at hb1 hn1 hs1
 have hb2:=Bn W1 (.cells x.vals 65)
 have hn2:=Hn W1 (.cells x.vals 65)
 obtain⟨W2,e2⟩:∃ W,W1.alloc (.cells x.vals 65)=W:=⟨_,rfl⟩
 have E2:Hid (W1.alloc (.cells x.vals 65)=W2):=e2
 rw [e2] at hb2 hn2
 rw [hs1] at hn2
 have hk:W2.heap[w§]? = some (.cells t.vals 26 (0,0)):=(hb2.block _ (by omega)).trans hn1
 have HT2:Hid (W2.heap[w§]? = some (.cells t.vals 26 (0,0))):=hk
 have HB2:Hid (Below w§ w W2):=Qa hb1 hb2
 obtain⟨g3,e3⟩:∃ g,w§+1=g:=⟨_,rfl⟩
 rw [e3] at hn2
 have HN2:Hid (W2.heap[g3]? = some (.cells x.vals 65 (0,0))):=hn2
 have HG3:Hid (w§+1=g3):=e3
 have c0:W2.cell? ⟨g3,0,none⟩=some (zI x.f):=Co hn2 0
 have HSL:Hid (SlAt w 2 t.da t.dc (t.ds.map InM.vals)):=hl.D
 have HDI:Hid (∀ d ∈ t.ds,B8 d.k∧I64 d.a):=hl.Di
 obtain⟨R,eR⟩:∃ R,Ql t.ds x=R:=⟨_,rfl⟩
 have HR:Hid (R=rdL t.ds ((mnL x.t t.ds.length).toNat - (mx0 x.f).toNat) (mx0 x.f).toNat (0,0)):=eR.symm
 rw [eR]
 obtain⟨ds,eds⟩:∃ q,t.ds=q:=⟨_,rfl⟩
 obtain⟨da,eda⟩:∃ q,t.da=q:=⟨_,rfl⟩
 have HT4:Hid (∀ V:World,V.heap[w§]? = some (.cells t.vals 26 (0,0))→V.cell? ⟨w§,4,none⟩=some (.slice da ds.length t.dc)):=fun V hV=>by rw [← eds,← eda]; exact Co hV 4
 rw [eds] at HR HSL HDI
 rw [eda] at HSL
 have hlen:ds.length≤9223372036854775807:=by have h1:=HSL.out.1; have h2:=HSL.out.2.1; rw [List.length_map] at h1; omega
 obtain⟨A,eA⟩:∃ A:Nat,(mx0 x.f).toNat=A:=⟨_,rfl⟩
 obtain⟨Bd,eB⟩:∃ B:Int,mnL x.t ds.length=B:=⟨_,rfl⟩
 have hmx0:(if 0 > x.f then 0 else x.f)=(A:Int):=by show mx0 x.f=_; rw [← eA]; unfold mx0; split <;> omega
 have hBl:Bd≤ds.length:=by rw [← eB]; unfold mnL; split <;> omega
 have hBe:(if (ds.length:Int) < x.t then (ds.length:Int) else x.t)=Bd:=eB
 rw [eA, eB] at HR
 clear hb1 hn1 hs1 e1 hb2 hn2 e2 hk e3 hl eR eds eda eA
 go_enter Tryz.func23,Tryz.ntmps23
 go_upto_region 3 with fail
 rw [E1.out,E2.out,HG3.out]
 clear E1 E2
 have hm:=run_max
 have hn:=run_min
 go_wp2_with fail
 try rw [hmx0]
 clear hm
 go_loopw [6,7,8] (fun q6 q7 q8 wr=>∃ (a:Nat) (fm rm:Int),A≤a∧q8=zI a∧q6=.int .u16 fm∧q7=.int .u16 rm∧Hid (Below w§ w wr)∧Hid (wr.heap[w§]? = some (.cells t.vals 26 (0,0)))∧Hid (wr.heap[g3]? = some (.cells x.vals 65 (0,0)))∧Hid (R=rdL ds (Bd.toNat - a) a (fm,rm))) (fun _ _ q8 _=>Bd.toNat - (intOf q8).toNat)
 case atStart=>exact⟨A,0,0,by omega,rfl,rfl,rfl,HB2,HT2,HN2,HR⟩
 case round =>
  obtain⟨a,fm,rm,hAa,rfl,rfl,rfl,HBR,HTR,HNR,HRR⟩:=hrel
  have y1:wr.cell? ⟨g3,1,none⟩=some (zI x.t):=Co HNR.out 1
  have y4:=HT4.out wr HTR.out
  by_cases hlt:(a:Int) < Bd
  ·have hal:a < ds.length:=by omega
   have hal':(a:Int) < (ds.length:Int):=by omega
   obtain⟨n,en⟩:∃ n,Bd.toNat - a=n+1:=⟨Bd.toNat - a - 1,by omega⟩
   have HD:Hid (R=rdL ds (Bd.toNat - (a+1)) (a+1) (rd1 ds[a] (fm,rm))):=by show _=_; rw [HRR.out,en,show Bd.toNat - (a+1)=n by omega]; show rdL ds n (a+1) (rd1 (ds.getD a ⟨0,0⟩) (fm,rm))=_; rw [List.getD_eq_getElem?_getD,List.getElem?_eq_getElem hal]; rfl
   obtain⟨bb,o,ea,hat⟩:=(HSL.out.on (mapz InM.sz _) HBR.out).2.2 a (by rw [List.length_map]; exact hal)
   simp only [List.getElem_map] at hat
   have hdi:=(HDI.out ds[a] (List.getElem_mem hal)).2
   obtain⟨d,ed⟩:∃ d,ds[a]=d:=⟨_,rfl⟩
   rw [ed] at hat HD hdi
   have HRG:Hid (wr.rangeAt bb (o+a * 2) d.vals.toList):=fun j v hv=>by
    have hj:j < 2:=(List.getElem?_eq_some_iff.1 hv).1
    rw [hat j hj,← hv]; simp
   have HZ:Hid ((wr.alloc (.cells #[zU 0,zI 0] 61)).heap[wr§]? = some (.cells #[zU 0,zI 0] 61 (0,0))):=Hn _ _
   have HWX:Hid (Below wr§ wr ((wr.alloc (.cells #[zU 0,zI 0] 61)).setRow wr§ d.vals)):=Qc (Bn _ _) (Nat.le_refl _) _
   have HNX:Hid (((wr.alloc (.cells #[zU 0,zI 0] 61)).setRow wr§ d.vals).heap[wr§]? = some (.cells d.vals 61 (0,0))):=setRow_heap _ _ _ _ _ _ HZ.out
   subst ea
   clear hat ed en HRR
   go_upto_region 7 with (first | (refine wpList_load_mid rfl 61 (.tmp 26) rfl bb (o+a * 2) rfl d.vals.toList _ HRG.out Tryz.underlying61 rfl (by show _=some 2; exact Jq) ?_; rw [Array.toArray_toList]) | (refine wpList_store_row rfl 61 (.tmp 9) (.tmp 27) rfl wr§ d.vals rfl rfl 61 #[zU 0,zI 0] HZ.out Jq rfl (allIn d) ?_))
   generalize World.setRow _ _ _=WX at HWX HNX ⊢
   have HBX:Hid (Below w§ w WX):=Qa HBR.out HWX.out
   have HTX:Hid (WX.heap[w§]? = some (.cells t.vals 26 (0,0))):=(HWX.out.block _ (Array.getElem?_eq_some_iff.1 HTR.out).1).trans HTR.out
   have HSX:Hid (WX.heap[g3]? = some (.cells x.vals 65 (0,0))):=(HWX.out.block _ (Array.getElem?_eq_some_iff.1 HNR.out).1).trans HNR.out
   obtain⟨z0,z1⟩:=cl2 HNX.out
   clear HZ HRG HBR HTR HNR HWX HNX y1 y4 hn
   have hai:(a:Int)+1≤9223372036854775807:=by omega
   cases h0:decide (d.a < 0) with
   | true =>
    have HX:Hid (R=rdL ds (Bd.toNat - (a+1)) (a+1) (fm,rm)):=by show _=_; rw [HD.out]; unfold rd1; simp only [h0,reduceIte,Bool.false_eq_true,if_false,if_true]
    go_wp2_with fail
    exact⟨⟨a+1,fm,rm,by omega,rfl,by first | (unfold orM; rfl) | rfl | trivial,by first | (unfold orM; rfl) | rfl | trivial,HBX,HTX,HSX,HX⟩,by simp only [intOf]; omega⟩
   | false =>
    cases h16:decide (d.a ≥ 16) with
    | true =>
     have HX:Hid (R=rdL ds (Bd.toNat - (a+1)) (a+1) (fm,rm)):=by show _=_; rw [HD.out]; unfold rd1; simp only [h0,h16,reduceIte,Bool.false_eq_true,if_false,if_true]
     go_wp2_with fail
     exact⟨⟨a+1,fm,rm,by omega,rfl,by first | (unfold orM; rfl) | rfl | trivial,by first | (unfold orM; rfl) | rfl | trivial,HBX,HTX,HSX,HX⟩,by simp only [intOf]; omega⟩
    | false =>
     have ha0:0≤d.a:=by simpa using h0
     have ha16:d.a < 16:=by simpa using h16
     cases h2:(d.k == 2) with
     | true =>
      have HX:Hid (R=rdL ds (Bd.toNat - (a+1)) (a+1) (orM fm d.a,rm)):=by show _=_; rw [HD.out]; unfold rd1; simp only [h0,h16,h2,reduceIte,Bool.false_eq_true,if_false,if_true]
      go_wp2_with fail
      exact⟨⟨a+1,(orM fm d.a),rm,by omega,rfl,by first | (unfold orM; rfl) | rfl | trivial,by first | (unfold orM; rfl) | rfl | trivial,HBX,HTX,HSX,HX⟩,by simp only [intOf]; omega⟩
     | false =>
      cases h3:(d.k == 3) with
      | true =>
       have HX:Hid (R=rdL ds (Bd.toNat - (a+1)) (a+1) (orM fm d.a,rm)):=by show _=_; rw [HD.out]; unfold rd1; simp only [h0,h16,h2,h3,reduceIte,Bool.false_eq_true,if_false,if_true]
       go_wp2_with fail
       exact⟨⟨a+1,(orM fm d.a),rm,by omega,rfl,by first | (unfold orM; rfl) | rfl | trivial,by first | (unfold orM; rfl) | rfl | trivial,HBX,HTX,HSX,HX⟩,by simp only [intOf]; omega⟩
      | false =>
       cases h4:(d.k == 4) with
       | true =>
        have HX:Hid (R=rdL ds (Bd.toNat - (a+1)) (a+1) (fm,orM rm d.a)):=by show _=_; rw [HD.out]; unfold rd1; simp only [h0,h16,h2,h3,h4,reduceIte,Bool.false_eq_true,if_false,if_true]
        go_wp2_with fail
        exact⟨⟨a+1,fm,(orM rm d.a),by omega,rfl,by first | (unfold orM; rfl) | rfl | trivial,by first | (unfold orM; rfl) | rfl | trivial,HBX,HTX,HSX,HX⟩,by simp only [intOf]; omega⟩
       | false =>
        have HX:Hid (R=rdL ds (Bd.toNat - (a+1)) (a+1) (fm,rm)):=by show _=_; rw [HD.out]; unfold rd1; simp only [h0,h16,h2,h3,h4,reduceIte,Bool.false_eq_true,if_false,if_true]
        go_wp2_with fail
        exact⟨⟨a+1,fm,rm,by omega,rfl,by first | (unfold orM; rfl) | rfl | trivial,by first | (unfold orM; rfl) | rfl | trivial,HBX,HTX,HSX,HX⟩,by simp only [intOf]; omega⟩
  ·have HX:Hid (R=(fm,rm)):=by show _=_; rw [HRR.out,show Bd.toNat - a=0 by omega]; rfl
   go_wp2_with fail
   go_ret2
   exact⟨by rw [HX.out]; rfl,HBR.out⟩
def Jg (t:TbM):(Nat→Int)→List Sp→Int × (Nat→Int)
 | h,[]=>(0,h)
 | h,x :: l=>if (QE t h x.f.toNat x.t.toNat).1 == 0 then Jg t (QE t h x.f.toNat x.t.toNat).2 l else QE t h x.f.toNat x.t.toNat
def Kj (t:TbM):(Nat→Int)→List RowM→Int × (Nat→Int)
 | h,[]=>(0,h)
 | h,r :: l=>if (Jg t h (hasL r)).1 == 0 then Kj t (Jg t h (hasL r)).2 l else Jg t h (hasL r)
def gdE (t:TbM) (h:Nat→Int) (g:GdM):Int × (Nat→Int) :=
 if (QE t h g.wh.f.toNat g.wh.t.toNat).1 == 0 then (if (Ql t.ds g.wh).1 == g.fd then (if (Ql t.ds g.wh).2 == g.rg then Kj t (QE t h g.wh.f.toNat g.wh.t.toNat).2 g.rs else (193,(QE t h g.wh.f.toNat g.wh.t.toNat).2)) else (193,(QE t h g.wh.f.toNat g.wh.t.toNat).2)) else QE t h g.wh.f.toNat g.wh.t.toNat
theorem spansE_ok (t:TbM):∀ (l:List Sp) (h:Nat→Int),HOk h→HOk (Jg t h l).2
 | [],h,k=>k
 | x :: l,h,k=>by
  unfold Jg
  split
  ·exact spansE_ok t l _ (J1 t k _ _)
  ·exact J1 t k _ _
theorem rowsE_ok (t:TbM):∀ (l:List RowM) (h:Nat→Int),HOk h→HOk (Kj t h l).2
 | [],h,k=>k
 | x :: l,h,k=>by
  unfold Kj
  split
  ·exact rowsE_ok t l _ (spansE_ok t _ _ k)
  ·exact spansE_ok t _ _ k
theorem gdE_ok (t:TbM) (g:GdM) {h:Nat→Int}(k:HOk h):HOk (gdE t h g).2:=by
 unfold gdE
 repeat' split
 all_goals first | exact rowsE_ok t _ _ (J1 t k _ _) | exact J1 t k _ _
def SpW (t:TbM) (x:Sp):Prop:=0≤x.f∧x.f < x.t∧x.t≤t.ds.length
def GdW (t:TbM) (g:GdM):Prop:=∀ x ∈ gSp g,SpW t x
theorem span_sp (C:Nat) (t:TbM) (h:Nat→Int) (x:Sp) (w:World) (w0:World) (hc:Cx w0 C t w h) (hx:SpW t x) (hs:t.rs.length≤12∧t.cs.length≤1024∧t.ds.length≤4096):Calls zG 98 #[zP C,.agg x.vals] w fun e w'=>e=.returned (zI (QE t h x.f.toNat x.t.toNat).1)∧Mv w w' (fun k=>k=C)∧CkAt w' C t (QE t h x.f.toNat x.t.toNat).2:=by
 obtain⟨f,b⟩:=x
 obtain⟨h0,h1,h2⟩:=hx
 simp only at h0 h1 h2
 obtain⟨n,rfl⟩:=Int.eq_ofNat_of_zero_le h0
 obtain⟨m,rfl⟩:=Int.eq_ofNat_of_zero_le (show 0≤b by omega)
 exact span_any C t h n m w w0 hc (by omega) (by omega) hs
theorem SlAt.mv {w w':World}{n:Nat}{a:Option Addr}{c:Nat}{vs:List (Array Value)}(h:SlAt w n a c vs) (hz:∀ x ∈ vs,n≤x.size) (h0:0 < n) {C:Nat}(m:Mv w w' (fun k=>k=C)) (hC:∀ b o,a=some ⟨b,o,none⟩→b≠C):SlAt w' n a c vs:=by
 refine⟨h.1,h.2.1,fun i hi=>?_⟩
 obtain⟨b,o,h1,h2⟩:=h.2.2 i hi
 refine⟨b,o,h1,fun j hj=>?_⟩
 have hs:=hz _ (List.getElem_mem hi)
 have h3:=h2 j hj
 rw [Array.getElem?_eq_getElem (by omega)] at h3
 rw [World.cell?_of_block (m.block b (World.block_lt_of_cell? w _ h3) (hC b o h1)),h3,Array.getElem?_eq_getElem (by omega)]
theorem guard_any (C : Nat) (t : TbM) (h : Nat → Int) (x : GdM) (w : World) (w0 : World) (hc : Cx w0 C t w h) (hg : GdL w0 x) (hw : GdW t x) (hs : t.rs.length ≤ 12 ∧ t.cs.length ≤ 1024 ∧ t.ds.length ≤ 4096) : Calls zG 65 #[.pointer (some ⟨C, 0, none⟩), .agg x.vals] w fun e w' => e = .returned (zI (gdE t h x).1) ∧ Mv w w' (fun k => k = C) ∧ CkAt w' C t (gdE t h x).2 := by
 have hb1:=Bn w (.cells x.vals 68)
 have hn1:=Hn w (.cells x.vals 68)
 obtain⟨W1,e1⟩:∃ W,w.alloc (.cells x.vals 68)=W:=⟨_,rfl⟩
 have E1:Hid (w.alloc (.cells x.vals 68)=W1):=e1
 rw [e1] at hb1 hn1
 have HB1:Hid (Below w§ w W1):=hb1
 have c0:W1.cell? ⟨w§,0,none⟩=some (zI x.wh.f):=Co hn1 0
 have c1:W1.cell? ⟨w§,1,none⟩=some (zI x.wh.t):=Co hn1 1
 have HN1:Hid (W1.heap[w§]? = some (.cells x.vals 68 (0,0))):=hn1
 have HS1:Hid (W1§=w§+1):=by show _=_; rw [← e1]; exact Sa _ _
 clear hb1 e1 hn1
 obtain⟨R,eR⟩:∃ R,gdE t h x=R:=⟨_,rfl⟩
 rw [eR]
 have HR:Hid (R=if (QE t h x.wh.f.toNat x.wh.t.toNat).1 == 0 then (if (Ql t.ds x.wh).1 == x.fd then (if (Ql t.ds x.wh).2 == x.rg then Kj t (QE t h x.wh.f.toNat x.wh.t.toNat).2 x.rs else (193,(QE t h x.wh.f.toNat x.wh.t.toNat).2)) else (193,(QE t h x.wh.f.toNat x.wh.t.toNat).2)) else QE t h x.wh.f.toNat x.wh.t.toNat):=eR.symm
 have HCX:Hid (Cx w0 C t W1 h):=hc.on HB1.out
 have HM1 : Hid (Mv w W1 (fun k => k = C)) := Mv.ofBelow HB1.out
 have HCL:Hid (C < w§):=hc.K.L
 have HSL:Hid (SlAt w0 11 x.a x.c (x.rs.map RowM.vals)):=hg.2.2.2.1
 have HGW:Hid (∀ y ∈ gSp x,SpW t y):=hw
 have HWX0:Hid (SpW t x.wh):=hw x.wh (List.mem_cons_self ..)
 have HSZ:Hid (t.rs.length≤12∧t.cs.length≤1024∧t.ds.length≤4096):=hs
 have HOE:Hid (HOk (QE t h x.wh.f.toNat x.wh.t.toNat).2):=J1 t hc.O _ _
 have cS:=span_sp C t h x.wh W1 w0 HCX.out HWX0.out hs
 obtain⟨S,eS⟩:∃ S,QE t h x.wh.f.toNat x.wh.t.toNat=S:=⟨_,rfl⟩
 rw [eS] at cS HR HOE
 unfold Sp.vals at cS
 clear eR eS hc hg hw hs
 go_enter Tryz.func65,Tryz.ntmps65
 go_upto_region 1 with fail
 rw [E1.out]
 clear E1
 go_wp2_with fail
 refine cS.mono ?_
 rintro e w2 ⟨rfl,hm2,hk2⟩
 have HM2:Hid (Mv w w2 (fun k=>k=C)):=HM1.out.trans hm2 (fun _ e=>.inl e)
 have HK2:Hid (CkAt w2 C t S.2):=hk2
 have HN2:Hid (w2.heap[w§]? = some (.cells x.vals 68 (0,0))):=(hm2.block _ (by rw [HS1.out]; omega) (by have:=HCL.out; omega)).trans HN1.out
 have HC2:Hid (Cx w0 C t w2 S.2):=HCX.out.mv hm2 hk2 HOE.out
 clear cS hm2 hk2 c0 c1 HN1 HB1 HCX HS1 HM1
 cases hz:(S.1 == 0) with
 | false =>
  have HX:Hid (R=S):=by show _=_; rw [HR.out,if_neg (by simp [hz])]
  go_wp2_with fail
  go_ret
  exact⟨by rw [HX.out]; rfl,HM2.out,by rw [HX.out]; exact HK2.out⟩
 | true =>
  have HD1:Hid (R=(if (Ql t.ds x.wh).1 == x.fd then (if (Ql t.ds x.wh).2 == x.rg then Kj t S.2 x.rs else (193,S.2)) else (193,S.2))):=by show _=_; rw [HR.out,if_pos hz]
  have cR:=reads_any t x.wh
  have HFA:Hid (∀ v:World,Below w2§ w2 v→v.cell? ⟨C,0,none⟩=some (.string t.x)∧v.cell? ⟨C,1,none⟩=some (.slice t.ra t.rs.length t.rc)∧v.cell? ⟨C,2,none⟩=some (zI t.sl)∧v.cell? ⟨C,3,none⟩=some (.slice t.ca t.cs.length t.cc)∧v.cell? ⟨C,4,none⟩=some (.slice t.da t.ds.length t.dc)∧v.cell? ⟨C,5,none⟩=some (.slice t.ta t.ts.length t.tc)∧v.cell? ⟨w§,0,none⟩=some (zI x.wh.f)∧v.cell? ⟨w§,1,none⟩=some (zI x.wh.t)):=fun v hv=>by
   have k:=HK2.out.on hv
   have g:=(hv.block _ (Array.getElem?_eq_some_iff.1 HN2.out).1).trans HN2.out
   exact⟨k.T 0 (by omega),k.T 1 (by omega),k.T 2 (by omega),k.T 3 (by omega),k.T 4 (by omega),k.T 5 (by omega),Co g 0,Co g 1⟩
  have cR:=reads_any t x.wh w2.drew (HC2.out.tb.on ⟨rfl,rfl,rfl,Nat.le_refl _,fun _ _=>rfl⟩)
  obtain⟨M,eM⟩:∃ M,Ql t.ds x.wh=M:=⟨_,rfl⟩
  rw [eM] at cR HD1
  unfold TbM.vals Sp.vals at cR
  clear HR eM
  go_upto_region 4 with fail
  refine wp_region_held_drew (S:=fun v=>Below w2§ w2 v) zK ⟨rfl,rfl,rfl,Nat.le_refl _,fun _ _=>rfl⟩ (fun hHeld=>?_)
  refine wpAnyH_take (i:=0) (v:=?_) rfl zK zK zK (fun _ _ _ h=>h) (Or.inl ⟨by rfl,?_⟩) (by assumption) ?_
  rotate_left
  ·(intro v hv; go_simp; try (with_reducible rfl))
  try simp [Act.put]
  refine wpAnyH_take (i:=1) (v:=?_) rfl zK zK zK (fun _ _ _ h=>h) (Or.inl ⟨by rfl,?_⟩) (by assumption) ?_
  rotate_left
  ·(intro v hv; go_simp; try (with_reducible rfl))
  try simp [Act.put]
  refine wpAnyH_take (i:=2) (v:=?_) rfl zK zK zK (fun _ _ _ h=>h) (Or.inl ⟨by rfl,?_⟩) (by assumption) ?_
  rotate_left
  ·(intro v hv; go_simp; try (with_reducible rfl))
  try simp [Act.put]
  refine wpAnyH_take (i:=3) (v:=?_) rfl zK zK zK (fun _ _ _ h=>h) (Or.inl ⟨by rfl,?_⟩) (by assumption) ?_
  rotate_left
  ·(intro v hv; obtain⟨a0,a1,a2,a3,a4,a5,b0,b1⟩:=HFA.out v hv; go_simp; try (with_reducible rfl))
  try simp [Act.put]
  refine wpAnyH_take (i:=4) (v:=?_) rfl zK zK zK (fun _ _ _ h=>h) (Or.inl ⟨by rfl,?_⟩) (by assumption) ?_
  rotate_left
  ·(intro v hv; go_simp; try (with_reducible rfl))
  try simp [Act.put]
  refine wpAnyH_take (i:=5) (v:=?_) rfl zK zK zK (fun _ _ _ h=>h) (Or.inl ⟨by rfl,?_⟩) (by assumption) ?_
  rotate_left
  ·(intro v hv; obtain⟨a0,a1,a2,a3,a4,a5,b0,b1⟩:=HFA.out v hv; go_simp; try (with_reducible rfl))
  try simp [Act.put]
  refine wpAnyH_ready (rs:=[6]) zK (by simp) ?_
  refine AllReadyH.cons rfl (fun K hK=>?_) AllReadyH.nil
  go_simp
  refine cR.mono ?_
  rintro e w5 ⟨rfl,hb5⟩
  have hB5:Below w2§ w2 w5:=⟨hb5.os,hb5.tape,hb5.output,hb5.size,hb5.block⟩
  refine hK.out _ _ hB5 (fun hHeld=>?_)
  clear hK K cR hb5
  try simp [Act.put]
  refine wpAnyH_take (i:=7) (v:=?_) rfl zK zK zK (fun _ _ _ h=>h) (Or.inl ⟨by rfl,?_⟩) (by assumption) ?_
  rotate_left
  ·(intro v hv; go_simp; try (with_reducible rfl))
  try simp [Act.put]
  refine wpAnyH_take (i:=8) (v:=?_) rfl zK zK zK (fun _ _ _ h=>h) (Or.inl ⟨by rfl,?_⟩) (by assumption) ?_
  rotate_left
  ·(intro v hv; go_simp; try (with_reducible rfl))
  try simp [Act.put]
  refine wpAnyH_take (i:=9) (v:=?_) rfl zK zK zK (fun _ _ _ h=>h) (Or.inl ⟨by rfl,?_⟩) (by assumption) ?_
  rotate_left
  ·(intro v hv; go_simp; try (with_reducible rfl))
  try simp [Act.put]
  refine wpAnyH_take (i:=10) (v:=?_) rfl zK zK zK (fun _ _ _ h=>h) (Or.inl ⟨by rfl,?_⟩) (by assumption) ?_
  rotate_left
  ·(intro v hv; go_simp; try (with_reducible rfl))
  try simp [Act.put]
  refine wpAnyH_take (i:=11) (v:=?_) rfl zK zK zK (fun _ _ _ h=>h) (Or.inl ⟨by rfl,?_⟩) (by assumption) ?_
  rotate_left
  ·(intro v hv; go_simp; try (with_reducible rfl))
  try simp [Act.put]
  refine wpAnyH_done zK ?_ _
  have HC5:Hid (Cx w0 C t w5 S.2):=HC2.out.on hB5
  have HM5:Hid (Mv w w5 (fun k=>k=C)):=HM2.out.trans (Mv.ofBelow (F:=fun _=>False) hB5) (fun _ e=>e.elim)
  have HN5:Hid (w5.heap[w§]? = some (.cells x.vals 68 (0,0))):=(hB5.block _ (Array.getElem?_eq_some_iff.1 HN2.out).1).trans HN2.out
  have d2:w5.cell? ⟨w§,2,none⟩=some (.int .u16 x.fd):=Co HN5.out 2
  have d3:w5.cell? ⟨w§,3,none⟩=some (.int .u16 x.rg):=Co HN5.out 3
  have d4:w5.cell? ⟨w§,4,none⟩=some (.slice x.a x.rs.length x.c):=Co HN5.out 4
  obtain⟨rs,ers⟩:∃ q,x.rs=q:=⟨_,rfl⟩
  obtain⟨xa,exa⟩:∃ q,x.a=q:=⟨_,rfl⟩
  have HGR:Hid (∀ r ∈ rs,∀ y ∈ hasL r,SpW t y):=fun r hr y hy=>HGW.out y (by unfold gSp; rw [ers]; exact List.mem_cons_of_mem _ (List.mem_flatten.2 ⟨hasL r,List.mem_map.2 ⟨r,hr,rfl⟩,hy⟩))
  rw [ers,exa] at HSL d4
  rw [ers] at HD1
  clear HC2 HM2 HN2 HK2 HFA hB5 hHeld ers exa
  cases hf:(M.1 == x.fd) with
  | false =>
   have hfn:(M.1 != x.fd)=true:=by simp [bne,hf]
   have HX:Hid (R=(193,S.2)):=by show _=_; rw [HD1.out,if_neg (by simp [hf])]
   go_wp2_with fail
   go_ret
   exact⟨by rw [HX.out]; rfl,HM5.out,by rw [HX.out]; exact HC5.out.K⟩
  | true =>
   have hfn:(M.1 != x.fd)=false:=by simp [bne,hf]
   cases hr:(M.2 == x.rg) with
   | false =>
    have hrn:(M.2 != x.rg)=true:=by simp [bne,hr]
    have HX:Hid (R=(193,S.2)):=by show _=_; rw [HD1.out,if_pos hf,if_neg (by simp [hr])]
    go_wp2_with fail
    go_ret
    exact⟨by rw [HX.out]; rfl,HM5.out,by rw [HX.out]; exact HC5.out.K⟩
   | true =>
    have hrn:(M.2 != x.rg)=false:=by simp [bne,hr]
    have HX:Hid (R=Kj t S.2 (rs.drop 0)):=by show _=_; rw [HD1.out,if_pos hf,if_pos hr]; rfl
    clear HD1
    go_wp2_with fail
    clear hf hr hfn hrn d2 d3 d4 hz
    go_loopw [43] (fun q wr=>∃ (i:Nat) (g:Nat→Int),i≤rs.length∧q=zI i∧Hid (Cx w0 C t wr g)∧Hid (Mv w wr (fun k=>k=C))∧Hid (R=Kj t g (rs.drop i))) (fun q _=>rs.length - (intOf q).toNat)
    case atStart=>exact⟨0,S.2,by omega,rfl,HC5,HM5,HX⟩
    case round =>
     obtain⟨i,g,hi,rfl,HCR,HMR,HRR⟩:=hrel
     have HBR:Hid (Below w0§ w0 wr):=HCR.out.B
     by_cases hlt:i < rs.length
     ·have hlt':(i:Int) < (rs.length:Int):=by omega
      have hmx:(i:Int)+1≤9223372036854775807:=by have h1:=HSL.out.1; have h2:=HSL.out.2.1; rw [List.length_map] at h1; omega
      obtain⟨bb,o,ea,hat⟩:=(HSL.out.on (mapz RowM.sz _) HBR.out).2.2 i (by rw [List.length_map]; exact hlt)
      simp only [List.getElem_map] at hat
      have HMEM:Hid (rs[i] ∈ rs):=List.getElem_mem hlt
      have HD:Hid (R=if (Jg t g (hasL rs[i])).1 == 0 then Kj t (Jg t g (hasL rs[i])).2 (rs.drop (i+1)) else Jg t g (hasL rs[i])):=by show _=_; rw [HRR.out,List.drop_eq_getElem_cons hlt]; rfl
      obtain⟨d,ed⟩:∃ d,rs[i]=d:=⟨_,rfl⟩
      rw [ed] at hat HMEM HD
      have HRG:Hid (wr.rangeAt bb (o+i * 11) d.vals.toList):=fun j v hv=>by
       have hj:j < 11:=(List.getElem?_eq_some_iff.1 hv).1
       rw [hat j hj,← hv]; simp
      have HZ:Hid ((wr.alloc (.cells zA1 85)).heap[wr§]? = some (.cells zA1 85 (0,0))):=Hn _ _
      have HWX:Hid (Below wr§ wr ((wr.alloc (.cells zA1 85)).setRow wr§ d.vals)):=Qc (Bn _ _) (Nat.le_refl _) _
      have HNX:Hid (((wr.alloc (.cells zA1 85)).setRow wr§ d.vals).heap[wr§]? = some (.cells d.vals 85 (0,0))):=setRow_heap _ _ _ _ _ _ HZ.out
      subst ea
      clear hat ed
      go_upto_region 10 with (first | (refine wpList_load_mid rfl 85 (.tmp 45) rfl bb (o+i * 11) rfl d.vals.toList _ HRG.out Tryz.underlying85 rfl (by show _=some 11; exact Qi) ?_; rw [Array.toArray_toList]) | (refine wpList_store_row rfl 85 (.tmp 9) (.tmp 46) rfl wr§ d.vals rfl rfl 85 zA1 HZ.out Qi rfl (QQ d) ?_))
      generalize World.setRow _ _ _=WX at HWX HNX ⊢
      clear HZ HRG
      have HCX2:Hid (Cx w0 C t WX g):=HCR.out.on HWX.out
      have HMX2:Hid (Mv w WX (fun k=>k=C)):=HMR.out.trans (Mv.ofBelow (F:=fun _=>False) HWX.out) (fun _ e=>e.elim)
      have HGD:Hid (∀ y ∈ hasL d,SpW t y):=HGR.out d HMEM.out
      have cH:=has_any d WX
      have hl4:=Kg d 4 (by omega)
      obtain⟨sp,esp⟩:∃ q,hasL d=q:=⟨_,rfl⟩
      rw [esp] at cH HGD HD
      have HL4:Hid (sp.length≤4):=by rw [← esp]; exact hl4
      obtain⟨RR2,eRR⟩:∃ q,Jg t g sp=q:=⟨_,rfl⟩
      have HR0:Hid (RR2=Jg t g (sp.drop 0)):=by show _=_; rw [← eRR]; rfl
      have HO2:Hid (HOk RR2.2):=by rw [← eRR]; exact spansE_ok t _ _ HCR.out.O
      rw [eRR] at HD
      clear HRR HCR HMR HBR HMEM esp hl4 eRR
      go_wp2_with (refine wpList_load_row rfl 85 (.tmp 9) rfl wr§ rfl 85 d.vals (0,0) _ HNX.out Tryz.underlying85 rfl Qi ?_)
      refine cH.mono ?_
      rintro e w7 ⟨ua,uc,rfl,hU,hnil,hfr,hb7⟩
      have HU:Hid (SlAt w7 2 ua uc (sp.map Sp.vals)):=hU
      have HC7:Hid (Cx w0 C t w7 g):=HCX2.out.on hb7
      have HM7:Hid (Mv w w7 (fun k=>k=C)):=HMX2.out.trans (Mv.ofBelow (F:=fun _=>False) hb7) (fun _ e=>e.elim)
      have HUC:Hid (∀ b o,ua=some ⟨b,o,none⟩→b≠C):=fun b o e=>by have h1:=(hfr b o e).1; have h2:=HCX2.out.K.L; omega
      clear cH hU hnil hfr hb7 HCX2 HMX2 HWX HNX
      go_wp2_with fail
      go_loopw [50] (fun q wr=>∃ (j:Nat) (g2:Nat→Int),j≤sp.length∧q=zI j∧Hid (Cx w0 C t wr g2)∧Hid (Mv w7 wr (fun k=>k=C))∧Hid (RR2=Jg t g2 (sp.drop j))) (fun q _=>sp.length - (intOf q).toNat)
      case atStart=>exact⟨0,g,by omega,rfl,HC7,Mv.refl _ _,HR0⟩
      case round =>
       obtain⟨j,g2,hj,rfl,HCR,HMR,HR2⟩:=hrel
       by_cases hltj:j < sp.length
       ·have HU2:Hid (SlAt wr 2 ua uc (sp.map Sp.vals)):=HU.out.mv (mapz Sp.sz _) (by omega) HMR.out HUC.out
        have hltj':(j:Int) < (sp.length:Int):=by omega
        have hmxj:(j:Int)+1≤9223372036854775807:=by have h1:=HU2.out.1; have h2:=HU2.out.2.1; rw [List.length_map] at h1; omega
        obtain⟨b2,o2,ea,hat⟩:=(HU2.out.on (mapz Sp.sz _) (Below.refl _ _)).2.2 j (by rw [List.length_map]; exact hltj)
        simp only [List.getElem_map] at hat
        have HMEM:Hid (sp[j] ∈ sp):=List.getElem_mem hltj
        have HD2:Hid (RR2=if (QE t g2 sp[j].f.toNat sp[j].t.toNat).1 == 0 then Jg t (QE t g2 sp[j].f.toNat sp[j].t.toNat).2 (sp.drop (j+1)) else QE t g2 sp[j].f.toNat sp[j].t.toNat):=by show _=_; rw [HR2.out,List.drop_eq_getElem_cons hltj]; rfl
        obtain⟨y,ed⟩:∃ y,sp[j]=y:=⟨_,rfl⟩
        rw [ed] at hat HMEM HD2
        have HRG:Hid (wr.rangeAt b2 (o2+j * 2) y.vals.toList):=fun j9 v hv=>by
         have hj9:j9 < 2:=(List.getElem?_eq_some_iff.1 hv).1
         rw [hat j9 hj9,← hv]; simp
        have HZ:Hid ((wr.alloc (.cells #[zI 0,zI 0] 65)).heap[wr§]? = some (.cells #[zI 0,zI 0] 65 (0,0))):=Hn _ _
        have HWX:Hid (Below wr§ wr ((wr.alloc (.cells #[zI 0,zI 0] 65)).setRow wr§ y.vals)):=Qc (Bn _ _) (Nat.le_refl _) _
        have HNX:Hid (((wr.alloc (.cells #[zI 0,zI 0] 65)).setRow wr§ y.vals).heap[wr§]? = some (.cells y.vals 65 (0,0))):=setRow_heap _ _ _ _ _ _ HZ.out
        subst ea
        clear hat ed
        go_upto_region 13 with (first | (refine wpList_load_mid rfl 65 (.tmp 52) rfl b2 (o2+j * 2) rfl y.vals.toList _ HRG.out Tryz.underlying65 rfl (by show _=some 2; exact Qt) ?_; rw [Array.toArray_toList]) | (refine wpList_store_row rfl 65 (.tmp 11) (.tmp 53) rfl wr§ y.vals rfl rfl 65 #[zI 0,zI 0] HZ.out Qt rfl (JF y) ?_))
        generalize World.setRow _ _ _=WX at HWX HNX ⊢
        clear HZ HRG
        have HCX2:Hid (Cx w0 C t WX g2):=HCR.out.on HWX.out
        have HMX2:Hid (Mv w7 WX (fun k=>k=C)):=HMR.out.trans (Mv.ofBelow (F:=fun _=>False) HWX.out) (fun _ e=>e.elim)
        have cS:=span_sp C t g2 y WX w0 HCX2.out (HGD.out y HMEM.out) HSZ.out
        have HOS:Hid (HOk (QE t g2 y.f.toNat y.t.toNat).2):=J1 t HCX2.out.O _ _
        obtain⟨T,eT⟩:∃ T,QE t g2 y.f.toNat y.t.toNat=T:=⟨_,rfl⟩
        rw [eT] at cS HD2 HOS
        clear HCR HMR HR2 HMEM eT
        go_wp2_with (refine wpList_load_row rfl 65 (.tmp 11) rfl wr§ rfl 65 y.vals (0,0) _ HNX.out Tryz.underlying65 rfl Qt ?_)
        refine cS.mono ?_
        rintro e w8 ⟨rfl,hm8,hk8⟩
        have HC8:Hid (Cx w0 C t w8 T.2):=HCX2.out.mv hm8 hk8 HOS.out
        have HM8:Hid (Mv w7 w8 (fun k=>k=C)):=HMX2.out.trans hm8 (fun _ e=>.inl e)
        clear cS hm8 hk8 HNX HWX HCX2 HMX2
        obtain⟨T1,T2⟩:=T
        simp only at HC8 HD2 HOS ⊢
        cases hz2:(T1 == 0) with
        | false =>
         have HE2:Hid (RR2=(T1,T2)):=by show _=_; rw [HD2.out,if_neg (by simp [hz2])]
         have HE3:Hid (R=(T1,T2)):=by show _=_; rw [HD.out,HE2.out,if_neg (by simp [hz2])]
         have HM9:Hid (Mv w w8 (fun k=>k=C)):=HM7.out.trans HM8.out (fun _ e=>.inl e)
         have hq:(T1 != 0)=true:=by simp [bne,hz2]
         clear HD2 HD HR0 HX HGR HGW HSL HU HUC HL4 HO2 HGD HCL HM7 HC7 HSZ
         go_wp2_with fail
         go_ret
         exact⟨by rw [HE3.out]; rfl,HM9.out,by rw [HE3.out]; exact HC8.out.K⟩
        | true =>
         have HE2:Hid (RR2=Jg t T2 (sp.drop (j+1))):=by show _=_; rw [HD2.out,if_pos hz2]
         have hq:(T1 != 0)=false:=by simp [bne,hz2]
         clear HD2 HD HR0 HX HGR HGW HSL HU HUC HL4 HO2 HGD HCL HM7 HC7 HSZ
         go_wp2_with fail
         exact⟨⟨j+1,T2,hltj,rfl,HC8,HM8,HE2⟩,by simp only [intOf]; omega⟩
       ·obtain rfl:j=sp.length:=by omega
        have hnot:¬ (sp.length:Int) < (sp.length:Int):=by omega
        have HE2:Hid (RR2=(0,g2)):=by show _=_; rw [HR2.out,List.drop_length]; rfl
        have HE3:Hid (R=Kj t g2 (rs.drop (i+1))):=by show _=_; rw [HD.out,HE2.out]; rfl
        have HM9:Hid (Mv w wr (fun k=>k=C)):=HM7.out.trans HMR.out (fun _ e=>.inl e)
        go_wp2_with fail
        exact⟨⟨i+1,g2,hlt,rfl,HCR,HM9,HE3⟩,by simp only [intOf]; omega⟩
     ·obtain rfl:i=rs.length:=by omega
      have hnot:¬ (rs.length:Int) < (rs.length:Int):=by omega
      have HE3:Hid (R=(0,g)):=by show _=_; rw [HRR.out,List.drop_length]; rfl
      go_wp2_with fail
      go_ret
      exact⟨by rw [HE3.out]; rfl,HMR.out,by rw [HE3.out]; exact HCR.out.K⟩
def gdsE (t:TbM):(Nat→Int)→List GdM→Int × (Nat→Int)
 | h,[]=>(0,h)
 | h,g :: l=>if (gdE t h g).1 == 0 then gdsE t (gdE t h g).2 l else gdE t h g
def stsE (t:TbM):(Nat→Int)→List StM→Int × (Nat→Int)
 | h,[]=>(0,h)
 | h,s :: l=>if (gdsE t h s.gs).1 == 0 then stsE t (gdsE t h s.gs).2 l else gdsE t h s.gs
def Qp (t:TbM):Int:=if QG t then (stsE t (fun _=>0) t.ts).1 else 190
theorem liesN_w:∀ (l:List Sp) (p q:Int),Qv p l=some q→0≤p→p≤q∧∀ x ∈ l,0≤x.f∧x.f < x.t∧x.t≤q
 | [],p,q,h,h0=>by
  have:p=q:=Option.some.inj h
  exact⟨by omega,fun x hx=>by simp at hx⟩
 | y :: l,p,q,h,h0=>by
  unfold Qv at h
  split at h
  ·cases h
  ·rename_i hc
   simp only [Bool.or_eq_true,bne_iff_ne,ne_eq,decide_eq_true_eq,not_or,Decidable.not_not] at hc
   obtain⟨h1,h2⟩:=liesN_w l y.t q h (by omega)
   refine⟨by omega,fun x hx=>?_⟩
   rcases List.mem_cons.1 hx with rfl | hx
   ·omega
   ·exact h2 x hx
theorem gdsN_w (sl:Int) (nr ns:Nat):∀ (l:List GdM) (p q:Int),gdsN sl nr ns p l=some q→0≤p→p≤q∧∀ g ∈ l,∀ x ∈ gSp g,0≤x.f∧x.f < x.t∧x.t≤q
 | [],p,q,h,h0=>by
  have:p=q:=Option.some.inj h
  exact⟨by omega,fun x hx=>by simp at hx⟩
 | y :: l,p,q,h,h0=>by
  unfold gdsN at h
  obtain⟨r,hr,h⟩:=Option.bind_eq_some_iff.1 h
  unfold gdN at hr
  split at hr
  ·obtain⟨h1,h2⟩:=liesN_w _ p r hr h0
   obtain⟨h3,h4⟩:=gdsN_w sl nr ns l r q h (by omega)
   refine⟨by omega,fun g hg x hx=>?_⟩
   rcases List.mem_cons.1 hg with rfl | hg
   ·have:=h2 x hx; omega
   ·exact h4 g hg x hx
  ·cases hr
theorem stsN_w (sl:Int) (nr ns:Nat):∀ (l:List StM) (p q:Int),stsN sl nr ns p l=some q→0≤p→p≤q∧∀ s ∈ l,∀ g ∈ s.gs,∀ x ∈ gSp g,0≤x.f∧x.f < x.t∧x.t≤q
 | [],p,q,h,h0=>by
  have:p=q:=Option.some.inj h
  exact⟨by omega,fun x hx=>by simp at hx⟩
 | y :: l,p,q,h,h0=>by
  unfold stsN at h
  split at h
  ·cases h
  ·obtain⟨r,hr,h⟩:=Option.bind_eq_some_iff.1 h
   obtain⟨h1,h2⟩:=gdsN_w sl nr ns _ p r hr h0
   obtain⟨h3,h4⟩:=stsN_w sl nr ns l r q h (by omega)
   refine⟨by omega,fun s hs g hg x hx=>?_⟩
   rcases List.mem_cons.1 hs with rfl | hs
   ·have:=h2 g hg x hx; omega
   ·exact h4 s hs g hg x hx
theorem form_w {t:TbM}(h:QG t=true):(t.rs.length≤12∧t.cs.length≤1024∧t.ds.length≤4096)∧∀ s ∈ t.ts,∀ g ∈ s.gs,GdW t g:=by
 unfold QG at h
 rw [Bool.and_eq_true,Bool.and_eq_true] at h
 obtain⟨⟨_,h2⟩,h3⟩:=h
 constructor
 ·unfold Q0 at h2
  simp only [Bool.and_eq_true,decide_eq_true_eq] at h2
  omega
 ·unfold endB at h3
  split at h3
  ·rename_i q hq
   have hq2:q=(t.ds.length:Int):=by simpa using h3
   obtain⟨_,h4⟩:=stsN_w _ _ _ _ 0 q hq (by omega)
   intro s hs g hg x hx
   have:=h4 s hs g hg x hx
   unfold SpW
   omega
  ·cases h3
theorem check_m (C:Nat) (t:TbM) (h:Nat→Int) (w:World) (w0:World) (hc:Cx w0 C t w h) (hw:∀ s ∈ t.ts,∀ g ∈ s.gs,GdW t g) (hs:t.rs.length≤12∧t.cs.length≤1024∧t.ds.length≤4096):Calls zG 26 #[zP C] w fun e w'=>e=.returned (zI (stsE t h t.ts).1)∧Mv w w' (fun k=>k=C):=by
 obtain⟨R,eR⟩:∃ R,stsE t h t.ts=R:=⟨_,rfl⟩
 rw [eR]
 have HX:=zH eR.symm
 have HTT:=zH hc.T.T
 have HTI:Hid (∀ s ∈ t.ts,StL w0 s):=hc.T.Ti
 have HC0:Hid (Cx w0 C t w h):=hc
 have HGW:=zH hw
 have HSZ:=zH hs
 have c5:=hc.K.c5
 obtain⟨ta,eta⟩:∃ q,t.ta=q:=⟨_,rfl⟩
 rw [eta] at c5 HTT
 clear eR hc hw hs eta
 go_enter Tryz.func26,Tryz.ntmps26
 go_wp2_with fail
 go_loopw [14] (fun q wr=>∃ (i:Nat) (g:Nat→Int),i≤t.ts.length∧q=zI i∧Hid (Cx w0 C t wr g)∧Hid (Mv w wr (fun k=>k=C))∧Hid (R=stsE t g (t.ts.drop i))) (fun q _=>t.ts.length - (intOf q).toNat)
 case atStart=>exact⟨0,h,by omega,rfl,HC0,Mv.refl _ _,HX⟩
 case round =>
  obtain⟨i,g,hi,rfl,HCR,HMR,HRR⟩:=hrel
  by_cases hlt:i < t.ts.length
  ·rename World=>V
   have hlt':(i:Int) < (t.ts.length:Int):=by omega
   have hmx:(i:Int)+1≤9223372036854775807:=by have h1:=HTT.out.1; have h2:=HTT.out.2.1; rw [List.length_map] at h1; omega
   obtain⟨bb,o,ea,hat⟩:=(HTT.out.on (mapz StM.sz _) HCR.out.B).2.2 i (by rw [List.length_map]; exact hlt)
   simp only [List.getElem_map] at hat
   have hsl:=HTI.out t.ts[i] (List.getElem_mem hlt)
   have hgw:=HGW.out t.ts[i] (List.getElem_mem hlt)
   have HD:Hid (R=if (gdsE t g t.ts[i].gs).1 == 0 then stsE t (gdsE t g t.ts[i].gs).2 (t.ts.drop (i+1)) else gdsE t g t.ts[i].gs):=by show _=_; rw [HRR.out,List.drop_eq_getElem_cons hlt]; rfl
   obtain⟨s,es⟩:∃ s,t.ts[i]=s:=⟨_,rfl⟩
   rw [es] at hat hsl HD hgw
   have hcc:=hat 0 (by omega)
   have cs:V.cell? ⟨bb,o+i,none⟩=some (.slice s.a s.gs.length s.c):=by rw [Nat.mul_one,Nat.add_zero] at hcc; exact hcc
   have HSG:=zH hsl.1
   have HGI:Hid (∀ g ∈ s.gs,GdL w0 g):=hsl.2
   have HGG:Hid (∀ g ∈ s.gs,GdW t g):=hgw
   subst ea
   clear hat es hcc hsl HRR hgw
   obtain⟨gs,egs⟩:∃ q,s.gs=q:=⟨_,rfl⟩
   obtain⟨sa,esa⟩:∃ q,s.a=q:=⟨_,rfl⟩
   rw [egs,esa] at HSG cs
   rw [egs] at HGI HD HGG
   obtain⟨RR2,eRR⟩:∃ q,gdsE t g gs=q:=⟨_,rfl⟩
   have HR0:Hid (RR2=gdsE t g (gs.drop 0)):=by show _=_; rw [← eRR]; rfl
   rw [eRR] at HD
   clear egs esa eRR
   go_wp2_with fail
   go_loopw [20] (fun q wr=>∃ (j:Nat) (g2:Nat→Int),j≤gs.length∧q=zI j∧Hid (Cx w0 C t wr g2)∧Hid (Mv w wr (fun k=>k=C))∧Hid (RR2=gdsE t g2 (gs.drop j))) (fun q _=>gs.length - (intOf q).toNat)
   case atStart=>exact⟨0,g,by omega,rfl,HCR,HMR,HR0⟩
   case round =>
    obtain⟨j,g2,hj,rfl,HC2,HM2,HR2⟩:=hrel
    have HBR:=zH HC2.out.B
    by_cases hltj:j < gs.length
    ·have hltj':(j:Int) < (gs.length:Int):=by omega
     have hmxj:(j:Int)+1≤9223372036854775807:=by have h1:=HSG.out.1; have h2:=HSG.out.2.1; rw [List.length_map] at h1; omega
     obtain⟨b2,o2,ea,hat⟩:=(HSG.out.on (mapz GdM.sz _) HBR.out).2.2 j (by rw [List.length_map]; exact hltj)
     simp only [List.getElem_map] at hat
     have HMEM:Hid (gs[j] ∈ gs):=List.getElem_mem hltj
     have HD2:Hid (RR2=if (gdE t g2 gs[j]).1 == 0 then gdsE t (gdE t g2 gs[j]).2 (gs.drop (j+1)) else gdE t g2 gs[j]):=by show _=_; rw [HR2.out,List.drop_eq_getElem_cons hltj]; rfl
     obtain⟨d,ed⟩:∃ d,gs[j]=d:=⟨_,rfl⟩
     rw [ed] at hat HMEM HD2
     have HRG:Hid (wr.rangeAt b2 (o2+j * 5) d.vals.toList):=fun j9 v hv=>by
      have hj9:j9 < 5:=(List.getElem?_eq_some_iff.1 hv).1
      rw [hat j9 hj9,← hv]; simp
     have HZ:Hid ((wr.alloc (.cells zA4 68)).heap[wr§]? = some (.cells zA4 68 (0,0))):=Hn _ _
     have HWX:Hid (Below wr§ wr ((wr.alloc (.cells zA4 68)).setRow wr§ d.vals)):=Qc (Bn _ _) (Nat.le_refl _) _
     have HNX:Hid (((wr.alloc (.cells zA4 68)).setRow wr§ d.vals).heap[wr§]? = some (.cells d.vals 68 (0,0))):=setRow_heap _ _ _ _ _ _ HZ.out
     subst ea
     clear hat ed
     go_upto_region 7 with (first | (refine wpList_load_mid rfl 68 (.tmp 22) rfl b2 (o2+j * 5) rfl d.vals.toList _ HRG.out Tryz.underlying68 rfl (by show _=some 5; exact QD) ?_; rw [Array.toArray_toList]) | (refine wpList_store_row rfl 68 (.tmp 6) (.tmp 23) rfl wr§ d.vals rfl rfl 68 zA4 HZ.out QD rfl (allGd d) ?_))
     generalize World.setRow _ _ _=WX at HWX HNX ⊢
     clear HZ HRG
     have HCX2:Hid (Cx w0 C t WX g2):=HC2.out.on HWX.out
     have HMX2:Hid (Mv w WX (fun k=>k=C)):=HM2.out.trans (Mv.ofBelow (F:=fun _=>False) HWX.out) (fun _ e=>e.elim)
     have cG:=guard_any C t g2 d WX w0 HCX2.out (HGI.out d HMEM.out) (HGG.out d HMEM.out) HSZ.out
     have HOS:Hid (HOk (gdE t g2 d).2):=gdE_ok t d HCX2.out.O
     obtain⟨T,eT⟩:∃ T,gdE t g2 d=T:=⟨_,rfl⟩
     rw [eT] at cG HD2 HOS
     clear HC2 HM2 HR2 HBR HMEM eT HCR HMR
     go_wp2_with (refine wpList_load_row rfl 68 (.tmp 6) rfl wr§ rfl 68 d.vals (0,0) _ HNX.out Tryz.underlying68 rfl QD ?_)
     refine cG.mono ?_
     rintro e w8 ⟨rfl,hm8,hk8⟩
     have HC8:Hid (Cx w0 C t w8 T.2):=HCX2.out.mv hm8 hk8 HOS.out
     have HM8:Hid (Mv w w8 (fun k=>k=C)):=HMX2.out.trans hm8 (fun _ e=>.inl e)
     clear cG hm8 hk8 HNX HWX HCX2 HMX2
     obtain⟨T1,T2⟩:=T
     simp only at HC8 HD2 HOS ⊢
     cases hz2:(T1 == 0) with
     | false =>
      have HE2:Hid (RR2=(T1,T2)):=by show _=_; rw [HD2.out,if_neg (by simp [hz2])]
      have HE3:Hid (R=(T1,T2)):=by show _=_; rw [HD.out,HE2.out,if_neg (by simp [hz2])]
      have hq:(T1 != 0)=true:=by simp [bne,hz2]
      clear HD2 HD HR0 HX HGW HSG HGI HGG HTT HTI HSZ
      go_wp2_with fail
      go_ret
      exact⟨by rw [HE3.out]; rfl,HM8.out⟩
     | true =>
      have HE2:Hid (RR2=gdsE t T2 (gs.drop (j+1))):=by show _=_; rw [HD2.out,if_pos hz2]
      have hq:(T1 != 0)=false:=by simp [bne,hz2]
      clear HD2 HD HR0 HX HGW HSG HGI HGG HTT HTI HSZ
      go_wp2_with fail
      exact⟨⟨j+1,T2,hltj,rfl,HC8,HM8,HE2⟩,by simp only [intOf]; omega⟩
    ·obtain rfl:j=gs.length:=by omega
     have hnot:¬ (gs.length:Int) < (gs.length:Int):=by omega
     have HE2:Hid (RR2=(0,g2)):=by show _=_; rw [HR2.out,List.drop_length]; rfl
     have HE3:Hid (R=stsE t g2 (t.ts.drop (i+1))):=by show _=_; rw [HD.out,HE2.out]; rfl
     go_wp2_with fail
     exact⟨⟨i+1,g2,hlt,rfl,HC2,HM2,HE3⟩,by simp only [intOf]; omega⟩
  ·obtain rfl:i=t.ts.length:=by omega
   have hnot:¬ (t.ts.length:Int) < (t.ts.length:Int):=by omega
   have HE3:Hid (R=(0,g)):=by show _=_; rw [HRR.out,List.drop_length]; rfl
   go_wp2_with fail
   go_ret
   exact⟨by rw [HE3.out]; rfl,HMR.out⟩
def zcOf (P:Program):Array Value:=((P.info? 76).bind (fun i=>i.zero.map Value.cells)).getD #[]
def isz:Value→Bool
 | zU n=>n == 0
 | _=>false
theorem zc_size:(zcOf Tryz.prog).size=4103:=by kernel_rfl
theorem zc_all:((zcOf Tryz.prog).toList.drop 6).all isz=true:=by kernel_rfl
theorem zc_at (j:Nat) (hj:j < 4097):(zcOf Tryz.prog)[6+j]? = some (zU 0):=by
 have hlt:6+j < (zcOf Tryz.prog).size:=by rw [zc_size]; omega
 have h:=List.all_eq_true.1 zc_all ((zcOf Tryz.prog)[6+j]) (by
  rw [List.mem_iff_getElem?]
  exact⟨j,by rw [List.getElem?_drop]; simp [hlt]⟩)
 rw [Array.getElem?_eq_getElem hlt]
 generalize (zcOf Tryz.prog)[6+j]=v at h ⊢
 match v,h with
 | zU n,h =>
  have:n=0:=by simpa [isz] using h
  rw [this]
def ckP (P:Program) (t:TbM):Array Value:=t.vals.zipIdx.foldl (fun (x:Array Value) (q:Value × Nat)=>x.setIfInBounds (0 * 0+q.2) q.1) (zcOf P)
theorem built76 (t:TbM):Tryz.prog.built 76 [(0,.agg t.vals)]=some (ckP Tryz.prog t):=by kernel_rfl
theorem wpList_ck (t:TbM) {w:World}{ops:Array Oper}{rest:List Oper}{o:Oper}{a:Act}{Q:Exit→Act→World→Prop}(hgd:o.guard=none) (x:Operand) (ho:o.op=.build 76 #[(0,x)]) (hx:a.eval x=.agg t.vals)
  (h:wpList Tryz.prog ops Q rest (a.put o.dst (.agg (ckP Tryz.prog t))) w):wpList Tryz.prog ops Q (o :: rest) a w:=by
 have e:((#[(0,x)]:Array (Nat × Operand)).map fun (i,x)=>(i,a.eval x)).toList = [(0,.agg t.vals)]:=by simp [hx]
 refine wpList_build hgd 76 #[(0,x)] ho ?_ ?_
 ·rw [e,built76]; rfl
 ·rw [e,built76]; exact h
theorem ckA_at (t:TbM) (i:Nat) (hi:i < 4103):(ckP Tryz.prog t)[i]? = if i < 6 then t.vals[i]? else (zcOf Tryz.prog)[i]?:=by
 have h:=fold_get 0 t.vals.toList 0 (zcOf Tryz.prog) i (by rw [zc_size]; exact hi)
 have e:ckP Tryz.prog t=(t.vals.toList.zipIdx 0).foldl (fun (x:Array Value) (q:Value × Nat)=>x.setIfInBounds (0 * 0+q.2) q.1) (zcOf Tryz.prog):=by
  unfold ckP
  rw [← Array.foldl_toList]
  simp
 rw [e,h]
 have hl:t.vals.toList.length=6:=rfl
 rw [hl]
 by_cases h6:i < 6
 ·rw [if_pos (by omega),if_pos h6]; simp
 ·rw [if_neg (by omega),if_neg h6]
theorem ck_new {w:World}{C:Nat}{t:TbM}(h:w.heap[C]? = some (.cells (ckP Tryz.prog t) 76 (0,0))):CkAt w C t (fun _=>0) :=
 ⟨fun j hj=>by rw [Co h,ckA_at t j (by omega),if_pos hj],fun j hj=>by rw [Co h,ckA_at t _ (by omega),if_neg (by omega)]; exact zc_at j hj,fun k=>Fo h k,(Array.getElem?_eq_some_iff.1 h).1⟩
theorem Q5 (t:TbM) (w:World) (hl:TbL w t) (htb:Tab w):Calls zG 11 #[.agg t.vals] w fun e w'=>e=.returned (zI (Qp t))∧Below w§ w w':=by
 have hb1:=Bn w (.cells t.vals 26)
 have hn1:=Hn w (.cells t.vals 26)
 obtain⟨W1,e1⟩:∃ W,w.alloc (.cells t.vals 26)=W:=⟨_,rfl⟩
 have E1:=zH e1
 rw [e1] at hb1 hn1
 have HB1:=zH hb1
 have HN1:=zH hn1
 have HS1:Hid (W1§=w§+1):=by show _=_; rw [← e1]; exact Sa _ _
 clear hb1 e1 hn1
 have cF:=wellFormed_any t W1 (hl.on HB1.out) (htb.on HB1.out)
 have HTL:Hid (TbL w t):=hl
 unfold Qp
 clear hl htb
 cases hf:QG t with
 | false =>
  rw [hf] at cF
  go_enter Tryz.func11,Tryz.ntmps11
  go_upto_region 1 with fail
  rw [E1.out]
  clear E1
  go_wp2_with (refine wpList_load_row rfl 26 (.tmp 1) rfl w§ rfl 26 t.vals (0,0) _ HN1.out Tryz.underlying26 rfl Qe ?_)
  refine cF.mono ?_
  rintro e w2 ⟨rfl,hb2⟩
  have HB2:=zH (Qa HB1.out hb2)
  go_wp2_with fail
  go_ret
  exact⟨rfl,HB2.out⟩
 | true =>
  rw [hf] at cF
  have HFW:=zH (form_w hf)
  go_enter Tryz.func11,Tryz.ntmps11
  go_upto_region 1 with fail
  rw [E1.out]
  clear E1
  go_wp2_with (refine wpList_load_row rfl 26 (.tmp 1) rfl w§ rfl 26 t.vals (0,0) _ HN1.out Tryz.underlying26 rfl Qe ?_)
  refine cF.mono ?_
  rintro e w2 ⟨rfl,hb2⟩
  have HB2:=zH (Qa HB1.out hb2)
  have HN2:Hid (w2.heap[w§]? = some (.cells t.vals 26 (0,0))):=(hb2.block _ (by rw [HS1.out]; omega)).trans HN1.out
  have HC3:Hid (Cx w w2§ t (w2.alloc (.cells (ckP Tryz.prog t) 76)) (fun _=>0)):=⟨HTL.out,Qa HB2.out (Bn _ _),HB2.out.size,ck_new (Hn _ _),fun _=>by omega⟩
  have cC:=check_m w2§ t (fun _=>0) (w2.alloc (.cells (ckP Tryz.prog t) 76)) w HC3.out HFW.out.2 HFW.out.1
  clear cF hb2 HN1 HB1 HS1
  go_wp2_with (first | (refine wpList_load_row rfl 26 (.tmp 1) rfl w§ rfl 26 t.vals (0,0) _ HN2.out Tryz.underlying26 rfl Qe ?_) | (refine wpList_ck t rfl (.tmp 6) rfl rfl ?_))
  refine cC.mono ?_
  rintro e w5 ⟨rfl,hm5⟩
  have HB5:=zH (HC3.out.below hm5)
  clear cC hm5
  go_wp2_with fail
  go_ret
  exact⟨rfl,HB5.out⟩
end Go.Proofs.YteedmmljahgpjaaGreatDoor
