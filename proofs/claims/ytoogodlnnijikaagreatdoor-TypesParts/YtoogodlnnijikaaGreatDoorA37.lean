import Derived.Test.YtoogodlnnijikaaGreatDoorA0
import Derived.Test.YtoogodlnnijikaaGreatDoorA36
namespace Go.Proofs.YtoogodlnnijikaaGreatDoor
open Go.RowKit
set_option linter.unusedVariables false
set_option linter.unusedSimpArgs false
theorem results_t4 {P:Program}{fn:Func}{p u v q:Tmp}(h:fn.results=#[.tmp p,.tmp u,.tmp v,.tmp q]) (tmps:Array Value) (w:World):(results fn tmps).run P w=.ok (.tuple #[tmps.getD p undef,tmps.getD u undef,tmps.getD v undef,tmps.getD q undef]) w:=by
 simp [results,h]
structure B4 (S:StratM) (a b c:Nd) (g:Nat) (W:World):Prop where
 s:StratL W S
 la:Lies W a
 lb:Lies W b
 lc:Lies W c
 g0:W.heap[g]? = some (.cells S.vals 27 (0,0))
 g1:W.heap[g+1]? = some (.cells a.vals 48 (0,0))
 g2:W.heap[g+1+1]? = some (.cells b.vals 48 (0,0))
 g3:W.heap[g+1+1+1]? = some (.cells c.vals 48 (0,0))
theorem B4.on {S:StratM}{a b c:Nd}{g:Nat}{W W':World}(h:B4 S a b c g W) (k:Below W§ W W'):B4 S a b c g W' :=
 ⟨h.s.on k,h.la.on k,h.lb.on k,h.lc.on k,(k.block _ (Array.getElem?_eq_some_iff.1 h.g0).1).trans h.g0,(k.block _ (Array.getElem?_eq_some_iff.1 h.g1).1).trans h.g1,(k.block _ (Array.getElem?_eq_some_iff.1 h.g2).1).trans h.g2,(k.block _ (Array.getElem?_eq_some_iff.1 h.g3).1).trans h.g3⟩
theorem B4.new {w:World}{S:StratM}{a b c:Nd}(hs:StratL w S) (ha:Lies w a) (hb:Lies w b) (hc:Lies w c):B4 S a b c w§ ((((w.alloc (.cells S.vals 27)).alloc (.cells a.vals 48)).alloc (.cells b.vals 48)).alloc (.cells c.vals 48))∧Below w§ w ((((w.alloc (.cells S.vals 27)).alloc (.cells a.vals 48)).alloc (.cells b.vals 48)).alloc (.cells c.vals 48)):=by
 have k0:=below_new w (.cells S.vals 27)
 have k1:=below_new (w.alloc (.cells S.vals 27)) (.cells a.vals 48)
 have k2:=below_new ((w.alloc (.cells S.vals 27)).alloc (.cells a.vals 48)) (.cells b.vals 48)
 have k3:=below_new (((w.alloc (.cells S.vals 27)).alloc (.cells a.vals 48)).alloc (.cells b.vals 48)) (.cells c.vals 48)
 have n0:=heap_new w (.cells S.vals 27)
 have n1:=heap_new (w.alloc (.cells S.vals 27)) (.cells a.vals 48)
 have n2:=heap_new ((w.alloc (.cells S.vals 27)).alloc (.cells a.vals 48)) (.cells b.vals 48)
 have n3:=heap_new (((w.alloc (.cells S.vals 27)).alloc (.cells a.vals 48)).alloc (.cells b.vals 48)) (.cells c.vals 48)
 rw [size_alloc] at n1
 rw [size_alloc,size_alloc] at n2
 rw [size_alloc,size_alloc,size_alloc] at n3
 have kk:=below2 (below2 (below2 k0 k1) k2) k3
 exact⟨⟨hs.on kk,ha.on kk,hb.on kk,hc.on kk,(k3.block _ (by simp only [size_alloc]; omega)).trans ((k2.block _ (by simp only [size_alloc]; omega)).trans ((k1.block _ (by simp only [size_alloc]; omega)).trans n0)),(k3.block _ (by simp only [size_alloc]; omega)).trans ((k2.block _ (by simp only [size_alloc]; omega)).trans n1),(k3.block _ (by simp only [size_alloc]; omega)).trans n2,n3⟩,kk⟩
set_option maxRecDepth 100000 in
set_option maxHeartbeats 8000000 in
theorem types3_any (S:StratM) (a b c:Nd) (w:World) (hs:StratL w S) (ha:Lies w a) (hb:Lies w b) (hc:Lies w c) (za:size a≤1000000000000) (zb:size b≤1000000000000) (zc:size c≤1000000000000) (ht:Tab w) (hf:FTab w) :
  Calls zG 20 #[.agg S.vals,.agg a.vals,.agg b.vals,.agg c.vals] w fun e w'=>(∃ x y z ok,e=.returned (.tuple #[zU x,zU y,zU z,.bool ok])∧(ok=true→ofE S a=.ok x∧ofE S b=.ok y∧ofE S c=.ok z))∧Below w§ w w':=by
 obtain⟨h4,kk⟩:=B4.new hs ha hb hc
 have HZ:Hid (size a≤1000000000000∧size b≤1000000000000∧size c≤1000000000000∧Tab w∧FTab w):=⟨za,zb,zc,ht,hf⟩
 obtain⟨V,eV⟩:∃ V,(((w.alloc (.cells S.vals 27)).alloc (.cells a.vals 48)).alloc (.cells b.vals 48)).alloc (.cells c.vals 48)=V:=⟨_,rfl⟩
 rw [eV] at h4 kk
 have HV:Hid ((((w.alloc (.cells S.vals 27)).alloc (.cells a.vals 48)).alloc (.cells b.vals 48)).alloc (.cells c.vals 48)=V):=eV
 have H0:Hid (B4 S a b c w§ V∧Below w§ w V):=⟨h4,kk⟩
 clear hs ha hb hc za zb zc ht hf h4 kk eV
 have c1:=ofP S a V H0.out.1.s H0.out.1.la HZ.out.1 (HZ.out.2.2.2.1.on H0.out.2) (HZ.out.2.2.2.2.on H0.out.2)
 go_enter Tryz.func20,Tryz.ntmps20
 go_upto_region 1 with fail
 rw [HV.out]
 go_wp2_with (first | (refine wpList_load_row rfl 27 _ rfl w§ rfl 27 S.vals (0,0) _ H0.out.1.g0 Tryz.underlying27 rfl size26s ?_) | (refine wpList_load_row rfl 48 _ rfl (w§+1) rfl 48 a.vals (0,0) _ H0.out.1.g1 Tryz.underlying48 rfl sizeN ?_))
 refine c1.mono ?_
 rintro e w1 ⟨x,v1,p1,rfl,r1,hb⟩
 have H1:Hid (B4 S a b c w§ w1∧Below w§ w w1):=⟨H0.out.1.on hb,below2 H0.out.2 hb⟩
 have R1:=r1.two
 have c2:=ofP S b w1 H1.out.1.s H1.out.1.lb HZ.out.2.1 (HZ.out.2.2.2.1.on H1.out.2) (HZ.out.2.2.2.2.on H1.out.2)
 have HR1:Hid ((v1=.nilIface∧ofE S a=.ok x)∨∃ b,v1=.iface 118 (zP b)):=R1
 clear c1 r1 R1 hb H0 HV
 go_wp2_with (first | (refine wpList_load_row rfl 27 _ rfl w§ rfl 27 S.vals (0,0) _ H1.out.1.g0 Tryz.underlying27 rfl size26s ?_) | (refine wpList_load_row rfl 48 _ rfl (w§+1+1) rfl 48 b.vals (0,0) _ H1.out.1.g2 Tryz.underlying48 rfl sizeN ?_))
 refine c2.mono ?_
 rintro e w2 ⟨y,v2,p2,rfl,r2,hb⟩
 have H2:Hid (B4 S a b c w§ w2∧Below w§ w w2):=⟨H1.out.1.on hb,below2 H1.out.2 hb⟩
 have c3:=ofP S c w2 H2.out.1.s H2.out.1.lc HZ.out.2.2.1 (HZ.out.2.2.2.1.on H2.out.2) (HZ.out.2.2.2.2.on H2.out.2)
 have HR2:Hid ((v2=.nilIface∧ofE S b=.ok y)∨∃ b,v2=.iface 118 (zP b)):=r2.two
 clear c2 r2 hb H1
 go_wp2_with (first | (refine wpList_load_row rfl 27 _ rfl w§ rfl 27 S.vals (0,0) _ H2.out.1.g0 Tryz.underlying27 rfl size26s ?_) | (refine wpList_load_row rfl 48 _ rfl (w§+1+1+1) rfl 48 c.vals (0,0) _ H2.out.1.g3 Tryz.underlying48 rfl sizeN ?_))
 refine c3.mono ?_
 rintro e w3 ⟨z,v3,p3,rfl,r3,hb⟩
 have HB3:Hid (Below w§ w w3):=below2 H2.out.2 hb
 have HR3:Hid ((v3=.nilIface∧ofE S c=.ok z)∨∃ b,v3=.iface 118 (zP b)):=r3.two
 clear c3 r3 hb H2
 rcases HR1.out with ⟨rfl,o1⟩ | ⟨b1,rfl⟩
 ·rcases HR2.out with ⟨rfl,o2⟩ | ⟨b2,rfl⟩
  ·rcases HR3.out with ⟨rfl,o3⟩ | ⟨b3,rfl⟩
   ·have HO:Hid (ofE S a=.ok x∧ofE S b=.ok y∧ofE S c=.ok z):=⟨o1,o2,o3⟩
    clear o1 o2 o3 HR1 HR2 HR3
    go_wp2_with fail
    go_quiet (fail)
    go_wp2_with fail
    (try simp only [Exit.inBlock,Exit.then])
    refine bodyPost_ret (results_t4 rfl _ _) rfl ?_
    exact⟨⟨x,y,z,true,rfl,fun _=>HO.out⟩,by have h1:=HB3.out; exact⟨h1.os,h1.tape,h1.output,h1.size,h1.block⟩⟩
   ·clear o1 o2 HR1 HR2 HR3
    go_wp2_with fail
    go_quiet (fail)
    go_wp2_with fail
    (try simp only [Exit.inBlock,Exit.then])
    refine bodyPost_ret (results_t4 rfl _ _) rfl ?_
    exact⟨⟨x,y,z,false,rfl,fun h=>by cases h⟩,by have h1:=HB3.out; exact⟨h1.os,h1.tape,h1.output,h1.size,h1.block⟩⟩
  ·clear o1 HR1 HR2 HR3
   go_wp2_with fail
   go_quiet (fail)
   go_wp2_with fail
   (try simp only [Exit.inBlock,Exit.then])
   refine bodyPost_ret (results_t4 rfl _ _) rfl ?_
   exact⟨⟨x,y,z,false,rfl,fun h=>by cases h⟩,by have h1:=HB3.out; exact⟨h1.os,h1.tape,h1.output,h1.size,h1.block⟩⟩
 ·clear HR1 HR2 HR3
  go_wp2_with fail
  go_quiet (fail)
  go_wp2_with fail
  (try simp only [Exit.inBlock,Exit.then])
  refine bodyPost_ret (results_t4 rfl _ _) rfl ?_
  exact⟨⟨x,y,z,false,rfl,fun h=>by cases h⟩,by have h1:=HB3.out; exact⟨h1.os,h1.tape,h1.output,h1.size,h1.block⟩⟩
theorem infN8:(Tryz.prog.info? 48).map (fun i=>(i.zero,i.size,i.bytes))=some (some (.agg zNo),8,72):=by kernel_rfl
theorem rgK (k o:Int) (hk:0≤k∧k≤255) (ho:0≤o∧o≤255):Rg ⟨k,o,0,0,0,⟨#[]⟩,0⟩:=by
 obtain⟨h1,h2⟩:=hk
 obtain⟨h3,h4⟩:=ho
 constructor <;> first | omega | (show (0:Nat)≤_; omega) | (simp only; omega) | simp
theorem lies_kC {w:World}{B:Nat}{a b c:Nd}(h:w.heap[B]? = some (.cells (a.vals ++ b.vals ++ c.vals) 48 (0,0))) (ha:Lies w a) (hb:Lies w b) (hc:Lies w c):Lies w (kC B a b c):=by
 have hB:w.heap[B]? = some (.cells #[zU a.h.k,zU a.h.o,zU a.h.t,zI a.h.n,zU a.h.f,.string a.h.x,.slice a.a a.ks.length a.c,zI a.h.p,zU b.h.k,zU b.h.o,zU b.h.t,zI b.h.n,zU b.h.f,.string b.h.x,.slice b.a b.ks.length b.c,zI b.h.p,zU c.h.k,zU c.h.o,zU c.h.t,zI c.h.n,zU c.h.f,.string c.h.x,.slice c.a c.ks.length c.c,zI c.h.p] 48 (0,0)):=by rw [h]; simp [Nd.vals,hdA]
 refine .mk _ _ _ _ (rgK 7 0 (by omega) (by omega)) (by simp) (by simp) ?_ ?_
 ·intro i hi
  refine⟨B,0,rfl,?_⟩
  match i,hi with
  | 0,_=>exact⟨cell_of hB 0,cell_of hB 1,cell_of hB 2,cell_of hB 3,cell_of hB 4,cell_of hB 5,cell_of hB 6,cell_of hB 7⟩
  | 1,_=>exact⟨cell_of hB 8,cell_of hB 9,cell_of hB 10,cell_of hB 11,cell_of hB 12,cell_of hB 13,cell_of hB 14,cell_of hB 15⟩
  | 2,_=>exact⟨cell_of hB 16,cell_of hB 17,cell_of hB 18,cell_of hB 19,cell_of hB 20,cell_of hB 21,cell_of hB 22,cell_of hB 23⟩
 ·intro k hk
  rcases List.mem_cons.1 hk with e | e
  ·rw [e]; exact ha
  rcases List.mem_cons.1 e with e | e
  ·rw [e]; exact hb
  ·obtain rfl:=List.mem_singleton.1 e
   exact hc
theorem lies_kB {w:World}{B:Nat}{b c:Nd}(o:Int) (ho:0≤o∧o≤255) (h:w.heap[B]? = some (.cells (b.vals ++ c.vals) 48 (0,0))) (hb:Lies w b) (hc:Lies w c):Lies w (kB o B b c):=by
 have hB:w.heap[B]? = some (.cells #[zU b.h.k,zU b.h.o,zU b.h.t,zI b.h.n,zU b.h.f,.string b.h.x,.slice b.a b.ks.length b.c,zI b.h.p,zU c.h.k,zU c.h.o,zU c.h.t,zI c.h.n,zU c.h.f,.string c.h.x,.slice c.a c.ks.length c.c,zI c.h.p] 48 (0,0)):=by rw [h]; simp [Nd.vals,hdA]
 refine .mk _ _ _ _ (rgK 6 o (by omega) ho) (by simp) (by simp) ?_ ?_
 ·intro i hi
  refine⟨B,0,rfl,?_⟩
  match i,hi with
  | 0,_=>exact⟨cell_of hB 0,cell_of hB 1,cell_of hB 2,cell_of hB 3,cell_of hB 4,cell_of hB 5,cell_of hB 6,cell_of hB 7⟩
  | 1,_=>exact⟨cell_of hB 8,cell_of hB 9,cell_of hB 10,cell_of hB 11,cell_of hB 12,cell_of hB 13,cell_of hB 14,cell_of hB 15⟩
 ·intro k hk
  rcases List.mem_cons.1 hk with e | e
  ·rw [e]; exact hb
  ·obtain rfl:=List.mem_singleton.1 e
   exact hc
end Go.Proofs.YtoogodlnnijikaaGreatDoor
