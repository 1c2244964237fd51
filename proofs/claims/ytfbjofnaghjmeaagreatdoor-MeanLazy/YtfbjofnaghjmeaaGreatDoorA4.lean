import Derived.Test.YtfbjofnaghjmeaaGreatDoorA2
namespace Go.Proofs.YtfbjofnaghjmeaaGreatDoor
open Go.Proofs.Tryz
set_option maxRecDepth 100000
open Go.RowKit
def SfH (w:yW) (b:Nat) (h:Hd):Prop:=w.heap[b]? = (zC (Kd h) 251)
theorem SfH.lt {w:yW}{b:Nat}{h:Hd}(k:SfH w b h):b < w§:=(zJ k).1
theorem SfH.on {w w':yW}{b:Nat}{h:Hd}(k:SfH w b h) (j:yD w w'):SfH w' b h:=(j.block b k.lt).trans k
theorem SfH.hid {w:yW}{b:Nat}{h:Hd}(k:SfH w b h):Hid (SfH w b h):=k
theorem SfH.cells {w:yW}{b:Nat}{h:Hd}(k:SfH w b h):zQ w b¢0 (zU h.k)∧zQ w b¢1 (zU h.o)∧zQ w b¢2 (zU h.t)∧zQ w b¢3 (zI h.n)∧zQ w b¢4 (zU h.f)∧zQ w b¢5 (.string h.x) :=
 ⟨Qa k 0,Qa k 1,Qa k 2,Qa k 3,Qa k 4,Qa k 5⟩
theorem SfH.froz {w:yW}{b:Nat}{h:Hd}(k:SfH w b h):zS w b¢0∧zS w b¢1∧zS w b¢2∧zS w b¢3∧zS w b¢4∧zS w b¢5 :=
 ⟨Qf k 0,Qf k 1,Qf k 2,Qf k 3,Qf k 4,Qf k 5⟩
theorem put6 {w:yW}{b:Nat}{cs:Array Value}(h:w.heap[b]? = (zC cs 251)) (hs:cs.size=6) (v0 v1 v2 v3 v4 v5:Value) :
  ((((((w.setCell b¢0 v0).setCell b¢1 v1).setCell b¢2 v2).setCell b¢3 v3).setCell b¢4 v4).setCell b¢5 v5).heap[b]? = (zC #[v0,v1,v2,v3,v4,v5] 251):=by
 obtain⟨a0,a1,a2,a3,a4,a5,e⟩:∃ a0 a1 a2 a3 a4 a5,cs=#[a0,a1,a2,a3,a4,a5]:=⟨cs[0],cs[1],cs[2],cs[3],cs[4],cs[5],by
  apply Array.ext
  ·simpa using hs
  ·intro i h1 h2
   have:i < 6:=by omega
   match i,this with
   | 0,_=>rfl
   | 1,_=>rfl
   | 2,_=>rfl
   | 3,_=>rfl
   | 4,_=>rfl
   | 5,_=>rfl⟩
 subst e
 exact Qp _ (Qp _ (Qp _ (Qp _ (Qp _ (Qp _ h)))))
theorem QcM {B:Nat}{w v:yW}{b:Nat}(h:Below B w v) (hb:B≤b) (v0 v1 v2 v3 v4 v5:Value):Below B w ((((((v.setCell b¢0 v0).setCell b¢1 v1).setCell b¢2 v2).setCell b¢3 v3).setCell b¢4 v4).setCell b¢5 v5) :=
 (((((h.setCell (p:=b¢0) hb v0).setCell (p:=b¢1) hb v1).setCell (p:=b¢2) hb v2).setCell (p:=b¢3) hb v3).setCell (p:=b¢4) hb v4).setCell (p:=b¢5) hb v5
def hdN:Hd:=⟨0,0,0,0,0,⟨#[]⟩,0⟩
theorem XP (h:Hd) (a:Option Addr) (l c:Nat) (w:yW):Calls zG 185 #[.agg (hdA h a l c)] w fun e w'=>e=.returned (.agg (Kd h))∧yD w w':=by
 obtain⟨W,eW⟩:∃ W,(zA w (hdA h a l c) 38).alloc (.cells #[zU 0,zU 0,zU 0,zI 0,zU 0,yQ] 251)=W:=jV
 have HB:Hid (yD w W):=by rw [← eW];exact Qk _ _ _
 have HN:Hid (W.heap[w§]? = (zC (hdA h a l c) 38)):=by show _=_;rw [← eW];exact Qz (Qc _ _) (by rw [Qe];omega)
 have HS:Hid (SfH W (w§+1) hdN):=by show SfH _ _ _;rw [← eW,← Qe w (.cells (hdA h a l c) 38)];exact Qc _ _
 obtain⟨y0,y1,y2,y3,y4,y5⟩:zQ W w§¢0 (zU h.k)∧zQ W w§¢1 (zU h.o)∧zQ W w§¢2 (zU h.t)∧zQ W w§¢3 (zI h.n)∧zQ W w§¢4 (zU h.f)∧zQ W w§¢5 (.string h.x) :=
  ⟨Qa HN.out 0,Qa HN.out 1,Qa HN.out 2,Qa HN.out 3,Qa HN.out 4,Qa HN.out 5⟩
 obtain⟨z0,z1,z2,z3,z4,z5⟩:=HS.out.cells
 obtain⟨f0,f1,f2,f3,f4,f5⟩:=HS.out.froz
 unfold hdA at eW ⊢
 go_enter func185,ntmps185
 go_wp2
 exact bodyPost_ret (results_cell_row rfl _ _ (w§+1) 251 (Kd h) (0,0) _ rfl (put6 HS.out rfl _ _ _ _ _ _) underlying251 rfl zK) rfl ⟨rfl,QcM HB.out zY _ _ _ _ _ _⟩
set_option maxHeartbeats 2000000
theorem mid3 (w:yW) (A B C:Obj):(((w.alloc A).alloc B).alloc C).heap[w§+1]? = some B:=by
 refine Qz ?_ (by rw [Qe,Qe];omega)
 rw [← Qe w A];exact Qc _ _
theorem K3 (w:yW) (A B C:Obj):yD w (((w.alloc A).alloc B).alloc C):=(Qk _ _ _).alloc (by rw [Qe,Qe];omega) _
theorem nm_1 (o t n f:Int) (x:yB) (w:yW):Calls zG 186 #[.agg #[zU 1,zU o,zU t,zI n,zU f,.string x]] w fun e w'=>e=.returned (.agg #[zU 1,zU 0,zU t,zI n,zU 0,yQ])∧yD w w':=by
 go_enter func186,ntmps186
 go_wp2_with fail
 exact bodyPost_ret (results_cell_row rfl _ _ (w§+1) 251 #[zU 1,zU 0,zU t,zI n,zU 0,yQ] (0,0) _ rfl (mid3 _ _ _ _) underlying251 rfl zK) rfl ⟨rfl,K3 _ _ _ _⟩
theorem nm_9 (o t n f:Int) (x:yB) (w:yW):Calls zG 186 #[.agg #[zU 9,zU o,zU t,zI n,zU f,.string x]] w fun e w'=>e=.returned (.agg #[zU 9,zU 0,zU t,zI 0,zU 0,yQ])∧yD w w':=by
 go_enter func186,ntmps186
 go_wp2_with fail
 exact bodyPost_ret (results_cell_row rfl _ _ (w§+1) 251 #[zU 9,zU 0,zU t,zI 0,zU 0,yQ] (0,0) _ rfl (mid3 _ _ _ _) underlying251 rfl zK) rfl ⟨rfl,K3 _ _ _ _⟩
theorem nm_2 (o t n f:Int) (x:yB) (w:yW):Calls zG 186 #[.agg #[zU 2,zU o,zU t,zI n,zU f,.string x]] w fun e w'=>e=.returned (.agg #[zU 2,zU 0,zU 0,zI 0,zU 0,.string x])∧yD w w':=by
 go_enter func186,ntmps186
 go_wp2_with fail
 exact bodyPost_ret (results_cell_row rfl _ _ (w§+1) 251 #[zU 2,zU 0,zU 0,zI 0,zU 0,.string x] (0,0) _ rfl (mid3 _ _ _ _) underlying251 rfl zK) rfl ⟨rfl,K3 _ _ _ _⟩
theorem nm_3 (o t n f:Int) (x:yB) (w:yW):Calls zG 186 #[.agg #[zU 3,zU o,zU t,zI n,zU f,.string x]] w fun e w'=>e=.returned (.agg #[zU 3,zU 0,zU 0,zI 0,zU f,yQ])∧yD w w':=by
 go_enter func186,ntmps186
 go_wp2_with fail
 exact bodyPost_ret (results_cell_row rfl _ _ (w§+1) 251 #[zU 3,zU 0,zU 0,zI 0,zU f,yQ] (0,0) _ rfl (mid3 _ _ _ _) underlying251 rfl zK) rfl ⟨rfl,K3 _ _ _ _⟩
theorem nm_4 (o t n f:Int) (x:yB) (w:yW):Calls zG 186 #[.agg #[zU 4,zU o,zU t,zI n,zU f,.string x]] w fun e w'=>e=.returned (.agg #[zU 4,zU 0,zU 0,zI 0,zU f,yQ])∧yD w w':=by
 go_enter func186,ntmps186
 go_wp2_with fail
 exact bodyPost_ret (results_cell_row rfl _ _ (w§+1) 251 #[zU 4,zU 0,zU 0,zI 0,zU f,yQ] (0,0) _ rfl (mid3 _ _ _ _) underlying251 rfl zK) rfl ⟨rfl,K3 _ _ _ _⟩
theorem nm_5 (o t n f:Int) (x:yB) (w:yW):Calls zG 186 #[.agg #[zU 5,zU o,zU t,zI n,zU f,.string x]] w fun e w'=>e=.returned (.agg #[zU 5,zU o,zU 0,zI 0,zU 0,yQ])∧yD w w':=by
 go_enter func186,ntmps186
 go_wp2_with fail
 exact bodyPost_ret (results_cell_row rfl _ _ (w§+1) 251 #[zU 5,zU o,zU 0,zI 0,zU 0,yQ] (0,0) _ rfl (mid3 _ _ _ _) underlying251 rfl zK) rfl ⟨rfl,K3 _ _ _ _⟩
theorem nm_6 (o t n f:Int) (x:yB) (w:yW):Calls zG 186 #[.agg #[zU 6,zU o,zU t,zI n,zU f,.string x]] w fun e w'=>e=.returned (.agg #[zU 6,zU o,zU 0,zI 0,zU 0,yQ])∧yD w w':=by
 go_enter func186,ntmps186
 go_wp2_with fail
 exact bodyPost_ret (results_cell_row rfl _ _ (w§+1) 251 #[zU 6,zU o,zU 0,zI 0,zU 0,yQ] (0,0) _ rfl (mid3 _ _ _ _) underlying251 rfl zK) rfl ⟨rfl,K3 _ _ _ _⟩
theorem nm_8 (o t n f:Int) (x:yB) (w:yW):Calls zG 186 #[.agg #[zU 8,zU o,zU t,zI n,zU f,.string x]] w fun e w'=>e=.returned (.agg #[zU 8,zU o,zU 0,zI 0,zU 0,yQ])∧yD w w':=by
 go_enter func186,ntmps186
 go_wp2_with fail
 exact bodyPost_ret (results_cell_row rfl _ _ (w§+1) 251 #[zU 8,zU o,zU 0,zI 0,zU 0,yQ] (0,0) _ rfl (mid3 _ _ _ _) underlying251 rfl zK) rfl ⟨rfl,K3 _ _ _ _⟩
theorem nm_z (k:Int) (e1:(k == 1)=false) (e2:(k == 2)=false) (e3:(k == 3)=false) (e4:(k == 4)=false) (e5:(k == 5)=false) (e6:(k == 6)=false) (e8:(k == 8)=false) (e9:(k == 9)=false) (o t n f:Int) (x:yB) (w:yW):Calls zG 186 #[.agg #[zU k,zU o,zU t,zI n,zU f,.string x]] w fun e w'=>e=.returned (.agg #[zU k,zU 0,zU 0,zI 0,zU 0,yQ])∧yD w w':=by
 go_enter func186,ntmps186
 go_wp2_with fail
 exact bodyPost_ret (results_cell_row rfl _ _ (w§+1) 251 #[zU k,zU 0,zU 0,zI 0,zU 0,yQ] (0,0) _ rfl (mid3 _ _ _ _) underlying251 rfl zK) rfl ⟨rfl,K3 _ _ _ _⟩
theorem VT (h:Hd) (w:yW):Calls zG 186 #[.agg (Kd h)] w fun e w'=>e=.returned (.agg (Kd (nm h)))∧yD w w':=by
 obtain⟨k,o,t,n,f,x,p⟩:=h
 unfold Kd nm
 simp only
 by_cases e1:k=1
 ·subst e1;exact nm_1 o t n f x w
 by_cases e9:k=9
 ·subst e9;exact nm_9 o t n f x w
 by_cases e2:k=2
 ·subst e2;exact nm_2 o t n f x w
 by_cases e3:k=3
 ·subst e3;exact nm_3 o t n f x w
 by_cases e4:k=4
 ·subst e4;exact nm_4 o t n f x w
 by_cases e5:k=5
 ·subst e5;exact nm_5 o t n f x w
 by_cases e6:k=6
 ·subst e6;exact nm_6 o t n f x w
 by_cases e8:k=8
 ·subst e8;exact nm_8 o t n f x w
 rw [if_neg e1,if_neg e9,if_neg e2,if_neg zY,if_neg zY]
 exact nm_z k (by simp [e1]) (by simp [e2]) (by simp [e3]) (by simp [e4]) (by simp [e5]) (by simp [e6]) (by simp [e8]) (by simp [e9]) o t n f x w
theorem box8 {w w':yW}{k o t n f p:Int}{x:yB}{a:Option Addr}{l c:Nat}(hb:Below (zA w #[zU k,zU o,zU t,zI n,zU f,.string x,.slice a l c,zI p] 38)§ (zA w #[zU k,zU o,zU t,zI n,zU f,.string x,.slice a l c,zI p] 38) w') :
  zQ w' w§¢0 (zU k)∧zQ w' w§¢1 (zU o)∧zQ w' w§¢2 (zU t)∧zQ w' w§¢3 (zI n)∧zQ w' w§¢4 (zU f)∧zQ w' w§¢5 (.string x)∧zQ w' w§¢6 (.slice a l c)∧zQ w' w§¢7 (zI p):=by
 have h:=(hb.block w§ (by rw [Qe];omega)).trans (Qc w _)
 exact⟨Qa h 0,Qa h 1,Qa h 2,Qa h 3,Qa h 4,Qa h 5,Qa h 6,Qa h 7⟩
theorem Fg (o:Int) (w:yW):Calls zG 213 #[zU o] w fun e w'=>e=.returned (zI (lvO o))∧w'=w:=by
 unfold lvO
 by_cases a:o=18
 ·subst a;go_enter func213,ntmps213;go_wp2_with fail;go_ret;exact⟨rfl,rfl⟩
 by_cases b:o=17
 ·subst b;go_enter func213,ntmps213;go_wp2_with fail;go_ret;exact⟨rfl,rfl⟩
 by_cases c:o=6
 ·subst c;go_enter func213,ntmps213;go_wp2_with fail;go_ret;exact⟨rfl,rfl⟩
 by_cases d:o=7
 ·subst d;go_enter func213,ntmps213;go_wp2_with fail;go_ret;exact⟨rfl,rfl⟩
 by_cases e:o=8
 ·subst e;go_enter func213,ntmps213;go_wp2_with fail;go_ret;exact⟨rfl,rfl⟩
 by_cases f:o=9
 ·subst f;go_enter func213,ntmps213;go_wp2_with fail;go_ret;exact⟨rfl,rfl⟩
 by_cases g:o=10
 ·subst g;go_enter func213,ntmps213;go_wp2_with fail;go_ret;exact⟨rfl,rfl⟩
 rw [if_neg a,if_neg b,if_neg zY,if_neg zY]
 have a':(o == 18)=false:=by simp [a]
 have b':(o == 17)=false:=by simp [b]
 have c':(o == 6)=false:=by simp [c]
 have d':(o == 7)=false:=by simp [d]
 have e':(o == 8)=false:=by simp [e]
 have f':(o == 9)=false:=by simp [f]
 have g':(o == 10)=false:=by simp [g]
 clear a b c d e f g
 go_enter func213,ntmps213;go_wp2_with fail;go_ret;exact⟨rfl,rfl⟩
theorem VW (h:Hd) (a:Option Addr) (l c:Nat) (w:yW):Calls zG 188 #[.agg (hdA h a l c)] w fun e w'=>e=.returned (zI (lvl h))∧yD w w':=by
 obtain⟨k,o,t,n,f,x,p⟩:=h
 unfold hdA lvl
 simp only
 have cO:=Fg o
 obtain⟨V,eV⟩:∃ V,lvO o=V:=jV
 simp only [eV] at cO
 rw [eV]
 clear eV
 by_cases a7:k=7
 ·subst a7;go_enter func188,ntmps188;go_wp2_with fail;go_ret;exact⟨rfl,Qb _ _⟩
 by_cases a6:k=6
 ·subst a6;go_enter func188,ntmps188;go_wp2_with (go_at_call 213;refine (cO _).mono ?_;rintro e w' ⟨rfl,rfl⟩);go_ret;exact⟨rfl,Qb _ _⟩
 by_cases a5:k=5
 ·subst a5;go_enter func188,ntmps188;go_wp2_with fail;go_ret;exact⟨rfl,Qb _ _⟩
 rw [if_neg a7,if_neg a6,if_neg a5]
 have b7:(k == 7)=false:=by simp [a7]
 have b6:(k == 6)=false:=by simp [a6]
 have b5:(k == 5)=false:=by simp [a5]
 clear a7 a6 a5
 go_enter func188,ntmps188;go_wp2_with fail;go_ret;exact⟨rfl,Qb _ _⟩
theorem Qeu (h:Hd):1≤lvl h∧lvl h≤8:=by
 unfold lvl lvO
 split
 ·omega
 ·split
  ·repeat (first | omega | split)
  ·split <;> omega
theorem QcP (h:Hd) (a:Option Addr) (l c i:Nat) (hi:i≤9223372036854775000) (w:yW):Calls zG 189 #[.agg (hdA h a l c),zI i] w fun e w'=>e=.returned (zI (ask h i))∧yD w w':=by
 have cL:=fun v=>VW h a l c v
 have hle:=Qeu h
 unfold ask
 obtain⟨V,eV⟩:∃ V,lvl h=V:=jV
 rw [eV] at hle
 simp only [eV] at cL
 simp only [eV]
 clear eV
 obtain⟨k,o,t,n,f,x,p⟩:=h
 unfold hdA at cL ⊢
 simp only at cL ⊢
 obtain⟨hl1,hl2⟩:=hle
 by_cases a7:k=7
 ·subst a7
  by_cases i0:i=0
  ·subst i0;go_enter func189,ntmps189;go_wp2_with fail;go_ret;exact⟨rfl,Qb _ _⟩
  ·have i0':((i:Int) == 0)=false:=by simp;omega
   rw [if_pos rfl,if_neg i0]
   go_enter func189,ntmps189;go_wp2_with fail;go_ret;exact⟨rfl,Qb _ _⟩
 by_cases a6:k=6
 ·subst a6
  by_cases v4:V=4
  ·subst v4;go_enter func189,ntmps189;go_wp2_with (go_at_call 188;refine (cL _).mono ?_;rintro e w' ⟨rfl,hb⟩);go_ret;exact⟨rfl,(Qb _ _).trans (hb.mono (by simp))⟩
  ·have v4':(V == 4)=false:=by simp [v4]
   have g1:-9223372036854775808≤V+(i:Int):=by omega
   have g2:V+(i:Int)≤jX:=by omega
   rw [if_neg (by decide),if_pos rfl,if_neg v4]
   go_enter func189,ntmps189
   go_wp2_with fail
   refine (cL _).mono ?_
   rintro e w1 ⟨rfl,hb⟩
   obtain⟨q0,q1,q2,q3,q4,q5,q6,q7⟩:=box8 hb
   have HB1:Hid (yD w w1):=(Qb _ _).trans (hb.mono (by simp))
   clear hb
   go_wp2_with fail
   refine (cL _).mono ?_
   rintro e w2 ⟨rfl,hb⟩
   have HB2:=zH (HB1.out.trans (hb.mono HB1.out.size))
   clear hb
   go_wp2
   go_ret
   exact⟨rfl,HB2.out⟩
 by_cases a5:k=5
 ·subst a5;go_enter func189,ntmps189;go_wp2_with fail;go_ret;exact⟨rfl,Qb _ _⟩
 rw [if_neg a7,if_neg a6,if_neg a5]
 have b7:(k == 7)=false:=by simp [a7]
 have b6:(k == 6)=false:=by simp [a6]
 have b5:(k == 5)=false:=by simp [a5]
 clear a7 a6 a5
 go_enter func189,ntmps189;go_wp2_with fail;go_ret;exact⟨rfl,Qb _ _⟩
theorem Pk (h:Hd) (a:Option Addr) (l c i:Nat) (w:yW):Calls zG 190 #[.agg (hdA h a l c),zI i] w fun e w'=>e=.returned (.bool (dwn h i))∧yD w w':=by
 obtain⟨k,o,t,n,f,x,p⟩:=h
 unfold hdA dwn
 simp only
 by_cases a6:k=6
 ·subst a6;go_enter func190,ntmps190;go_wp2_with fail;go_ret;exact⟨rfl,Qb _ _⟩
 by_cases a7:k=7
 ·subst a7
  by_cases i0:0 < i
  ·have i1:(0:Int) < (i:Int):=by omega
   go_enter func190,ntmps190;go_wp2_with fail;go_ret;exact⟨retB (by simp),Qb _ _⟩
  ·have i1:¬ (0:Int) < (i:Int):=by omega
   go_enter func190,ntmps190;go_wp2_with fail;go_ret;exact⟨retB (by simp),Qb _ _⟩
 rw [if_neg a6,if_neg a7]
 have b7:(k == 7)=false:=by simp [a7]
 have b6:(k == 6)=false:=by simp [a6]
 clear a7 a6
 go_enter func190,ntmps190;go_wp2_with fail;go_ret;exact⟨rfl,Qb _ _⟩
def nd0T:Nd:=.mk hdN none 0 []
set_option linter.unusedVariables false
def OkH (h:Hd):Prop:=h.k=6→6≤h.o∧h.o≤18
theorem Qbm {h:Hd}{a:Option Addr}{c:Nat}{ks:List Nd}(f:Qw (.mk h a c ks)=true):OkH h:=by
 intro hk
 simp only [Qw,oneH,Bool.and_eq_true] at f
 have:=f.1.2
 unfold fitB at this
 simp [hk] at this
 omega
theorem Qd9 {m:Nd}(f:Qw m=true):OkH m.h:=by cases m;exact Qbm f
theorem V5 {h:Hd}{a:Option Addr}{c:Nat}{ks:List Nd}(f:Qw (.mk h a c ks)=true) {k:Nd}(hk:k ∈ ks):Qw k=true:=by
 simp only [Qw,Bool.and_eq_true] at f
 have f2:=f.2
 clear f
 induction ks with
 | nil=>cases hk
 | cons j js ih =>
  simp only [Q1,Bool.and_eq_true] at f2
  rcases List.mem_cons.1 hk with e | e
  ·rw [e];exact f2.1
  ·exact ih e f2.2
theorem U3 (h:Hd) (a:Option Addr) (l c:Nat) (ok:OkH h) (w:yW):Calls zG 152 #[.agg (hdA h a l c)] w fun e w'=>e=.returned (zI (lvl h))∧yD w w':=by
 obtain⟨k,o,t,n,f,x,p⟩:=h
 unfold hdA lvl
 unfold OkH at ok
 simp only at ok ⊢
 by_cases a7:k=7
 ·subst a7;clear ok;go_enter func152,ntmps152;go_wp2_with fail;go_ret;exact⟨rfl,Qb _ _⟩
 by_cases a6:k=6
 ·subst a6
  obtain⟨o1,o2⟩:=ok rfl
  clear ok
  unfold lvO
  rw [if_neg (by decide),if_pos rfl]
  by_cases b18:o=18
  ·subst b18;go_enter func152,ntmps152;go_wp2_with fail;go_ret;exact⟨rfl,Qb _ _⟩
  have n18:(o == 18)=false:=by simp [b18]
  by_cases b17:o=17
  ·subst b17;go_enter func152,ntmps152;go_wp2_with fail;go_ret;exact⟨rfl,Qb _ _⟩
  have n17:(o == 17)=false:=by simp [b17]
  rw [if_neg b18,if_neg b17]
  by_cases b11:11≤o
  ·rw [if_neg zY,if_neg zY]
   clear b17 b18 o1 o2
   go_enter func152,ntmps152;go_wp2_with fail;go_ret;exact⟨rfl,Qb _ _⟩
  by_cases b7:o≤7
  ·rw [if_pos zY]
   clear b17 b18 o1 o2
   go_enter func152,ntmps152;go_wp2_with fail;go_ret;exact⟨rfl,Qb _ _⟩
  rw [if_neg zY,if_pos zY]
  clear b17 b18 o1 o2
  go_enter func152,ntmps152;go_wp2_with fail;go_ret;exact⟨rfl,Qb _ _⟩
 by_cases a5:k=5
 ·subst a5;clear ok;go_enter func152,ntmps152;go_wp2_with fail;go_ret;exact⟨rfl,Qb _ _⟩
 rw [if_neg a7,if_neg a6,if_neg a5]
 have b7:(k == 7)=false:=by simp [a7]
 have b6:(k == 6)=false:=by simp [a6]
 have b5:(k == 5)=false:=by simp [a5]
 clear a7 a6 a5 ok
 go_enter func152,ntmps152;go_wp2_with fail;go_ret;exact⟨rfl,Qb _ _⟩
theorem Qca (h:Hd) (a:Option Addr) (l c i:Nat) (hi:i≤9223372036854775000) (ok:OkH h) (w:yW):Calls zG 153 #[.agg (hdA h a l c),zI i] w fun e w'=>e=.returned (zI (ask h i))∧yD w w':=by
 have cL:=fun v=>U3 h a l c ok v
 have hle:=Qeu h
 unfold ask
 obtain⟨V,eV⟩:∃ V,lvl h=V:=jV
 rw [eV] at hle
 simp only [eV] at cL
 simp only [eV]
 clear eV ok
 obtain⟨k,o,t,n,f,x,p⟩:=h
 unfold hdA at cL ⊢
 simp only at cL ⊢
 obtain⟨hl1,hl2⟩:=hle
 by_cases a7:k=7
 ·subst a7
  by_cases i0:i=0
  ·subst i0;go_enter func153,ntmps153;go_wp2_with (go_at_call 152;refine (cL _).mono ?_;rintro e w1 ⟨rfl,hb⟩;obtain⟨q0,q1,q2,q3,q4,q5,q6,q7⟩:=box8 hb;have HB1:Hid (yD w w1):=(Qb _ _).trans (hb.mono (by simp));clear hb);go_ret;exact⟨rfl,HB1.out⟩
  ·have i0':((i:Int) == 0)=false:=by simp;omega
   rw [if_pos rfl,if_neg i0]
   go_enter func153,ntmps153;go_wp2_with (go_at_call 152;refine (cL _).mono ?_;rintro e w1 ⟨rfl,hb⟩;obtain⟨q0,q1,q2,q3,q4,q5,q6,q7⟩:=box8 hb;have HB1:Hid (yD w w1):=(Qb _ _).trans (hb.mono (by simp));clear hb);go_ret;exact⟨rfl,HB1.out⟩
 by_cases a6:k=6
 ·subst a6
  by_cases v4:V=4
  ·subst v4;go_enter func153,ntmps153;go_wp2_with (go_at_call 152;refine (cL _).mono ?_;rintro e w1 ⟨rfl,hb⟩;obtain⟨q0,q1,q2,q3,q4,q5,q6,q7⟩:=box8 hb;have HB1:Hid (yD w w1):=(Qb _ _).trans (hb.mono (by simp));clear hb);go_ret;exact⟨rfl,HB1.out⟩
  ·have v4':(V == 4)=false:=by simp [v4]
   have g1:-9223372036854775808≤V+(i:Int):=by omega
   have g2:V+(i:Int)≤jX:=by omega
   rw [if_neg (by decide),if_pos rfl,if_neg v4]
   go_enter func153,ntmps153
   go_wp2_with (go_at_call 152;refine (cL _).mono ?_;rintro e w1 ⟨rfl,hb⟩;obtain⟨q0,q1,q2,q3,q4,q5,q6,q7⟩:=box8 hb;have HB1:Hid (yD w w1):=(Qb _ _).trans (hb.mono (by simp));clear hb)
   go_ret
   exact⟨rfl,HB1.out⟩
 by_cases a5:k=5
 ·subst a5;go_enter func153,ntmps153;go_wp2_with (go_at_call 152;refine (cL _).mono ?_;rintro e w1 ⟨rfl,hb⟩;obtain⟨q0,q1,q2,q3,q4,q5,q6,q7⟩:=box8 hb;have HB1:Hid (yD w w1):=(Qb _ _).trans (hb.mono (by simp));clear hb);go_ret;exact⟨rfl,HB1.out⟩
 rw [if_neg a7,if_neg a6,if_neg a5]
 have b7:(k == 7)=false:=by simp [a7]
 have b6:(k == 6)=false:=by simp [a6]
 have b5:(k == 5)=false:=by simp [a5]
 clear a7 a6 a5
 go_enter func153,ntmps153;go_wp2_with (go_at_call 152;refine (cL _).mono ?_;rintro e w1 ⟨rfl,hb⟩;obtain⟨q0,q1,q2,q3,q4,q5,q6,q7⟩:=box8 hb;have HB1:Hid (yD w w1):=(Qb _ _).trans (hb.mono (by simp));clear hb);go_ret;exact⟨rfl,HB1.out⟩
end Go.Proofs.YtfbjofnaghjmeaaGreatDoor
