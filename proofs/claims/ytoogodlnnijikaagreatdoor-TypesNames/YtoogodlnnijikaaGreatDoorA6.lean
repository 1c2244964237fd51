import Derived.Test.YtoogodlnnijikaaGreatDoorA0
import Derived.Test.YtoogodlnnijikaaGreatDoorA5
import Derived.Test.YtoogodlnnijikaaGreatDoorA4
import Derived.Deep.RegionHeld3
import Derived.Deep.RegionWith
import Derived.WalkLawsBesides
namespace Go.Proofs.YtoogodlnnijikaaGreatDoor
set_option maxHeartbeats 4000000
set_option maxRecDepth 100000
open Go.RowKit
theorem Qs {w w1 w2:yW}(h1:yD w w1) (h2:yD w1 w2):yD w w2:=h1.trans (h2.mono h1.size)
theorem ft_1 (o t n f:Int) (x:yB) (w:yW):Calls zG 144 #[.agg #[zU 1,zU o,zU t,zI n,zU f,.string x],zI 0] w fun e w'=>e=.returned (.bool (litB t n))∧yD w w':=by
 go_enter Tryz.func144,Tryz.ntmps144
 go_wp2_with (go_at_call 163; refine (isLiteral_any _ _ _).mono ?_; rintro e w' ⟨rfl,rfl⟩)
 go_ret
 exact⟨retB (by simp),Qc _ _⟩
theorem ft_1n (l:Nat) (hl:((l:Int) == 0)=false) (o t n f:Int) (x:yB) (w:yW):Calls zG 144 #[.agg #[zU 1,zU o,zU t,zI n,zU f,.string x],zI l] w fun e w'=>e=.returned (.bool (false))∧yD w w':=by
 go_enter Tryz.func144,Tryz.ntmps144
 go_wp2_with (fail)
 go_ret
 exact⟨retB (by simp),Qc _ _⟩
theorem ft_3 (o t n f:Int) (x:yB) (w:yW):Calls zG 144 #[.agg #[zU 3,zU o,zU t,zI n,zU f,.string x],zI 0] w fun e w'=>e=.returned (.bool (decide (1≤f∧f≤6)))∧yD w w':=by
 go_enter Tryz.func144,Tryz.ntmps144
 go_wp2_with (go_at_call 164; refine (JL 164 _ _ _ _ (by simp)).mono ?_; rintro e w' ⟨rfl,rfl⟩)
 go_ret
 exact⟨retB (by simp),Qc _ _⟩
theorem ft_3n (l:Nat) (hl:((l:Int) == 0)=false) (o t n f:Int) (x:yB) (w:yW):Calls zG 144 #[.agg #[zU 3,zU o,zU t,zI n,zU f,.string x],zI l] w fun e w'=>e=.returned (.bool (false))∧yD w w':=by
 go_enter Tryz.func144,Tryz.ntmps144
 go_wp2_with (fail)
 go_ret
 exact⟨retB (by simp),Qc _ _⟩
theorem ft_4 (o t n f:Int) (x:yB) (w:yW):Calls zG 144 #[.agg #[zU 4,zU o,zU t,zI n,zU f,.string x],zI 0] w fun e w'=>e=.returned (.bool (decide (1≤f∧f≤3)))∧yD w w':=by
 go_enter Tryz.func144,Tryz.ntmps144
 go_wp2_with (go_at_call 164; refine (JL 164 _ _ _ _ (by simp)).mono ?_; rintro e w' ⟨rfl,rfl⟩)
 go_ret
 exact⟨retB (by simp),Qc _ _⟩
theorem ft_4n (l:Nat) (hl:((l:Int) == 0)=false) (o t n f:Int) (x:yB) (w:yW):Calls zG 144 #[.agg #[zU 4,zU o,zU t,zI n,zU f,.string x],zI l] w fun e w'=>e=.returned (.bool (false))∧yD w w':=by
 go_enter Tryz.func144,Tryz.ntmps144
 go_wp2_with (fail)
 go_ret
 exact⟨retB (by simp),Qc _ _⟩
theorem ft_5 (o t n f:Int) (x:yB) (w:yW):Calls zG 144 #[.agg #[zU 5,zU o,zU t,zI n,zU f,.string x],zI 1] w fun e w'=>e=.returned (.bool (decide (1≤o∧o≤2)))∧yD w w':=by
 go_enter Tryz.func144,Tryz.ntmps144
 go_wp2_with (go_at_call 165; refine (JL 165 _ _ _ _ (by simp)).mono ?_; rintro e w' ⟨rfl,rfl⟩)
 go_ret
 exact⟨retB (by simp),Qc _ _⟩
theorem ft_5n (l:Nat) (hl:((l:Int) == 1)=false) (o t n f:Int) (x:yB) (w:yW):Calls zG 144 #[.agg #[zU 5,zU o,zU t,zI n,zU f,.string x],zI l] w fun e w'=>e=.returned (.bool (false))∧yD w w':=by
 go_enter Tryz.func144,Tryz.ntmps144
 go_wp2_with (fail)
 go_ret
 exact⟨retB (by simp),Qc _ _⟩
theorem ft_6 (o t n f:Int) (x:yB) (w:yW):Calls zG 144 #[.agg #[zU 6,zU o,zU t,zI n,zU f,.string x],zI 2] w fun e w'=>e=.returned (.bool (decide (6≤o∧o≤18)))∧yD w w':=by
 go_enter Tryz.func144,Tryz.ntmps144
 go_wp2_with (go_at_call 165; refine (JL 165 _ _ _ _ (by simp)).mono ?_; rintro e w' ⟨rfl,rfl⟩)
 go_ret
 exact⟨retB (by simp),Qc _ _⟩
theorem ft_6n (l:Nat) (hl:((l:Int) == 2)=false) (o t n f:Int) (x:yB) (w:yW):Calls zG 144 #[.agg #[zU 6,zU o,zU t,zI n,zU f,.string x],zI l] w fun e w'=>e=.returned (.bool (false))∧yD w w':=by
 go_enter Tryz.func144,Tryz.ntmps144
 go_wp2_with (fail)
 go_ret
 exact⟨retB (by simp),Qc _ _⟩
theorem ft_9 (o t n f:Int) (x:yB) (w:yW):Calls zG 144 #[.agg #[zU 9,zU o,zU t,zI n,zU f,.string x],zI 1] w fun e w'=>e=.returned (.bool (numB t))∧yD w w':=by
 go_enter Tryz.func144,Tryz.ntmps144
 go_wp2_with (go_at_call 159; refine (isNumber_any _ _).mono ?_; rintro e w' ⟨rfl,rfl⟩)
 go_ret
 exact⟨retB (by simp),Qc _ _⟩
theorem ft_9n (l:Nat) (hl:((l:Int) == 1)=false) (o t n f:Int) (x:yB) (w:yW):Calls zG 144 #[.agg #[zU 9,zU o,zU t,zI n,zU f,.string x],zI l] w fun e w'=>e=.returned (.bool (false))∧yD w w':=by
 go_enter Tryz.func144,Tryz.ntmps144
 go_wp2_with (fail)
 go_ret
 exact⟨retB (by simp),Qc _ _⟩
theorem ft_2 (o t n f:Int) (x:yB) (hx:x.size≤140737488355328) (w:yW) (ht:Tab w):Calls zG 144 #[.agg #[zU 2,zU o,zU t,zI n,zU f,.string x],zI 0] w fun e w'=>e=.returned (.bool (QV x))∧yD w w':=by
 go_enter Tryz.func144,Tryz.ntmps144
 go_wp2_with (go_at_call 136; refine (namep_any x hx _ (ht.on (Qc _ _))).mono ?_; rintro e w' ⟨rfl,hb⟩)
 go_ret
 exact⟨retB (by simp),Qs (Qc _ _) hb⟩
theorem ft_2n (l:Nat) (hl:((l:Int) == 0)=false) (o t n f:Int) (x:yB) (w:yW):Calls zG 144 #[.agg #[zU 2,zU o,zU t,zI n,zU f,.string x],zI l] w fun e w'=>e=.returned (.bool (false))∧yD w w':=by
 go_enter Tryz.func144,Tryz.ntmps144
 go_wp2_with (fail)
 go_ret
 exact⟨retB (by simp),Qc _ _⟩
theorem ft_7 (l:Nat) (o t n f:Int) (x:yB) (w:yW):Calls zG 144 #[.agg #[zU 7,zU o,zU t,zI n,zU f,.string x],zI l] w fun e w'=>e=.returned (.bool (decide (l=3)))∧yD w w':=by
 go_enter Tryz.func144,Tryz.ntmps144
 go_wp2_with (fail)
 go_ret
 exact⟨retB (by first | rfl | (by_cases h:l=3 <;> simp [h] <;> omega) | (apply decide_eq_decide.2; omega)),Qc _ _⟩
theorem ft_81 (o t n f:Int) (x:yB) (w:yW):Calls zG 144 #[.agg #[zU 8,zU o,zU t,zI n,zU f,.string x],zI 1] w fun e w'=>e=.returned (.bool (decide (o=3)))∧yD w w':=by
 by_cases ho:o=3
 ·subst ho
  go_enter Tryz.func144,Tryz.ntmps144
  go_wp2_with fail
  go_ret
  exact⟨retB (by simp),Qc _ _⟩
 have ho':(o == 3)=false:=by simp [ho]
 go_enter Tryz.func144,Tryz.ntmps144
 go_wp2_with (fail)
 go_ret
 exact⟨retB (by simp [ho]),Qc _ _⟩
theorem ft_82 (o t n f:Int) (x:yB) (w:yW):Calls zG 144 #[.agg #[zU 8,zU o,zU t,zI n,zU f,.string x],zI 2] w fun e w'=>e=.returned (.bool (decide (4≤o∧o≤5)))∧yD w w':=by
 go_enter Tryz.func144,Tryz.ntmps144
 go_wp2_with (go_at_call 165; refine (JL 165 _ _ _ _ (by simp)).mono ?_; rintro e w' ⟨rfl,rfl⟩)
 go_ret
 exact⟨retB (by simp),Qc _ _⟩
theorem ft_8n (l:Nat) (hl:((l:Int) == 1)=false) (hl2:((l:Int) == 2)=false) (o t n f:Int) (x:yB) (w:yW):Calls zG 144 #[.agg #[zU 8,zU o,zU t,zI n,zU f,.string x],zI l] w fun e w'=>e=.returned (.bool (false))∧yD w w':=by
 go_enter Tryz.func144,Tryz.ntmps144
 go_wp2_with (fail)
 go_ret
 exact⟨retB (by simp),Qc _ _⟩
theorem ft_z (l:Nat) (k:Int) (e1:(k == 1)=false) (e2:(k == 2)=false) (e3:(k == 3)=false) (e4:(k == 4)=false) (e5:(k == 5)=false) (e6:(k == 6)=false) (e7:(k == 7)=false) (e8:(k == 8)=false) (e9:(k == 9)=false) (o t n f:Int) (x:yB) (w:yW):Calls zG 144 #[.agg #[zU k,zU o,zU t,zI n,zU f,.string x],zI l] w fun e w'=>e=.returned (.bool (false))∧yD w w':=by
 go_enter Tryz.func144,Tryz.ntmps144
 go_wp2_with (fail)
 go_ret
 exact⟨retB (by simp),Qc _ _⟩
theorem fits_any (h:Hd) (l:Nat) (hx:h.x.size≤140737488355328) (w:yW) (ht:Tab w):Calls zG 144 #[.agg (J6 h),zI l] w fun e w'=>e=.returned (.bool (fitB h l))∧yD w w':=by
 obtain⟨k,o,t,n,f,x,p⟩:=h
 unfold J6 fitB
 simp only at hx ⊢
 by_cases e1:k=1
 ·subst e1
  rw [if_pos rfl]
  by_cases a:l=0
  ·subst a
   have:=ft_1 o t n f x w
   simpa using this
  have:=ft_1n l (by simp; omega) o t n f x w
  simpa [a] using this
 by_cases e2:k=2
 ·subst e2
  rw [if_neg (by decide),if_pos rfl]
  by_cases a:l=0
  ·subst a
   have:=ft_2 o t n f x hx w ht
   simpa using this
  have:=ft_2n l (by simp; omega) o t n f x w
  simpa [a] using this
 by_cases e3:k=3
 ·subst e3
  rw [if_neg (by decide),if_neg (by decide),if_pos rfl]
  by_cases a:l=0
  ·subst a
   have:=ft_3 o t n f x w
   simpa using this
  have:=ft_3n l (by simp; omega) o t n f x w
  simpa [a] using this
 by_cases e4:k=4
 ·subst e4
  rw [if_neg (by decide),if_neg (by decide),if_neg (by decide),if_pos rfl]
  by_cases a:l=0
  ·subst a
   have:=ft_4 o t n f x w
   simpa using this
  have:=ft_4n l (by simp; omega) o t n f x w
  simpa [a] using this
 by_cases e5:k=5
 ·subst e5
  rw [if_neg (by decide),if_neg (by decide),if_neg (by decide),if_neg (by decide),if_pos rfl]
  by_cases a:l=1
  ·subst a
   have:=ft_5 o t n f x w
   simpa using this
  have:=ft_5n l (by simp; omega) o t n f x w
  simpa [a] using this
 by_cases e6:k=6
 ·subst e6
  rw [if_neg (by decide),if_neg (by decide),if_neg (by decide),if_neg (by decide),if_neg (by decide),if_pos rfl]
  by_cases a:l=2
  ·subst a
   have:=ft_6 o t n f x w
   simpa using this
  have:=ft_6n l (by simp; omega) o t n f x w
  simpa [a] using this
 by_cases e7:k=7
 ·subst e7
  rw [if_neg (by decide),if_neg (by decide),if_neg (by decide),if_neg (by decide),if_neg (by decide),if_neg (by decide),if_pos rfl]
  exact ft_7 l o t n f x w
 by_cases e8:k=8
 ·subst e8
  rw [if_neg (by decide),if_neg (by decide),if_neg (by decide),if_neg (by decide),if_neg (by decide),if_neg (by decide),if_neg (by decide),if_pos rfl]
  by_cases a1:l=1
  ·subst a1
   have:=ft_81 o t n f x w
   simpa using this
  by_cases a2:l=2
  ·subst a2
   have:=ft_82 o t n f x w
   simpa using this
  have:=ft_8n l (by simp; omega) (by simp; omega) o t n f x w
  simpa [a1,a2] using this
 by_cases e9:k=9
 ·subst e9
  rw [if_neg (by decide),if_neg (by decide),if_neg (by decide),if_neg (by decide),if_neg (by decide),if_neg (by decide),if_neg (by decide),if_neg (by decide),if_pos rfl]
  by_cases a:l=1
  ·subst a
   have:=ft_9 o t n f x w
   simpa using this
  have:=ft_9n l (by simp; omega) o t n f x w
  simpa [a] using this
 rw [if_neg e1,if_neg e2,if_neg e3,if_neg e4,if_neg e5,if_neg e6,if_neg e7,if_neg e8,if_neg e9]
 exact ft_z l k (by simp [e1]) (by simp [e2]) (by simp [e3]) (by simp [e4]) (by simp [e5]) (by simp [e6]) (by simp [e7]) (by simp [e8]) (by simp [e9]) o t n f x w
def endE (ok:Bool) (no:Int):Ending:=if ok=true then .returned (.tuple #[]) else .panicked [{ v:=.iface 28 (zI no),recovered:=false }]
theorem need_any (ok:Bool) (no:Int) (w:yW):Calls zG 115 #[.bool ok,zI no] w fun e w'=>e=endE ok no∧w'=w:=by
 cases ok with
 | true =>
  go_enter Tryz.func115,Tryz.ntmps115
  go_wp2_with fail
  go_end0
  exact⟨rfl,rfl⟩
 | false =>
  go_enter Tryz.func115,Tryz.ntmps115
  go_wp2_with fail
  exact⟨rfl,rfl,rfl⟩
def GB (X v:yW):Prop:=yD X v
theorem GB.refl (X:yW):GB X X:=Below.refl _ X
theorem GB.drew {X v:yW}(h:GB X v):GB X v.drew:=Below.drew h
theorem GB.alloc {X v:yW}(h:GB X v) (o:Obj):GB X (v.alloc o):=Below.alloc h h.size o
theorem GB.call {X u v:yW}(k:yD u v) (h:GB X u):GB X v:=Below.trans h (k.mono h.size)
theorem abs_world {Q P:yW→Prop}{v:yW}(h:P v) (k:∀ v',P v'→Q v'):Q v:=k v h
theorem need_t (no:Int) (w:yW):Calls zG 115 #[.bool true,zI no] w fun e w'=>e=.returned (.tuple #[])∧w'=w:=need_any true no w
theorem need_f (no:Int) (w:yW):Calls zG 115 #[.bool false,zI no] w fun e w'=>e=.panicked [{ v:=.iface 28 (zI no),recovered:=false }]∧w'=w:=need_any false no w
theorem Tab.gb {X v:yW}(h:Tab X) (k:GB X v):Tab v:=h.on k
structure KN (X:yW) (M B:Nat) (m:Nd):Prop where
 s:SfH X M m.h
 n:NdH X B m
theorem KN.hid {X:yW}{M B:Nat}{m:Nd}(h:KN X M B m):Hid (KN X M B m):=h
theorem KN.keep {X v:yW}{M B:Nat}{m:Nd}(h:KN X M B m) (k:GB X v):v.cell? M¢0=some (zU m.h.k)∧v.cell? M¢1=some (zU m.h.o)∧v.cell? M¢2=some (zU m.h.t)∧v.cell? M¢3=some (zI m.h.n)∧v.cell? M¢4=some (zU m.h.f)∧v.cell? M¢5=some (.string m.h.x)∧v.cell? B¢6=some (.slice m.a m.ks.length m.c)∧GB X v:=by
 obtain⟨a0,a1,a2,a3,a4,a5⟩:=(h.s.on k).cells
 exact⟨a0,a1,a2,a3,a4,a5,(h.n.on k).at.c6,k⟩
theorem neq6 {h g:Hd}(e:JZ h g=false):h.k=g.k→h.o=g.o→h.t=g.t→h.n=g.n→h.f=g.f→¬h.x.toList=g.x.toList:=by
 intro h0 h1 h2 h3 h4 h6
 by_cases h5:h.x=g.x
 ·unfold JZ at e
  simp [h0,h1,h2,h3,h4,h5] at e
 ·have:=seq_ne h5
  simp [h6] at this
theorem alike_self {h:Hd}(e:JZ h (nm h)=true):J6 (nm h)=J6 h:=by
 unfold JZ at e
 simp only [Bool.and_eq_true,decide_eq_true_eq] at e
 obtain⟨e0,e1,e2,e3,e4,e5⟩:=e
 unfold J6
 rw [← e0,← e1,← e2,← e3,← e4,← e5]
theorem form_any:∀ (m:Nd) (w:yW),Lies w m→Tab w→Calls zG 114 #[.agg m.vals] w fun e w'=>e=endE (QW m) 120∧yD w w':=by
 refine Nd.ind fun h a c ks ih w hl ht=>?_
 have cS:∀ v,Calls zG 142 #[.agg (zX h a ks c)] v fun e w'=>e=.returned (.agg #[zU h.k,zU h.o,zU h.t,zI h.n,zU h.f,.string h.x])∧yD v w':=fun v=>selfOf_any h a ks.length c v
 have HI:Hid (∀ k ∈ ks,∀ (w:yW),Lies w k→Tab w→Calls zG 114 #[.agg k.vals] w fun e w'=>e=endE (QW k) 120∧yD w w'):=ih
 have HL:=hl.hid
 have HT:=ht.hid
 have hx:=hl.rg.x1
 obtain⟨A,eA⟩:∃ A,JZ h (nm h)=A:=⟨_,rfl⟩
 clear ih hl ht
 show Calls zG 114 #[.agg (zX h a ks c)] w _
 cases A with
 | true =>
  have cN:∀ v,Calls zG 143 #[.agg #[zU h.k,zU h.o,zU h.t,zI h.n,zU h.f,.string h.x]] v fun e w'=>e=.returned (.agg #[zU h.k,zU h.o,zU h.t,zI h.n,zU h.f,.string h.x])∧yD v w':=fun v=>by
   have:=named_any h v
   rw [alike_self eA] at this
   exact this
  obtain⟨B,eB⟩:∃ B,fitB h ks.length=B:=⟨_,rfl⟩
  have cF:∀ v,Tab v→Calls zG 144 #[.agg #[zU h.k,zU h.o,zU h.t,zI h.n,zU h.f,.string h.x],zI (ks.length:Int)] v fun e w'=>e=.returned (.bool B)∧yD v w':=fun v hv=>by
   have:=fits_any h ks.length hx v hv
   rw [eB] at this
   exact this
  have KA:Hid (oneH h ks.length=B):=by show _=_; unfold oneH; rw [eA,eB]; rfl
  clear eA eB hx
  go_enter Tryz.func114,Tryz.ntmps114
  go_wp2_with (go_at_call 142; refine (cS _).mono ?_; rintro e w1 ⟨rfl,hb1⟩)
  have hbA:yD w w1:=Qs (Qc w (.cells (zX h a ks c) 48)) hb1
  obtain⟨X,eX⟩:∃ X,w1.alloc (.cells #[zU h.k,zU h.o,zU h.t,zI h.n,zU h.f,.string h.x] 215)=X:=⟨_,rfl⟩
  have hbX:yD w1 X:=by rw [← eX]; exact Qc _ _
  have HBX:Hid (yD w X):=Qs hbA hbX
  have HNX:Hid (NdH X w§ (.mk h a c ks)):=NdH.on (NdH.on (show NdH (w.alloc (.cells (Nd.mk h a c ks).vals 48)) w§ (.mk h a c ks) from Qd _ _) hb1) hbX
  have HKX:Hid (KN X w1§ w§ (.mk h a c ks)):=⟨by rw [← eX]; exact Qd _ _,HNX.out⟩
  have HTX:Hid (Tab X):=HT.out.on HBX.out
  rw [eX]
  obtain⟨M,eM⟩:∃ M,w1§=M:=⟨_,rfl⟩
  rw [eM] at HKX ⊢
  clear eM eX hbX hbA hb1 cS
  cases B with
  | true =>
   have KF:Hid (QW (.mk h a c ks)=Q6 ks):=by show (oneH h ks.length && Q6 ks)=_; rw [KA.out]; rfl
   refine wp_region_held_drew (S:=(fun v=>v.cell? M¢0=some (zU h.k)∧v.cell? M¢1=some (zU h.o)∧v.cell? M¢2=some (zU h.t)∧v.cell? M¢3=some (zI h.n)∧v.cell? M¢4=some (zU h.f)∧v.cell? M¢5=some (.string h.x)∧v.cell? w§¢6=some (.slice a ks.length c)∧GB X v)) zK (HKX.out.keep (by (repeat (first | with_reducible assumption | with_reducible exact GB.refl _ | with_reducible apply GB.drew | with_reducible apply GB.alloc | with_reducible refine GB.call (by with_reducible assumption) ?_)))) (fun hHeld=>?_)
   refine wpAnyH_take (i:=0) (v:=?_) rfl zK zK zK (fun _ _ _ h=>h) (Or.inl ⟨by rfl,?_⟩) (by assumption) ?_
   rotate_left
   ·(intro w hSw; (try dsimp only at hSw); go_simp; try (with_reducible rfl))
   try simp [Act.put]
   refine wpAnyH_take (i:=1) (v:=?_) rfl zK zK zK (fun _ _ _ h=>h) (Or.inl ⟨by rfl,?_⟩) (by assumption) ?_
   rotate_left
   ·(intro w hSw; (try dsimp only at hSw); go_simp; try (with_reducible rfl))
   try simp [Act.put]
   refine wpAnyH_ready (rs:=[2]) zK (by simp) ?_
   refine AllReadyH.cons rfl (fun K hK=>?_) AllReadyH.nil
   go_simp
   refine (cN _).mono ?_
   rintro e w2 ⟨rfl,hb2⟩
   have hg2:GB X w2:=GB.call hb2 (by (repeat (first | with_reducible assumption | with_reducible exact GB.refl _ | with_reducible apply GB.drew | with_reducible apply GB.alloc | with_reducible refine GB.call (by with_reducible assumption) ?_)))
   have HG2:Hid (GB X w2):=hg2
   go_simp
   refine hK.out _ _ ?_ (fun hHeld=>?_)
   ·exact HKX.out.keep hg2
   clear hK K
   try simp [Act.put]
   refine wpAnyH_take (i:=3) (v:=?_) rfl zK zK zK (fun _ _ _ h=>h) (Or.inl ⟨by rfl,?_⟩) (by assumption) ?_
   rotate_left
   ·(intro w hSw; (try dsimp only at hSw); go_simp; try (with_reducible rfl))
   try simp [Act.put]
   refine wpAnyH_take (i:=4) (v:=?_) rfl zK zK zK (fun _ _ _ h=>h) (Or.inl ⟨by rfl,?_⟩) (by assumption) ?_
   rotate_left
   ·(intro w hSw; (try dsimp only at hSw); go_simp; try (with_reducible rfl))
   try simp [Act.put]
   refine wpAnyH_take (i:=5) (v:=?_) rfl zK zK zK (fun _ _ _ h=>h) (Or.inl ⟨by rfl,?_⟩) (by assumption) ?_
   rotate_left
   ·(intro w hSw; (try dsimp only at hSw); go_simp; try (with_reducible rfl))
   try simp [Act.put]
   refine wpAnyH_take (i:=6) (v:=?_) rfl zK zK zK (fun _ _ _ h=>h) (Or.inl ⟨by rfl,?_⟩) (by assumption) ?_
   rotate_left
   ·(intro w hSw; (try dsimp only at hSw); go_simp; try (with_reducible rfl))
   try simp [Act.put]
   refine wpAnyH_take (i:=7) (v:=?_) rfl zK zK zK (fun _ _ _ h=>h) (Or.inl ⟨by rfl,?_⟩) (by assumption) ?_
   rotate_left
   ·(intro w hSw; (try dsimp only at hSw); go_simp; try (with_reducible rfl))
   try simp [Act.put]
   refine wpAnyH_take (i:=8) (v:=?_) rfl zK zK zK (fun _ _ _ h=>h) (Or.inl ⟨by rfl,?_⟩) (by assumption) ?_
   rotate_left
   ·(intro w hSw; (try dsimp only at hSw); go_simp; try (with_reducible rfl))
   try simp [Act.put]
   refine wpAnyH_ready (rs:=[9]) zK (by simp) ?_
   refine AllReadyH.cons rfl (fun K hK=>?_) AllReadyH.nil
   go_simp
   refine (cF _ (HTX.out.gb HG2.out)).mono ?_
   rintro e w3 ⟨rfl,hb3⟩
   have hg3:GB X w3:=GB.call hb3 HG2.out
   have HG3:Hid (GB X w3):=hg3
   go_simp
   refine hK.out _ _ ?_ (fun hHeld=>?_)
   ·exact HKX.out.keep hg3
   clear hK K
   try simp [Act.put]
   refine wpAnyH_take (i:=10) (v:=?_) rfl zK zK zK (fun _ _ _ h=>h) (Or.inl ⟨by rfl,?_⟩) (by assumption) ?_
   rotate_left
   ·(intro w hSw; (try dsimp only at hSw); go_simp; try (with_reducible rfl))
   try simp [Act.put]
   refine wpAnyH_ready (rs:=[11]) zK (by simp) ?_
   refine AllReadyH.cons rfl (fun K hK=>?_) AllReadyH.nil
   go_simp
   refine (need_t 120 _).mono ?_
   rintro e w4 ⟨rfl,e4⟩
   obtain rfl:=e4.symm
   go_simp
   refine hK.out _ _ ?_ (fun hHeld=>?_)
   ·exact HKX.out.keep HG3.out
   clear hK K
   try simp [Act.put]
   refine wpAnyH_done zK ?_ _
   have HBV:Hid (yD w w3):=Qs HBX.out HG3.out
   have HNV:Hid (NdH w3 w§ (.mk h a c ks)):=HNX.out.on HG3.out
   have v6:w3.cell? w§¢6=some (.slice a ks.length c):=HNV.out.at.c6
   clear hHeld hb2 hb3 hg2 hg3 cN cF
   go_wp2_with fail
   go_loopw [22] (fun t wr=>∃ i:Nat,i≤ks.length∧t=zI i∧yD w wr∧Hid (Q6 ks=Q6 (ks.drop i))) (fun t _=>ks.length - (intOf t).toNat)
   case atStart=>exact⟨0,by omega,rfl,HBV.out,rfl⟩
   case round =>
    obtain⟨i,hi,rfl,hbr,HR⟩:=hrel
    have HBR:Hid (yD w wr):=hbr
    clear hbr
    by_cases hlt:i < ks.length
    ·have hlt':(i:Int) < (ks.length:Int):=by omega
     have hmx:(i:Int)+1≤9223372036854775807:=by
      have h1:=HL.out.max
      have h2:=HL.out.cap
      simp only [Nd.ks,Nd.c] at h1 h2
      omega
     obtain⟨b,o,e,hat⟩:=(HL.out.on HBR.out).kid i hlt
     have e:a=some b¢o:=e
     subst e
     have cI:=HI.out ks[i] (QS hlt)
     have HLk:Hid (Lies w ks[i]):=HL.out.sub ks[i] (QS hlt)
     obtain⟨k,ek⟩:∃ k,ks[i]=k:=⟨_,rfl⟩
     have hat:NdAt wr b (o+i * 8) k:=by rw [← ek]; exact hat
     rw [ek] at cI HLk
     have HD:Hid (Q6 ks=(QW k && Q6 (ks.drop (i+1)))):=by show _=_; rw [HR.out,KC hlt,ek]; rfl
     obtain⟨y0,y1,y2,y3,y4,y5,y6,y7⟩:=hat
     obtain⟨B,eB⟩:∃ B,QW k=B:=⟨_,rfl⟩
     rw [eB] at HD cI
     clear ek eB HR
     unfold Nd.vals hdA at cI
     cases B with
     | true =>
      have cI:∀ v,Lies v k→Tab v→Calls zG 114 #[.agg (zV k)] v fun e w'=>e=.returned (.tuple #[])∧yD v w':=cI
      go_wp2_with (go_at_call 114; refine (cI _ (HLk.out.on (Qs HBR.out (Qc _ _))) (HT.out.on (Qs HBR.out (Qc _ _)))).mono ?_; rintro e w5 ⟨rfl,hb5⟩)
      have HB5:Hid (yD w w5):=Qs (Qs HBR.out (Qc _ _)) hb5
      clear hb5
      go_wp2_with fail
      exact⟨⟨i+1,hlt,rfl,HB5.out,by show _=_; rw [HD.out]; rfl⟩,by simp only [intOf]; omega⟩
     | false =>
      have cI:∀ v,Lies v k→Tab v→Calls zG 114 #[.agg (zV k)] v fun e w'=>e=.panicked [{ v:=.iface 28 (zI 120),recovered:=false }]∧yD v w':=cI
      go_wp2_with (go_at_call 114; refine (cI _ (HLk.out.on (Qs HBR.out (Qc _ _))) (HT.out.on (Qs HBR.out (Qc _ _)))).mono ?_; rintro e w5 ⟨rfl,hb5⟩)
      exact⟨rfl,by rw [KF.out,HD.out]; rfl,Qs (Qs HBR.out (Qc _ _)) hb5⟩
    ·obtain rfl:i=ks.length:=by omega
     have hnot:¬ (ks.length:Int) < (ks.length:Int):=by omega
     have HE:Hid (Q6 ks=true):=by show _=_; rw [HR.out,List.drop_length]; rfl
     clear HR
     go_wp2_with fail
     go_end0
     exact⟨by rw [KF.out,HE.out]; rfl,HBR.out⟩
  | false =>
   have KF:Hid (QW (.mk h a c ks)=false):=by show (oneH h ks.length && Q6 ks)=false; rw [KA.out]; rfl
   refine wp_region_held_drew (S:=(fun v=>v.cell? M¢0=some (zU h.k)∧v.cell? M¢1=some (zU h.o)∧v.cell? M¢2=some (zU h.t)∧v.cell? M¢3=some (zI h.n)∧v.cell? M¢4=some (zU h.f)∧v.cell? M¢5=some (.string h.x)∧v.cell? w§¢6=some (.slice a ks.length c)∧GB X v)) zK (HKX.out.keep (by (repeat (first | with_reducible assumption | with_reducible exact GB.refl _ | with_reducible apply GB.drew | with_reducible apply GB.alloc | with_reducible refine GB.call (by with_reducible assumption) ?_)))) (fun hHeld=>?_)
   refine wpAnyH_take (i:=0) (v:=?_) rfl zK zK zK (fun _ _ _ h=>h) (Or.inl ⟨by rfl,?_⟩) (by assumption) ?_
   rotate_left
   ·(intro w hSw; (try dsimp only at hSw); go_simp; try (with_reducible rfl))
   try simp [Act.put]
   refine wpAnyH_take (i:=1) (v:=?_) rfl zK zK zK (fun _ _ _ h=>h) (Or.inl ⟨by rfl,?_⟩) (by assumption) ?_
   rotate_left
   ·(intro w hSw; (try dsimp only at hSw); go_simp; try (with_reducible rfl))
   try simp [Act.put]
   refine wpAnyH_ready (rs:=[2]) zK (by simp) ?_
   refine AllReadyH.cons rfl (fun K hK=>?_) AllReadyH.nil
   go_simp
   refine (cN _).mono ?_
   rintro e w2 ⟨rfl,hb2⟩
   have hg2:GB X w2:=GB.call hb2 (by (repeat (first | with_reducible assumption | with_reducible exact GB.refl _ | with_reducible apply GB.drew | with_reducible apply GB.alloc | with_reducible refine GB.call (by with_reducible assumption) ?_)))
   have HG2:Hid (GB X w2):=hg2
   go_simp
   refine hK.out _ _ ?_ (fun hHeld=>?_)
   ·exact HKX.out.keep hg2
   clear hK K
   try simp [Act.put]
   refine wpAnyH_take (i:=3) (v:=?_) rfl zK zK zK (fun _ _ _ h=>h) (Or.inl ⟨by rfl,?_⟩) (by assumption) ?_
   rotate_left
   ·(intro w hSw; (try dsimp only at hSw); go_simp; try (with_reducible rfl))
   try simp [Act.put]
   refine wpAnyH_take (i:=4) (v:=?_) rfl zK zK zK (fun _ _ _ h=>h) (Or.inl ⟨by rfl,?_⟩) (by assumption) ?_
   rotate_left
   ·(intro w hSw; (try dsimp only at hSw); go_simp; try (with_reducible rfl))
   try simp [Act.put]
   refine wpAnyH_take (i:=5) (v:=?_) rfl zK zK zK (fun _ _ _ h=>h) (Or.inl ⟨by rfl,?_⟩) (by assumption) ?_
   rotate_left
   ·(intro w hSw; (try dsimp only at hSw); go_simp; try (with_reducible rfl))
   try simp [Act.put]
   refine wpAnyH_take (i:=6) (v:=?_) rfl zK zK zK (fun _ _ _ h=>h) (Or.inl ⟨by rfl,?_⟩) (by assumption) ?_
   rotate_left
   ·(intro w hSw; (try dsimp only at hSw); go_simp; try (with_reducible rfl))
   try simp [Act.put]
   refine wpAnyH_take (i:=7) (v:=?_) rfl zK zK zK (fun _ _ _ h=>h) (Or.inl ⟨by rfl,?_⟩) (by assumption) ?_
   rotate_left
   ·(intro w hSw; (try dsimp only at hSw); go_simp; try (with_reducible rfl))
   try simp [Act.put]
   refine wpAnyH_take (i:=8) (v:=?_) rfl zK zK zK (fun _ _ _ h=>h) (Or.inl ⟨by rfl,?_⟩) (by assumption) ?_
   rotate_left
   ·(intro w hSw; (try dsimp only at hSw); go_simp; try (with_reducible rfl))
   try simp [Act.put]
   refine wpAnyH_ready (rs:=[9]) zK (by simp) ?_
   refine AllReadyH.cons rfl (fun K hK=>?_) AllReadyH.nil
   go_simp
   refine (cF _ (HTX.out.gb HG2.out)).mono ?_
   rintro e w3 ⟨rfl,hb3⟩
   have hg3:GB X w3:=GB.call hb3 HG2.out
   have HG3:Hid (GB X w3):=hg3
   go_simp
   refine hK.out _ _ ?_ (fun hHeld=>?_)
   ·exact HKX.out.keep hg3
   clear hK K
   try simp [Act.put]
   refine wpAnyH_take (i:=10) (v:=?_) rfl zK zK zK (fun _ _ _ h=>h) (Or.inl ⟨by rfl,?_⟩) (by assumption) ?_
   rotate_left
   ·(intro w hSw; (try dsimp only at hSw); go_simp; try (with_reducible rfl))
   try simp [Act.put]
   refine wpAnyH_ready (rs:=[11]) zK (by simp) ?_
   refine AllReadyH.cons rfl (fun K hK=>?_) AllReadyH.nil
   go_simp
   refine (need_f 120 _).mono ?_
   rintro e w4 ⟨rfl,e4⟩
   obtain rfl:=e4.symm
   exact⟨rfl,by rw [KF.out]; rfl,Qs HBX.out HG3.out⟩
 | false =>
  have KF:Hid (QW (.mk h a c ks)=false):=by show (oneH h ks.length && Q6 ks)=false; unfold oneH; rw [eA]; rfl
  obtain⟨g,eg⟩:∃ g,nm h=g:=⟨_,rfl⟩
  have cN:∀ v,Calls zG 143 #[.agg #[zU h.k,zU h.o,zU h.t,zI h.n,zU h.f,.string h.x]] v fun e w'=>e=.returned (.agg #[zU g.k,zU g.o,zU g.t,zI g.n,zU g.f,.string g.x])∧yD v w':=fun v=>by
   have:=named_any h v
   rw [eg] at this
   exact this
  rw [eg] at eA
  have HA:Hid (JZ h g=false):=eA
  clear eA eg
  go_enter Tryz.func114,Tryz.ntmps114
  go_wp2_with (go_at_call 142; refine (cS _).mono ?_; rintro e w1 ⟨rfl,hb1⟩)
  have hbA:yD w w1:=Qs (Qc w (.cells (zX h a ks c) 48)) hb1
  obtain⟨X,eX⟩:∃ X,w1.alloc (.cells #[zU h.k,zU h.o,zU h.t,zI h.n,zU h.f,.string h.x] 215)=X:=⟨_,rfl⟩
  have hbX:yD w1 X:=by rw [← eX]; exact Qc _ _
  have HBX:Hid (yD w X):=Qs hbA hbX
  have HNX:Hid (NdH X w§ (.mk h a c ks)):=NdH.on (NdH.on (show NdH (w.alloc (.cells (Nd.mk h a c ks).vals 48)) w§ (.mk h a c ks) from Qd _ _) hb1) hbX
  have HKX:Hid (KN X w1§ w§ (.mk h a c ks)):=⟨by rw [← eX]; exact Qd _ _,HNX.out⟩
  have HTX:Hid (Tab X):=HT.out.on HBX.out
  rw [eX]
  obtain⟨M,eM⟩:∃ M,w1§=M:=⟨_,rfl⟩
  rw [eM] at HKX ⊢
  clear eM eX hbX hbA hb1 cS
  refine wp_region_held_drew (S:=(fun v=>v.cell? M¢0=some (zU h.k)∧v.cell? M¢1=some (zU h.o)∧v.cell? M¢2=some (zU h.t)∧v.cell? M¢3=some (zI h.n)∧v.cell? M¢4=some (zU h.f)∧v.cell? M¢5=some (.string h.x)∧v.cell? w§¢6=some (.slice a ks.length c)∧GB X v)) zK (HKX.out.keep (by (repeat (first | with_reducible assumption | with_reducible exact GB.refl _ | with_reducible apply GB.drew | with_reducible apply GB.alloc | with_reducible refine GB.call (by with_reducible assumption) ?_)))) (fun hHeld=>?_)
  refine wpAnyH_take (i:=0) (v:=?_) rfl zK zK zK (fun _ _ _ h=>h) (Or.inl ⟨by rfl,?_⟩) (by assumption) ?_
  rotate_left
  ·(intro w hSw; (try dsimp only at hSw); go_simp; try (with_reducible rfl))
  try simp [Act.put]
  refine wpAnyH_take (i:=1) (v:=?_) rfl zK zK zK (fun _ _ _ h=>h) (Or.inl ⟨by rfl,?_⟩) (by assumption) ?_
  rotate_left
  ·(intro w hSw; (try dsimp only at hSw); go_simp; try (with_reducible rfl))
  try simp [Act.put]
  refine wpAnyH_ready (rs:=[2]) zK (by simp) ?_
  refine AllReadyH.cons rfl (fun K hK=>?_) AllReadyH.nil
  go_simp
  refine (cN _).mono ?_
  rintro e w2 ⟨rfl,hb2⟩
  have hg2:GB X w2:=GB.call hb2 (by (repeat (first | with_reducible assumption | with_reducible exact GB.refl _ | with_reducible apply GB.drew | with_reducible apply GB.alloc | with_reducible refine GB.call (by with_reducible assumption) ?_)))
  have HG2:Hid (GB X w2):=hg2
  go_simp
  refine hK.out _ _ ?_ (fun hHeld=>?_)
  ·exact HKX.out.keep hg2
  clear hK K
  try simp [Act.put]
  refine wpAnyH_take (i:=3) (v:=.bool false) rfl zK zK zK (fun _ _ _ h=>h) (Or.inl ⟨by rfl,?_⟩) (by assumption) ?_
  ·(intro w hSw; (try dsimp only at hSw); go_simp; exact neq6 HA.out)
  try simp [Act.put]
  refine wpAnyH_take (i:=4) (v:=?_) rfl zK zK zK (fun _ _ _ h=>h) (Or.inl ⟨by rfl,?_⟩) (by assumption) ?_
  rotate_left
  ·(intro w hSw; (try dsimp only at hSw); go_simp; try (with_reducible rfl))
  try simp [Act.put]
  refine wpAnyH_take (i:=5) (v:=?_) rfl zK zK zK (fun _ _ _ h=>h) (Or.inr ⟨by rfl,?_⟩) (by assumption) ?_
  rotate_left
  ·rfl
  try simp [Act.put]
  refine wpAnyH_take (i:=6) (v:=?_) rfl zK zK zK (fun _ _ _ h=>h) (Or.inr ⟨by rfl,?_⟩) (by assumption) ?_
  rotate_left
  ·rfl
  try simp [Act.put]
  refine wpAnyH_take (i:=7) (v:=?_) rfl zK zK zK (fun _ _ _ h=>h) (Or.inr ⟨by rfl,?_⟩) (by assumption) ?_
  rotate_left
  ·rfl
  try simp [Act.put]
  refine wpAnyH_take (i:=8) (v:=?_) rfl zK zK zK (fun _ _ _ h=>h) (Or.inr ⟨by rfl,?_⟩) (by assumption) ?_
  rotate_left
  ·rfl
  try simp [Act.put]
  refine wpAnyH_take (i:=9) (v:=?_) rfl zK zK zK (fun _ _ _ h=>h) (Or.inr ⟨by rfl,?_⟩) (by assumption) ?_
  rotate_left
  ·rfl
  try simp [Act.put]
  refine wpAnyH_take (i:=10) (v:=?_) rfl zK zK zK (fun _ _ _ h=>h) (Or.inl ⟨by rfl,?_⟩) (by assumption) ?_
  rotate_left
  ·(intro w hSw; (try dsimp only at hSw); go_simp; try (with_reducible rfl))
  try simp [Act.put]
  refine wpAnyH_ready (rs:=[11]) zK (by simp) ?_
  refine AllReadyH.cons rfl (fun K hK=>?_) AllReadyH.nil
  go_simp
  refine (need_f 120 _).mono ?_
  rintro e w4 ⟨rfl,e4⟩
  obtain rfl:=e4.symm
  exact⟨rfl,by rw [KF.out]; rfl,Qs HBX.out HG2.out⟩
theorem box8 {w w':yW}{k o t n f p:Int}{x:yB}{a:Option Addr}{l c:Nat}(hb:Below (w.alloc (.cells #[zU k,zU o,zU t,zI n,zU f,.string x,.slice a l c,zI p] 48))§ (w.alloc (.cells #[zU k,zU o,zU t,zI n,zU f,.string x,.slice a l c,zI p] 48)) w') :
  w'.cell? w§¢0=some (zU k)∧w'.cell? w§¢1=some (zU o)∧w'.cell? w§¢2=some (zU t)∧w'.cell? w§¢3=some (zI n)∧w'.cell? w§¢4=some (zU f)∧w'.cell? w§¢5=some (.string x)∧w'.cell? w§¢6=some (.slice a l c)∧w'.cell? w§¢7=some (zI p):=by
 have h:=(hb.block w§ (by rw [Qf]; omega)).trans (Qd w _)
 exact⟨Qa h 0,Qa h 1,Qa h 2,Qa h 3,Qa h 4,Qa h 5,Qa h 6,Qa h 7⟩
theorem levelOf_any (o:Int) (w:yW):Calls zG 166 #[zU o] w fun e w'=>e=.returned (zI (lvO o))∧w'=w:=by
 unfold lvO
 by_cases a:o=18
 ·subst a; go_enter Tryz.func166,Tryz.ntmps166; go_wp2_with fail; go_ret; exact⟨rfl,rfl⟩
 by_cases b:o=17
 ·subst b; go_enter Tryz.func166,Tryz.ntmps166; go_wp2_with fail; go_ret; exact⟨rfl,rfl⟩
 by_cases c:o=6
 ·subst c; go_enter Tryz.func166,Tryz.ntmps166; go_wp2_with fail; go_ret; exact⟨rfl,rfl⟩
 by_cases d:o=7
 ·subst d; go_enter Tryz.func166,Tryz.ntmps166; go_wp2_with fail; go_ret; exact⟨rfl,rfl⟩
 by_cases e:o=8
 ·subst e; go_enter Tryz.func166,Tryz.ntmps166; go_wp2_with fail; go_ret; exact⟨rfl,rfl⟩
 by_cases f:o=9
 ·subst f; go_enter Tryz.func166,Tryz.ntmps166; go_wp2_with fail; go_ret; exact⟨rfl,rfl⟩
 by_cases g:o=10
 ·subst g; go_enter Tryz.func166,Tryz.ntmps166; go_wp2_with fail; go_ret; exact⟨rfl,rfl⟩
 rw [if_neg a,if_neg b,if_neg (by omega),if_neg (by omega)]
 have a':(o == 18)=false:=by simp [a]
 have b':(o == 17)=false:=by simp [b]
 have c':(o == 6)=false:=by simp [c]
 have d':(o == 7)=false:=by simp [d]
 have e':(o == 8)=false:=by simp [e]
 have f':(o == 9)=false:=by simp [f]
 have g':(o == 10)=false:=by simp [g]
 clear a b c d e f g
 go_enter Tryz.func166,Tryz.ntmps166; go_wp2_with fail; go_ret; exact⟨rfl,rfl⟩
theorem level_any (h:Hd) (a:Option Addr) (l c:Nat) (w:yW):Calls zG 145 #[.agg (hdA h a l c)] w fun e w'=>e=.returned (zI (lvl h))∧yD w w':=by
 obtain⟨k,o,t,n,f,x,p⟩:=h
 unfold hdA lvl
 simp only
 have cO:=levelOf_any o
 obtain⟨V,eV⟩:∃ V,lvO o=V:=⟨_,rfl⟩
 simp only [eV] at cO
 rw [eV]
 clear eV
 by_cases a7:k=7
 ·subst a7; go_enter Tryz.func145,Tryz.ntmps145; go_wp2_with fail; go_ret; exact⟨rfl,Qc _ _⟩
 by_cases a6:k=6
 ·subst a6; go_enter Tryz.func145,Tryz.ntmps145; go_wp2_with (go_at_call 166; refine (cO _).mono ?_; rintro e w' ⟨rfl,rfl⟩); go_ret; exact⟨rfl,Qc _ _⟩
 by_cases a5:k=5
 ·subst a5; go_enter Tryz.func145,Tryz.ntmps145; go_wp2_with fail; go_ret; exact⟨rfl,Qc _ _⟩
 rw [if_neg a7,if_neg a6,if_neg a5]
 have b7:(k == 7)=false:=by simp [a7]
 have b6:(k == 6)=false:=by simp [a6]
 have b5:(k == 5)=false:=by simp [a5]
 clear a7 a6 a5
 go_enter Tryz.func145,Tryz.ntmps145; go_wp2_with fail; go_ret; exact⟨rfl,Qc _ _⟩
theorem lvl_le (h:Hd):1≤lvl h∧lvl h≤8:=by
 unfold lvl lvO
 split
 ·omega
 ·split
  ·repeat (first | omega | split)
  ·split <;> omega
theorem asked_any (h:Hd) (a:Option Addr) (l c i:Nat) (hi:i≤9223372036854775000) (w:yW):Calls zG 146 #[.agg (hdA h a l c),zI i] w fun e w'=>e=.returned (zI (ask h i))∧yD w w':=by
 have cL:=fun v=>level_any h a l c v
 have hle:=lvl_le h
 unfold ask
 obtain⟨V,eV⟩:∃ V,lvl h=V:=⟨_,rfl⟩
 rw [eV] at hle
 simp only [eV] at cL
 simp only [eV]
 clear eV
 obtain⟨k,o,t,n,f,x,p⟩:=h
 unfold hdA at cL ⊢
 simp only at cL ⊢
 obtain⟨hl1,hl2⟩:=hle
 by_cases a7:k=7
 ·subst a7
  by_cases i0:i=0
  ·subst i0; go_enter Tryz.func146,Tryz.ntmps146; go_wp2_with fail; go_ret; exact⟨rfl,Qc _ _⟩
  ·have i0':((i:Int) == 0)=false:=by simp; omega
   rw [if_pos rfl,if_neg i0]
   go_enter Tryz.func146,Tryz.ntmps146; go_wp2_with fail; go_ret; exact⟨rfl,Qc _ _⟩
 by_cases a6:k=6
 ·subst a6
  by_cases v4:V=4
  ·subst v4; go_enter Tryz.func146,Tryz.ntmps146; go_wp2_with (go_at_call 145; refine (cL _).mono ?_; rintro e w' ⟨rfl,hb⟩); go_ret; exact⟨rfl,(Qc _ _).trans (hb.mono (by simp))⟩
  ·have v4':(V == 4)=false:=by simp [v4]
   have g1:-9223372036854775808≤V+(i:Int):=by omega
   have g2:V+(i:Int)≤9223372036854775807:=by omega
   rw [if_neg (by decide),if_pos rfl,if_neg v4]
   go_enter Tryz.func146,Tryz.ntmps146
   go_wp2_with fail
   refine (cL _).mono ?_
   rintro e w1 ⟨rfl,hb⟩
   obtain⟨q0,q1,q2,q3,q4,q5,q6,q7⟩:=box8 hb
   have HB1:Hid (yD w w1):=(Qc _ _).trans (hb.mono (by simp))
   clear hb
   go_wp2_with fail
   refine (cL _).mono ?_
   rintro e w2 ⟨rfl,hb⟩
   have HB2:Hid (yD w w2):=HB1.out.trans (hb.mono HB1.out.size)
   clear hb
   go_wp2_with fail
   go_ret
   exact⟨rfl,HB2.out⟩
 by_cases a5:k=5
 ·subst a5; go_enter Tryz.func146,Tryz.ntmps146; go_wp2_with fail; go_ret; exact⟨rfl,Qc _ _⟩
 rw [if_neg a7,if_neg a6,if_neg a5]
 have b7:(k == 7)=false:=by simp [a7]
 have b6:(k == 6)=false:=by simp [a6]
 have b5:(k == 5)=false:=by simp [a5]
 clear a7 a6 a5
 go_enter Tryz.func146,Tryz.ntmps146; go_wp2_with fail; go_ret; exact⟨rfl,Qc _ _⟩
theorem goesDown_any (h:Hd) (a:Option Addr) (l c i:Nat) (w:yW):Calls zG 147 #[.agg (hdA h a l c),zI i] w fun e w'=>e=.returned (.bool (dwn h i))∧yD w w':=by
 obtain⟨k,o,t,n,f,x,p⟩:=h
 unfold hdA dwn
 simp only
 by_cases a6:k=6
 ·subst a6; go_enter Tryz.func147,Tryz.ntmps147; go_wp2_with fail; go_ret; exact⟨rfl,Qc _ _⟩
 by_cases a7:k=7
 ·subst a7
  by_cases i0:0 < i
  ·have i1:(0:Int) < (i:Int):=by omega
   go_enter Tryz.func147,Tryz.ntmps147; go_wp2_with fail; go_ret; exact⟨retB (by simp),Qc _ _⟩
  ·have i1:¬ (0:Int) < (i:Int):=by omega
   go_enter Tryz.func147,Tryz.ntmps147; go_wp2_with fail; go_ret; exact⟨retB (by simp),Qc _ _⟩
 rw [if_neg a6,if_neg a7]
 have b7:(k == 7)=false:=by simp [a7]
 have b6:(k == 6)=false:=by simp [a6]
 clear a7 a6
 go_enter Tryz.func147,Tryz.ntmps147; go_wp2_with fail; go_ret; exact⟨rfl,Qc _ _⟩
end Go.Proofs.YtoogodlnnijikaaGreatDoor
