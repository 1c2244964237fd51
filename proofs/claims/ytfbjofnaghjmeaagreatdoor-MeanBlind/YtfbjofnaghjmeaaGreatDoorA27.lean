import Derived.Test.YtfbjofnaghjmeaaGreatDoorA0
import Derived.Test.YtfbjofnaghjmeaaGreatDoorA26
import Derived.Test.YtfbjofnaghjmeaaGreatDoorProg
import Derived.Test.YtfbjofnaghjmeaaGreatDoorA2
import Derived.WalkKit
import Derived.ProofKit
import Derived.Outline
import Derived.Below
import Derived.Laws.Rows
import Derived.BigRegion
import Derived.Deep.QuietTactic
import Derived.BigQuiet
import Derived.Test.YtfbjofnaghjmeaaGreatDoorA23
namespace Go.Proofs.YtfbjofnaghjmeaaGreatDoor
set_option maxHeartbeats 4000000
set_option maxRecDepth 100000
namespace Fx
open Go.RowKit
theorem ret2n {k:IntKind}{a b c d:Int}(h:a=b) (h':c=d):Ending.returned (.tuple #[.int k a,.int k c])=.returned (.tuple #[.int k b,.int k d]):=by rw [h,h']
theorem prod_nat (x y:Nat) (hx:x < 18446744073709551616) (hy:y < 18446744073709551616) :
  ∃ A X Y L:Nat,(x / 4294967296) * (y / 4294967296)=A∧(x / 4294967296) * (y % 4294967296)=X∧(x % 4294967296) * (y / 4294967296)=Y∧(x % 4294967296) * (y % 4294967296)=L ∧
   A≤18446744065119617025∧X≤18446744065119617025∧Y≤18446744065119617025∧L≤18446744065119617025∧x * y=A * 18446744073709551616+(X+Y) * 4294967296+L:=by
 have top:∀ a b:Nat,a≤4294967295→b≤4294967295→a * b≤18446744065119617025:=fun a b ha hb=>Nat.mul_le_mul ha hb
 refine⟨_,_,_,_,rfl,rfl,rfl,rfl,top _ _ (by omega) (by omega),top _ _ (by omega) (by omega),top _ _ (by omega) (by omega),top _ _ (by omega) (by omega),?_⟩
 obtain⟨a,ha⟩:∃ a,x / 4294967296=a:=⟨_,rfl⟩
 obtain⟨b,hb⟩:∃ b,x % 4294967296=b:=⟨_,rfl⟩
 obtain⟨c,hc⟩:∃ c,y / 4294967296=c:=⟨_,rfl⟩
 obtain⟨d,hd⟩:∃ d,y % 4294967296=d:=⟨_,rfl⟩
 have ex:x=a * 4294967296+b:=by omega
 have ey:y=c * 4294967296+d:=by omega
 rw [ha,hb,hc,hd,ex,ey]
 have e1:(a * 4294967296+b) * (c * 4294967296+d)=(a * 4294967296) * (c * 4294967296)+(a * 4294967296) * d+(b * (c * 4294967296)+b * d):=by
  rw [Nat.add_mul,Nat.mul_add,Nat.mul_add]
 have e2:(a * 4294967296) * (c * 4294967296)=a * c * 18446744073709551616:=by rw [Nat.mul_mul_mul_comm]
 have e3:(a * 4294967296) * d=a * d * 4294967296:=Nat.mul_right_comm _ _ _
 have e4:b * (c * 4294967296)=b * c * 4294967296:=(Nat.mul_assoc _ _ _).symm
 rw [e1,e2,e3,e4]
 generalize a * c=p
 generalize a * d=q
 generalize b * c=r
 generalize b * d=t
 omega
theorem low_half (a:Int) (h0:0≤a) (h1:a≤18446744073709551615):bits .and .u64 a 4294967295=a % 4294967296:=by
 obtain⟨n,rfl⟩:=Int.eq_ofNat_of_zero_le h0
 rw [show (4294967295:Int)=((4294967295:Nat):Int) from rfl,bits_and_u64_nat n 4294967295 (by omega) (by decide),show (4294967295:Nat)=2 ^ 32 - 1 from rfl,Nat.and_two_pow_sub_one_eq_mod]
 exact Int.natCast_emod n (2 ^ 32)
theorem wrap_prod (a b m:Nat) (p q:Int) (hp:p=(a:Int)) (hq:q=(b:Int)) (h:a * b=m) (hm:m≤18446744065119617025):IntKind.u64.wrap (p * q)=(m:Int):=by
 subst hp; subst hq
 rw [← Int.natCast_mul,h,IntKind.wrap_u64]
 omega
theorem mul64_any (x y:Nat) (hx:x < 18446744073709551616) (hy:y < 18446744073709551616) (w:yW) :
  Calls zG 41 #[.int .u64 x,.int .u64 y] w fun e w'=>e=.returned (.tuple #[.int .u64 ((x * y / 18446744073709551616:Nat):Int),.int .u64 ((x * y % 18446744073709551616:Nat):Int)])∧w'=w:=by
 obtain⟨A,X,Y,L,eA,eX,eY,eL,bA,bX,bY,bL,e⟩:=prod_nat x y hx hy
 have k1:=low_half (x:Int) (by omega) (by omega)
 have k2:=low_half (y:Int) (by omega) (by omega)
 have k3:=low_half ((X:Int)+(L:Int) / 4294967296) (by omega) (by omega)
 have kA:=wrap_prod (x / 4294967296) (y / 4294967296) A ((x:Int) / 4294967296) ((y:Int) / 4294967296) (by omega) (by omega) eA bA
 have kX:=wrap_prod (x / 4294967296) (y % 4294967296) X ((x:Int) / 4294967296) ((y:Int) % 4294967296) (by omega) (by omega) eX bX
 have kY:=wrap_prod (x % 4294967296) (y / 4294967296) Y ((x:Int) % 4294967296) ((y:Int) / 4294967296) (by omega) (by omega) eY bY
 have kL:=wrap_prod (x % 4294967296) (y % 4294967296) L ((x:Int) % 4294967296) ((y:Int) % 4294967296) (by omega) (by omega) eL bL
 have HE:Hid (x * y=A * 18446744073709551616+(X+Y) * 4294967296+L):=e
 have HL:Hid (IntKind.u64.wrap ((x:Int) * (y:Int))=((x * y % 18446744073709551616:Nat):Int)):=by
  show IntKind.u64.wrap ((x:Int) * (y:Int))=((x * y % 18446744073709551616:Nat):Int)
  rw [← Int.natCast_mul,IntKind.wrap_u64]; omega
 clear eA eX eY eL e
 go_enter Tryz.func41,Tryz.ntmps41
 go_wp2
 go_ret2
 refine⟨ret2n ?_ HL.out,rfl⟩
 rw [HE.out]
 omega
theorem sign_mul (a b:Int) (h:(a.natAbs * b.natAbs:Nat)=(a * b).natAbs) (p:Bool) (hp:p=(!(decide (a < 0) == decide (b < 0)))):sizeS (a.natAbs * b.natAbs) p=a * b:=by
 subst hp
 unfold sizeS
 rw [h]
 by_cases ha:a < 0 <;> by_cases hb:b < 0
 ·have:=Int.mul_nonneg_of_nonpos_of_nonpos (a:=a) (b:=b) (by omega) (by omega)
  simp [ha,hb]; omega
 ·have:=Int.mul_nonpos_of_nonpos_of_nonneg (a:=a) (b:=b) (by omega) (by omega)
  simp [ha,hb]; omega
 ·have:=Int.mul_nonpos_of_nonneg_of_nonpos (a:=a) (b:=b) (by omega) (by omega)
  simp [ha,hb]; omega
 ·have:=Int.mul_nonneg (a:=a) (b:=b) (by omega) (by omega)
  simp [ha,hb]; omega
theorem mul_any (a b:Int) (a1:-9223372036854775808≤a) (a2:a≤9223372036854775807) (b1:-9223372036854775808≤b) (b2:b≤9223372036854775807) (w:yW) :
  Calls zG 17 #[zI a,zI b] w fun e w'=>e=.returned (.tuple #[zI (fitN (a * b)),.bool (fitB (a * b))])∧w'=w:=by
 have hab:a.natAbs * b.natAbs=(a * b).natAbs:=(Int.natAbs_mul a b).symm
 by_cases hh:a.natAbs * b.natAbs < 18446744073709551616
 ·have e1:Hid (a.natAbs * b.natAbs / 18446744073709551616=0):=Nat.div_eq_of_lt hh
  have e2:Hid (a.natAbs * b.natAbs % 18446744073709551616=a.natAbs * b.natAbs):=Nat.mod_eq_of_lt hh
  have e3:Hid (∀ p,p=(!(decide (a < 0) == decide (b < 0)))→sizeS (a.natAbs * b.natAbs) p=a * b):=sign_mul a b hab
  clear hab
  go_enter Tryz.func17,Tryz.ntmps17
  go_wp2_with fail
  refine (magnitude_any a a1 a2 _).mono ?_
  rintro e w' ⟨rfl,rfl⟩
  go_wp2_with fail
  refine (magnitude_any b b1 b2 _).mono ?_
  rintro e w' ⟨rfl,rfl⟩
  go_wp2_with fail
  refine (mul64_any _ _ (by omega) (by omega) _).mono ?_
  rintro e w' ⟨rfl,rfl⟩
  rw [e1.out,e2.out]
  go_wp2_with fail
  refine (signed_any _ _ hh _).mono ?_
  rintro e w' ⟨rfl,rfl⟩
  rw [e3.out _ rfl]
  go_wp2_with fail
  go_ret2
  exact⟨rfl,rfl⟩
 ·have e1:Hid (∃ k:Nat,0 < k∧a.natAbs * b.natAbs / 18446744073709551616=k):=⟨_,by omega,rfl⟩
  have hb:Hid (fitB (a * b)=false):=fitB_false (by omega)
  clear hab
  go_enter Tryz.func17,Tryz.ntmps17
  go_wp2_with fail
  refine (magnitude_any a a1 a2 _).mono ?_
  rintro e w' ⟨rfl,rfl⟩
  go_wp2_with fail
  refine (magnitude_any b b1 b2 _).mono ?_
  rintro e w' ⟨rfl,rfl⟩
  go_wp2_with fail
  refine (mul64_any _ _ (by omega) (by omega) _).mono ?_
  rintro e w' ⟨rfl,rfl⟩
  obtain⟨k,hk,hk'⟩:=e1.out
  rw [hk']
  have hk2:((k:Int) != 0)=true:=by simp; omega
  clear hk'
  go_wp2_with fail
  go_ret2
  exact⟨ret2 (fitN_false hb.out).symm hb.out.symm,rfl⟩
end Fx
namespace Sx
open Go.RowKit
set_option linter.unusedVariables false
structure Sn where
 bid:Int
 ask:Int
 last:Int
 vol:Int
 now:Int
 opn:Int
def snA (s:Sn):Array Value:=#[zI s.bid,zI s.ask,zI s.last,zI s.vol,zI s.now,zI s.opn]
def sn0:Sn:=⟨0,0,0,0,0,0⟩
structure May (s:Sn):Prop where
 b0:0≤s.bid
 b1:s.bid≤1000000000
 a0:0≤s.ask
 a1:s.ask≤1000000000
 l0:0≤s.last
 l1:s.last≤1000000000
 v0:0≤s.vol
 v1:s.vol≤1000000000000000
 n0:0≤s.now
 n1:s.now≤1000000000000000
 o0:0≤s.opn
 o1:s.opn≤256000000000
def inB (n m:Int):Bool:=decide (0≤n) && decide (n≤m)
theorem inB_iff {n m:Int}:inB n m=true ↔ 0≤n∧n≤m:=by unfold inB; simp
def mayB (s:Sn):Bool:=inB s.bid 1000000000 && inB s.ask 1000000000 && inB s.last 1000000000 && inB s.vol 1000000000000000 && inB s.now 1000000000000000 && inB s.opn 256000000000
theorem mayB_iff {s:Sn}:mayB s=true ↔ May s:=by
 unfold mayB
 simp only [Bool.and_eq_true,inB_iff]
 constructor
 ·rintro ⟨⟨⟨⟨⟨⟨a,b⟩,c,d⟩,e,f⟩,g,h⟩,i,j⟩,k,l⟩
  exact⟨a,b,c,d,e,f,g,h,i,j,k,l⟩
 ·rintro ⟨a,b,c,d,e,f,g,h,i,j,k,l⟩
  exact⟨⟨⟨⟨⟨⟨a,b⟩,c,d⟩,e,f⟩,g,h⟩,i,j⟩,k,l⟩
theorem mayB_f {s:Sn}(h:¬ May s):mayB s=false:=by
 cases e:mayB s
 ·rfl
 ·exact absurd (mayB_iff.1 e) h
def chkN (s:Sn):Int:=if mayB s=true then 0 else 100
theorem chk_f {s:Sn}(h:mayB s=false):chkN s=100:=by unfold chkN; rw [h]; rfl
theorem chk_t {s:Sn}(h:mayB s=true):chkN s=0:=by unfold chkN; rw [h]; rfl
theorem chk_no {s:Sn}(h:¬ May s):chkN s=100:=chk_f (mayB_f h)
theorem chk_ok {s:Sn}(h:May s):chkN s=0:=chk_t (mayB_iff.2 h)
def getN (s:Sn) (f:Int):Int:=if f=1 then s.bid else if f=2 then s.ask else if f=3 then s.last else if f=4 then s.vol else if f=5 then s.now else if f=6 then s.opn else 0
structure SnAt (w:yW) (b:Nat) (s:Sn):Prop where
 c0:w.cell? b¢0=some (zI s.bid)
 c1:w.cell? b¢1=some (zI s.ask)
 c2:w.cell? b¢2=some (zI s.last)
 c3:w.cell? b¢3=some (zI s.vol)
 c4:w.cell? b¢4=some (zI s.now)
 c5:w.cell? b¢5=some (zI s.opn)
theorem SnAt.on {w w':yW}{b B:Nat}{r:Sn}(h:SnAt w b r) (k:Below B w w') (hb:b < B):SnAt w' b r :=
 ⟨(k.cell hb).trans h.c0,(k.cell hb).trans h.c1,(k.cell hb).trans h.c2,(k.cell hb).trans h.c3,(k.cell hb).trans h.c4,(k.cell hb).trans h.c5⟩
theorem cell_alloc (w:yW) (a:Array Value) (t:TypeId) (j:Nat):(w.alloc (.cells a t)).cell? w§¢j=a[j]?:=by
 unfold World.cell? World.alloc; simp
theorem SnAt.new (w:yW) (r:Sn) (t:TypeId):SnAt (w.alloc (.cells (snA r) t)) w§ r :=
 ⟨(cell_alloc ..).trans rfl,(cell_alloc ..).trans rfl,(cell_alloc ..).trans rfl,(cell_alloc ..).trans rfl,(cell_alloc ..).trans rfl,(cell_alloc ..).trans rfl⟩
def nuA (s:Sn):Array Value:=#[zI 0,zI s.bid,zI s.ask,zI s.last,zI s.vol,zI s.now,zI s.opn]
theorem numbers_any (s:Sn) (w:yW):Calls zG 97 #[.agg (snA s)] w fun e w'=>e=.returned (.agg (nuA s))∧yD w w':=by
 have hR:=SnAt.new w s 31
 have hB:=below_new w (.cells (snA s) 31)
 have hZ:=size_alloc w (.cells (snA s) 31)
 unfold snA at *
 obtain⟨W,hW⟩:∃ W,w.alloc (.cells #[zI s.bid,zI s.ask,zI s.last,zI s.vol,zI s.now,zI s.opn] 31)=W:=⟨_,rfl⟩
 rw [hW] at hR hB hZ
 obtain⟨c0,c1,c2,c3,c4,c5⟩:=hR
 go_enter Tryz.func97,Tryz.ntmps97
 go_wp2
 refine bodyPost_ret (results_cell_row rfl _ _ (w§+1) 180 (nuA s) (0,0) _ rfl (hZ ▸ heap_new W _) Tryz.underlying180 rfl zK) rfl ⟨rfl,hB.alloc (by omega) _⟩
theorem below_two (w:yW) (X Y:Obj):yD w ((w.alloc X).alloc Y):=(below_new w X).alloc (by rw [size_alloc]; omega) Y
theorem ix0 (s:Sn) (w:yW):Sem.run Tryz.prog (Instr.index 180 (.agg #[zI 0,zI s.bid,zI s.ask,zI s.last,zI s.vol,zI s.now,zI s.opn]) (zI 0)) w=.ok (zI 0) w:=by kernel_rfl
theorem ix1 (s:Sn) (w:yW):Sem.run Tryz.prog (Instr.index 180 (.agg #[zI 0,zI s.bid,zI s.ask,zI s.last,zI s.vol,zI s.now,zI s.opn]) (zI 1)) w=.ok (zI s.bid) w:=by kernel_rfl
theorem ix2 (s:Sn) (w:yW):Sem.run Tryz.prog (Instr.index 180 (.agg #[zI 0,zI s.bid,zI s.ask,zI s.last,zI s.vol,zI s.now,zI s.opn]) (zI 2)) w=.ok (zI s.ask) w:=by kernel_rfl
theorem ix3 (s:Sn) (w:yW):Sem.run Tryz.prog (Instr.index 180 (.agg #[zI 0,zI s.bid,zI s.ask,zI s.last,zI s.vol,zI s.now,zI s.opn]) (zI 3)) w=.ok (zI s.last) w:=by kernel_rfl
theorem ix4 (s:Sn) (w:yW):Sem.run Tryz.prog (Instr.index 180 (.agg #[zI 0,zI s.bid,zI s.ask,zI s.last,zI s.vol,zI s.now,zI s.opn]) (zI 4)) w=.ok (zI s.vol) w:=by kernel_rfl
theorem ix5 (s:Sn) (w:yW):Sem.run Tryz.prog (Instr.index 180 (.agg #[zI 0,zI s.bid,zI s.ask,zI s.last,zI s.vol,zI s.now,zI s.opn]) (zI 5)) w=.ok (zI s.now) w:=by kernel_rfl
theorem ix6 (s:Sn) (w:yW):Sem.run Tryz.prog (Instr.index 180 (.agg #[zI 0,zI s.bid,zI s.ask,zI s.last,zI s.vol,zI s.now,zI s.opn]) (zI 6)) w=.ok (zI s.opn) w:=by kernel_rfl
theorem ux0 (s:Sn) (w:yW):Sem.run Tryz.prog (Instr.index 180 (.agg #[zI 0,zI s.bid,zI s.ask,zI s.last,zI s.vol,zI s.now,zI s.opn]) (zU 0)) w=.ok (zI 0) w:=by kernel_rfl
theorem ux1 (s:Sn) (w:yW):Sem.run Tryz.prog (Instr.index 180 (.agg #[zI 0,zI s.bid,zI s.ask,zI s.last,zI s.vol,zI s.now,zI s.opn]) (zU 1)) w=.ok (zI s.bid) w:=by kernel_rfl
theorem ux2 (s:Sn) (w:yW):Sem.run Tryz.prog (Instr.index 180 (.agg #[zI 0,zI s.bid,zI s.ask,zI s.last,zI s.vol,zI s.now,zI s.opn]) (zU 2)) w=.ok (zI s.ask) w:=by kernel_rfl
theorem ux3 (s:Sn) (w:yW):Sem.run Tryz.prog (Instr.index 180 (.agg #[zI 0,zI s.bid,zI s.ask,zI s.last,zI s.vol,zI s.now,zI s.opn]) (zU 3)) w=.ok (zI s.last) w:=by kernel_rfl
theorem ux4 (s:Sn) (w:yW):Sem.run Tryz.prog (Instr.index 180 (.agg #[zI 0,zI s.bid,zI s.ask,zI s.last,zI s.vol,zI s.now,zI s.opn]) (zU 4)) w=.ok (zI s.vol) w:=by kernel_rfl
theorem ux5 (s:Sn) (w:yW):Sem.run Tryz.prog (Instr.index 180 (.agg #[zI 0,zI s.bid,zI s.ask,zI s.last,zI s.vol,zI s.now,zI s.opn]) (zU 5)) w=.ok (zI s.now) w:=by kernel_rfl
theorem ux6 (s:Sn) (w:yW):Sem.run Tryz.prog (Instr.index 180 (.agg #[zI 0,zI s.bid,zI s.ask,zI s.last,zI s.vol,zI s.now,zI s.opn]) (zU 6)) w=.ok (zI s.opn) w:=by kernel_rfl
def Okto (s:Sn) (k:Nat):Prop:=(1 < k→0≤s.bid∧s.bid≤1000000000)∧(2 < k→0≤s.ask∧s.ask≤1000000000)∧(3 < k→0≤s.last∧s.last≤1000000000)∧(4 < k→0≤s.vol∧s.vol≤1000000000000000)∧(5 < k→0≤s.now∧s.now≤1000000000000000)∧(6 < k→0≤s.opn∧s.opn≤256000000000)
theorem Okto.may {s:Sn}(h:Okto s 7):May s:=by
 obtain⟨a,b,c,d,e,f⟩:=h
 exact⟨(a (by omega)).1,(a (by omega)).2,(b (by omega)).1,(b (by omega)).2,(c (by omega)).1,(c (by omega)).2,(d (by omega)).1,(d (by omega)).2,(e (by omega)).1,(e (by omega)).2,(f (by omega)).1,(f (by omega)).2⟩
def mostA:Array Value:=#[zI 0,zI 1000000000,zI 1000000000,zI 1000000000,zI 1000000000000000,zI 1000000000000000,zI 256000000000]
theorem check_any (s:Sn) (w:yW):Calls zG 59 #[.agg (snA s)] w fun e w'=>e=.returned (zI (chkN s))∧yD w w':=by
 have hR:=(SnAt.new w s 31).on (below_new (w.alloc (.cells (snA s) 31)) (.cells mostA 180)) (by rw [size_alloc]; omega)
 have hB:=below_two w (.cells (snA s) 31) (.cells mostA 180)
 have hZ:((w.alloc (.cells (snA s) 31)).alloc (.cells mostA 180))§=w§+2:=by rw [size_alloc,size_alloc]
 have hM:∀ j,((w.alloc (.cells (snA s) 31)).alloc (.cells mostA 180)).cell? ⟨w§+1,j,none⟩=mostA[j]?:=fun j=>by
  have:=cell_alloc (w.alloc (.cells (snA s) 31)) mostA 180 j
  rwa [size_alloc] at this
 unfold snA mostA at *
 obtain⟨W,hW⟩:∃ W,(w.alloc (.cells #[zI s.bid,zI s.ask,zI s.last,zI s.vol,zI s.now,zI s.opn] 31)).alloc (.cells #[zI 0,zI 1000000000,zI 1000000000,zI 1000000000,zI 1000000000000000,zI 1000000000000000,zI 256000000000] 180)=W:=⟨_,rfl⟩
 rw [hW] at hR hB hZ hM
 obtain⟨c0,c1,c2,c3,c4,c5⟩:=hR
 go_enter Tryz.func59,Tryz.ntmps59
 go_wp2_with fail
 refine (numbers_any s _).mono ?_
 rintro _ v ⟨rfl,bb⟩
 have hb:w§+1 < W§:=by omega
 have m0:v.cell? ⟨w§+1,0,none⟩=some (zI 0):=(bb.cell hb).trans (hM 0)
 have m1:v.cell? ⟨w§+1,1,none⟩=some (zI 1000000000):=(bb.cell hb).trans (hM 1)
 have m2:v.cell? ⟨w§+1,2,none⟩=some (zI 1000000000):=(bb.cell hb).trans (hM 2)
 have m3:v.cell? ⟨w§+1,3,none⟩=some (zI 1000000000):=(bb.cell hb).trans (hM 3)
 have m4:v.cell? ⟨w§+1,4,none⟩=some (zI 1000000000000000):=(bb.cell hb).trans (hM 4)
 have m5:v.cell? ⟨w§+1,5,none⟩=some (zI 1000000000000000):=(bb.cell hb).trans (hM 5)
 have m6:v.cell? ⟨w§+1,6,none⟩=some (zI 256000000000):=(bb.cell hb).trans (hM 6)
 replace hB:yD w v:=hB.trans (bb.mono hB.size)
 have x0:=ix0 s v
 have x1:=ix1 s v
 have x2:=ix2 s v
 have x3:=ix3 s v
 have x4:=ix4 s v
 have x5:=ix5 s v
 have x6:=ix6 s v
 clear hM c0 c1 c2 c3 c4 c5 bb hW
 unfold nuA
 go_wp2_with fail
 go_loop [9] (fun i=>∃ k:Nat,k≤7∧i=zI k∧Okto s k) (fun i=>7 - (intOf i).toNat)
 case atStart=>exact⟨0,by omega,rfl,⟨fun h=>by omega,fun h=>by omega,fun h=>by omega,fun h=>by omega,fun h=>by omega,fun h=>by omega⟩⟩
 case round =>
  obtain⟨k,hk,rfl,ho⟩:=hrel
  have hk':k=0∨k=1∨k=2∨k=3∨k=4∨k=5∨k=6∨k=7:=by omega
  rcases hk' with rfl | rfl | rfl | rfl | rfl | rfl | rfl | rfl
  ·go_wp2
   all_goals first
    | exact⟨⟨1,by omega,rfl,by unfold Okto at *; omega⟩,by simp [intOf]⟩
    | (go_ret; exact⟨retI (chk_no (fun m=>by have q1:=m.b0; have q2:=m.b1; have q3:=m.a0; have q4:=m.a1; have q5:=m.l0; have q6:=m.l1; have q7:=m.v0; have q8:=m.v1; have q9:=m.n0; have r1:=m.n1; have r2:=m.o0; have r3:=m.o1; omega)).symm,hB⟩)
  ·go_wp2
   all_goals first
    | exact⟨⟨2,by omega,rfl,by unfold Okto at *; omega⟩,by simp [intOf]⟩
    | (go_ret; exact⟨retI (chk_no (fun m=>by have q1:=m.b0; have q2:=m.b1; have q3:=m.a0; have q4:=m.a1; have q5:=m.l0; have q6:=m.l1; have q7:=m.v0; have q8:=m.v1; have q9:=m.n0; have r1:=m.n1; have r2:=m.o0; have r3:=m.o1; omega)).symm,hB⟩)
  ·go_wp2
   all_goals first
    | exact⟨⟨3,by omega,rfl,by unfold Okto at *; omega⟩,by simp [intOf]⟩
    | (go_ret; exact⟨retI (chk_no (fun m=>by have q1:=m.b0; have q2:=m.b1; have q3:=m.a0; have q4:=m.a1; have q5:=m.l0; have q6:=m.l1; have q7:=m.v0; have q8:=m.v1; have q9:=m.n0; have r1:=m.n1; have r2:=m.o0; have r3:=m.o1; omega)).symm,hB⟩)
  ·go_wp2
   all_goals first
    | exact⟨⟨4,by omega,rfl,by unfold Okto at *; omega⟩,by simp [intOf]⟩
    | (go_ret; exact⟨retI (chk_no (fun m=>by have q1:=m.b0; have q2:=m.b1; have q3:=m.a0; have q4:=m.a1; have q5:=m.l0; have q6:=m.l1; have q7:=m.v0; have q8:=m.v1; have q9:=m.n0; have r1:=m.n1; have r2:=m.o0; have r3:=m.o1; omega)).symm,hB⟩)
  ·go_wp2
   all_goals first
    | exact⟨⟨5,by omega,rfl,by unfold Okto at *; omega⟩,by simp [intOf]⟩
    | (go_ret; exact⟨retI (chk_no (fun m=>by have q1:=m.b0; have q2:=m.b1; have q3:=m.a0; have q4:=m.a1; have q5:=m.l0; have q6:=m.l1; have q7:=m.v0; have q8:=m.v1; have q9:=m.n0; have r1:=m.n1; have r2:=m.o0; have r3:=m.o1; omega)).symm,hB⟩)
  ·go_wp2
   all_goals first
    | exact⟨⟨6,by omega,rfl,by unfold Okto at *; omega⟩,by simp [intOf]⟩
    | (go_ret; exact⟨retI (chk_no (fun m=>by have q1:=m.b0; have q2:=m.b1; have q3:=m.a0; have q4:=m.a1; have q5:=m.l0; have q6:=m.l1; have q7:=m.v0; have q8:=m.v1; have q9:=m.n0; have r1:=m.n1; have r2:=m.o0; have r3:=m.o1; omega)).symm,hB⟩)
  ·go_wp2
   all_goals first
    | exact⟨⟨7,by omega,rfl,by unfold Okto at *; omega⟩,by simp [intOf]⟩
    | (go_ret; exact⟨retI (chk_no (fun m=>by have q1:=m.b0; have q2:=m.b1; have q3:=m.a0; have q4:=m.a1; have q5:=m.l0; have q6:=m.l1; have q7:=m.v0; have q8:=m.v1; have q9:=m.n0; have r1:=m.n1; have r2:=m.o0; have r3:=m.o1; omega)).symm,hB⟩)
  ·go_wp2
   go_ret
   exact⟨retI (chk_ok ho.may).symm,hB⟩
theorem getN_no (s:Sn) {f:Int}(h:f < 1∨6 < f):getN s f=0:=by
 unfold getN
 rw [if_neg (by omega),if_neg (by omega),if_neg (by omega),if_neg (by omega),if_neg (by omega),if_neg (by omega)]
theorem get_any (s:Sn) (f:Int) (f0:0≤f) (f1:f≤255) (w:yW):Calls zG 70 #[.agg (snA s),zU f] w fun e w'=>e=.returned (zI (getN s f))∧yD w w':=by
 have hR:=SnAt.new w s 31
 have hB:=below_new w (.cells (snA s) 31)
 unfold snA at *
 obtain⟨W,hW⟩:∃ W,w.alloc (.cells #[zI s.bid,zI s.ask,zI s.last,zI s.vol,zI s.now,zI s.opn] 31)=W:=⟨_,rfl⟩
 rw [hW] at hR hB
 obtain⟨c0,c1,c2,c3,c4,c5⟩:=hR
 by_cases h7:7≤f
 ·have hg:=getN_no s (f:=f) (by omega)
  go_enter Tryz.func70,Tryz.ntmps70
  go_wp2
  go_ret
  exact⟨retI hg.symm,hB⟩
 ·have hf:f=0∨f=1∨f=2∨f=3∨f=4∨f=5∨f=6:=by omega
  rcases hf with rfl | rfl | rfl | rfl | rfl | rfl | rfl
  ·go_enter Tryz.func70,Tryz.ntmps70
   go_wp2_with fail
   refine (numbers_any s _).mono ?_
   rintro _ v ⟨rfl,bb⟩
   have x:=ux0 s v
   replace hB:yD w v:=hB.trans (bb.mono hB.size)
   unfold nuA
   go_wp2
   go_ret
   exact⟨rfl,hB⟩
  ·go_enter Tryz.func70,Tryz.ntmps70
   go_wp2_with fail
   refine (numbers_any s _).mono ?_
   rintro _ v ⟨rfl,bb⟩
   have x:=ux1 s v
   replace hB:yD w v:=hB.trans (bb.mono hB.size)
   unfold nuA
   go_wp2
   go_ret
   exact⟨rfl,hB⟩
  ·go_enter Tryz.func70,Tryz.ntmps70
   go_wp2_with fail
   refine (numbers_any s _).mono ?_
   rintro _ v ⟨rfl,bb⟩
   have x:=ux2 s v
   replace hB:yD w v:=hB.trans (bb.mono hB.size)
   unfold nuA
   go_wp2
   go_ret
   exact⟨rfl,hB⟩
  ·go_enter Tryz.func70,Tryz.ntmps70
   go_wp2_with fail
   refine (numbers_any s _).mono ?_
   rintro _ v ⟨rfl,bb⟩
   have x:=ux3 s v
   replace hB:yD w v:=hB.trans (bb.mono hB.size)
   unfold nuA
   go_wp2
   go_ret
   exact⟨rfl,hB⟩
  ·go_enter Tryz.func70,Tryz.ntmps70
   go_wp2_with fail
   refine (numbers_any s _).mono ?_
   rintro _ v ⟨rfl,bb⟩
   have x:=ux4 s v
   replace hB:yD w v:=hB.trans (bb.mono hB.size)
   unfold nuA
   go_wp2
   go_ret
   exact⟨rfl,hB⟩
  ·go_enter Tryz.func70,Tryz.ntmps70
   go_wp2_with fail
   refine (numbers_any s _).mono ?_
   rintro _ v ⟨rfl,bb⟩
   have x:=ux5 s v
   replace hB:yD w v:=hB.trans (bb.mono hB.size)
   unfold nuA
   go_wp2
   go_ret
   exact⟨rfl,hB⟩
  ·go_enter Tryz.func70,Tryz.ntmps70
   go_wp2_with fail
   refine (numbers_any s _).mono ?_
   rintro _ v ⟨rfl,bb⟩
   have x:=ux6 s v
   replace hB:yD w v:=hB.trans (bb.mono hB.size)
   unfold nuA
   go_wp2
   go_ret
   exact⟨rfl,hB⟩
end Sx
open Go.RowKit
def fltE (c:Int):Ending:=.panicked [{ v:=.iface 146 (zI c),recovered:=false }]
def endV:Except Int Int→Ending
 | .ok v=>.returned (zI v)
 | .error c=>fltE c
def Ok64 (r:Except Int Int):Prop:=∀ v,r=.ok v→I64 v
def wn (x:Int):Except Int Int:=if Fx.fitB x=true then .ok x else .error 10
def tru (b:Bool):Int:=if b=true then 1 else 0
def op1 (o a:Int):Except Int Int:=if o=1 then wn (-a) else if o=2 then .ok (wrap64 (1 - a)) else if a < 0 then wn (-a) else .ok a
def op2 (o a b:Int):Except Int Int :=
 if o=4 then .ok (if a < b then a else b) else if o=5 then .ok (if b < a then a else b) else
 if o=6 then wn (a+b) else if o=7 then wn (a - b) else if o=8 then wn (a * b) else
 if o=9 then (if b=0 then .error 11 else wn (a.tdiv b)) else if o=10 then (if b=0 then .error 11 else .ok (a.tmod b)) else
 if o=11 then .ok (tru (decide (a=b))) else if o=12 then .ok (tru (decide (a≠b))) else if o=13 then .ok (tru (decide (a < b))) else
 if o=14 then .ok (tru (decide (a≤b))) else if o=15 then .ok (tru (decide (b < a))) else .ok (tru (decide (b≤a)))
def fldR (s:Sx.Sn) (f:Int):Except Int Int:=if f≤3∧Sx.getN s f=0 then .error 170 else .ok (Sx.getN s f)
def opR (o:Int) (r0 r1:Except Int Int):Except Int Int:=match r0 with
 | .error e=>.error e
 | .ok a=>if o≤3 then op1 o a else if o=17∧a=0 then .ok 0 else if o=18∧a=1 then .ok 1 else match r1 with
  | .error e=>.error e
  | .ok b=>if o=17∨o=18 then .ok b else op2 o a b
def cndR (r0 r1 r2:Except Int Int):Except Int Int:=match r0 with
 | .error e=>.error e
 | .ok a=>if a=1 then r1 else r2
def cmb (s:Sx.Sn) (G:yB→Option Int) (h:Hd) (l:List (Except Int Int)):Except Int Int :=
 if h.k=1 then .ok h.n else if h.k=2 then .ok ((G h.x).getD 0) else if h.k=3 then fldR s h.f else if h.k=4 then .ok (tru (decide (Sx.getN s h.f≠0))) else
 if h.k=7 then cndR (l.getD 0 (.ok 0)) (l.getD 1 (.ok 0)) (l.getD 2 (.ok 0)) else if h.k=9 then l.getD 0 (.ok 0) else opR h.o (l.getD 0 (.ok 0)) (l.getD 1 (.ok 0))
mutual
def valR (s:Sx.Sn) (G:yB→Option Int):Nd→Except Int Int
 | .mk h _ _ ks=>cmb s G h (valsR s G ks)
def valsR (s:Sx.Sn) (G:yB→Option Int):List Nd→List (Except Int Int)
 | []=>[]
 | k :: ks=>valR s G k :: valsR s G ks
end
def OutV (w:yW) (r:Except Int Int) (e:Ending) (w':yW):Prop:=e=endV r∧yD w w'
structure KC (w:yW) (b:Nat) (m:Nd) (r:Except Int Int):Prop where
 i:Ok64 r
 c:∀ v,yD w v→Calls zG 37 #[zP b,.agg m.vals] v (OutV v r)
theorem KC.on {w w':yW}{b:Nat}{m:Nd}{r:Except Int Int}(h:KC w b m r) (k:yD w w'):KC w' b m r :=
 ⟨h.i,fun v hv=>h.c v (below2T k hv)⟩
theorem KC.ok {w:yW}{b:Nat}{m:Nd}{x:Int}(h:KC w b m (.ok x)) (v:yW) (hv:yD w v) :
  Calls zG 37 #[zP b,.agg (zV m)] v fun e w'=>e=.returned (zI x)∧yD v w':=h.c v hv
theorem KC.err {w:yW}{b:Nat}{m:Nd}{x:Int}(h:KC w b m (.error x)) (v:yW) (hv:yD w v) :
  Calls zG 37 #[zP b,.agg (zV m)] v fun e w'=>e=fltE x∧yD v w':=h.c v hv
theorem within_t (n:Int) (w:yW):Calls zG 164 #[zI n,.bool true] w fun e w'=>e=.returned (zI n)∧w'=w:=by
 go_enter Tryz.func164,Tryz.ntmps164
 go_wp2
 go_ret
 exact⟨rfl,rfl⟩
theorem within_f (n:Int) (w:yW):Calls zG 164 #[zI n,.bool false] w fun e w'=>e=fltE 10∧w'=w:=by
 go_enter Tryz.func164,Tryz.ntmps164
 go_wp2
 exact⟨rfl,rfl,rfl⟩
theorem truth_any (b:Bool) (w:yW):Calls zG 69 #[.bool b] w fun e w'=>e=.returned (zI (tru b))∧w'=w:=by
 cases b
 ·go_enter Tryz.func69,Tryz.ntmps69
  go_wp2
  go_ret
  exact⟨rfl,rfl⟩
 ·go_enter Tryz.func69,Tryz.ntmps69
  go_wp2
  go_ret
  exact⟨rfl,rfl⟩
def endB:Except Int Int→Except Int Int→Ending
 | .error e,_=>fltE e
 | .ok _,.error e=>fltE e
 | .ok x,.ok y=>.returned (.tuple #[zI x,zI y])
structure K2 (w:yW) (b kb ko l:Nat) (m0 m1:Nd) (r0 r1:Except Int Int):Prop where
 l:1 < l
 h0:NdAt w kb (ko+0 * 8) m0
 h1:NdAt w kb (ko+1 * 8) m1
 k0:KC w b m0 r0
 k1:KC w b m1 r1
theorem K2.on {w w':yW}{b kb ko l:Nat}{m0 m1:Nd}{r0 r1:Except Int Int}(h:K2 w b kb ko l m0 m1 r0 r1) (k:yD w w'):K2 w' b kb ko l m0 m1 r0 r1 :=
 ⟨h.l,h.h0.on k,h.h1.on k,h.k0.on k,h.k1.on k⟩
theorem both_any {w:yW}{b kb ko l c:Nat}{m0 m1:Nd}{r0 r1:Except Int Int}(h:K2 w b kb ko l m0 m1 r0 r1) :
  Calls zG 165 #[zP b,.slice (some kb¢ko) l c] w fun e w'=>e=endB r0 r1∧yD w w':=by
 have H:=h
 have HK0:Hid (KC w b m0 r0):=h.k0
 have HK1:Hid (KC w b m1 r1):=h.k1
 have h1l:(1:Int) < (l:Int):=by have:=h.l; omega
 have h0l:(0:Int) < (l:Int):=by omega
 have H1:Hid (NdAt w kb (ko+8) m1):=h.h1
 have q:=h.h0
 simp only [Nat.zero_mul,Nat.add_zero] at q
 obtain⟨y0,y1,y2,y3,y4,y5,y6,y7⟩:=q
 clear h H
 cases r0 with
 | error e0 =>
  have k:=HK0.out.err w (Below.refl _ _)
  go_enter Tryz.func165,Tryz.ntmps165
  go_wp2_with fail
  refine k.mono ?_
  rintro e w1 ⟨rfl,hb⟩
  exact⟨rfl,rfl,hb⟩
 | ok x0 =>
  have k:=HK0.out.ok w (Below.refl _ _)
  go_enter Tryz.func165,Tryz.ntmps165
  go_wp2_with fail
  refine k.mono ?_
  rintro e w1 ⟨rfl,hb⟩
  have HB:Hid (yD w w1):=hb
  obtain⟨x0',x1',x2',x3',x4',x5',x6',x7'⟩:=H1.out.on hb
  clear k hb y0 y1 y2 y3 y4 y5 y6 y7
  cases r1 with
  | error e1 =>
   have k:=(HK1.out.on HB.out).err w1 (Below.refl _ _)
   go_wp2_with fail
   refine k.mono ?_
   rintro e w2 ⟨rfl,hb⟩
   exact⟨rfl,rfl,below2T HB.out hb⟩
  | ok x1 =>
   have k:=(HK1.out.on HB.out).ok w1 (Below.refl _ _)
   go_wp2_with fail
   refine k.mono ?_
   rintro e w2 ⟨rfl,hb⟩
   have HB2:Hid (yD w w2):=below2T HB.out hb
   clear k hb
   go_wp2_with fail
   go_ret2
   exact⟨rfl,HB2.out⟩
def endR:Except Int Int→Except Int Int→Ending
 | .error e,_=>fltE e
 | .ok _,.error e=>fltE e
 | .ok x,.ok y=>if y=0 then fltE 11 else .returned (.tuple #[zI x,zI y])
theorem ratio_any {w:yW}{b kb ko l c:Nat}{m0 m1:Nd}{r0 r1:Except Int Int}(h:K2 w b kb ko l m0 m1 r0 r1) :
  Calls zG 166 #[zP b,.slice (some kb¢ko) l c] w fun e w'=>e=endR r0 r1∧yD w w':=by
 have k:=both_any (c:=c) h
 clear h
 cases r0 with
 | error e0 =>
  go_enter Tryz.func166,Tryz.ntmps166
  go_wp2_with fail
  refine k.mono ?_
  rintro e w1 ⟨rfl,hb⟩
  exact⟨rfl,rfl,hb⟩
 | ok x0 =>
  cases r1 with
  | error e1 =>
   go_enter Tryz.func166,Tryz.ntmps166
   go_wp2_with fail
   refine k.mono ?_
   rintro e w1 ⟨rfl,hb⟩
   exact⟨rfl,rfl,hb⟩
  | ok x1 =>
   go_enter Tryz.func166,Tryz.ntmps166
   go_wp2_with fail
   refine k.mono ?_
   rintro e w1 ⟨rfl,hb⟩
   have HB:Hid (yD w w1):=hb
   clear k hb
   unfold endB
   by_cases h0:x1=0
   ·subst h0
    go_wp2_with fail
    exact⟨rfl,rfl,HB.out⟩
   ·have h0':(x1 == 0)=false:=by simpa using h0
    go_wp2_with fail
    go_ret2
    exact⟨Eq.symm (show endR (.ok x0) (.ok x1)=_ from if_neg h0),HB.out⟩
end Go.Proofs.YtfbjofnaghjmeaaGreatDoor
