import Derived.Test.YtoogodlnnijikaaGreatDoorA0
import Derived.Test.YtoogodlnnijikaaGreatDoorA31
import Derived.BigQuiet
import Derived.Deep.QuietTactic
import Derived.Lib.QuietBelow
namespace Go.Proofs.YtoogodlnnijikaaGreatDoor
open Go.RowKit
set_option linter.unusedVariables false
set_option linter.unusedSimpArgs false
set_option maxRecDepth 100000 in
set_option maxHeartbeats 8000000 in
theorem rnode_1 (S:StratM) (o t n f:Int) (x:ByteArray) (p:Int) (am:Option Addr) (l c:Nat) (v:Value) (w:World):Calls zG 85 #[.agg S.vals,.agg #[zU 1,zU o,zU t,zI n,zU f,.string x,.slice am l c,zI p],v] w fun e w'=>e=.returned (two (t,true))∧Below w§ w w':=by
 have e2:=below_two w (.cells S.vals 27) (.cells #[zU 1,zU o,zU t,zI n,zU f,.string x,.slice am l c,zI p] 48)
 have n1:((w.alloc (.cells S.vals 27)).alloc (.cells #[zU 1,zU o,zU t,zI n,zU f,.string x,.slice am l c,zI p] 48)).heap[w§]? = some (.cells S.vals 27 (0,0)):=heap_old (heap_new _ _) (by rw [size_alloc]; omega)
 have n2:((w.alloc (.cells S.vals 27)).alloc (.cells #[zU 1,zU o,zU t,zI n,zU f,.string x,.slice am l c,zI p] 48)).heap[w§+1]? = some (.cells #[zU 1,zU o,zU t,zI n,zU f,.string x,.slice am l c,zI p] 48 (0,0)):=by rw [← size_alloc w (.cells S.vals 27)]; exact heap_new _ _
 obtain⟨V,eV⟩:∃ V,(w.alloc (.cells S.vals 27)).alloc (.cells #[zU 1,zU o,zU t,zI n,zU f,.string x,.slice am l c,zI p] 48)=V:=⟨_,rfl⟩
 rw [eV] at e2 n1 n2
 have EV:Hid ((w.alloc (.cells S.vals 27)).alloc (.cells #[zU 1,zU o,zU t,zI n,zU f,.string x,.slice am l c,zI p] 48)=V):=eV
 have HB:Hid (Below w§ w V):=e2
 have HN1:Hid (V.heap[w§]? = some (.cells S.vals 27 (0,0))):=n1
 have m0:V.cell? ⟨w§+1,0,none⟩=some (zU 1):=cell_of n2 0
 have m1:V.cell? ⟨w§+1,1,none⟩=some (zU o):=cell_of n2 1
 have m2:V.cell? ⟨w§+1,2,none⟩=some (zU t):=cell_of n2 2
 have m4:V.cell? ⟨w§+1,4,none⟩=some (zU f):=cell_of n2 4
 have m5:V.cell? ⟨w§+1,5,none⟩=some (.string x):=cell_of n2 5
 clear n1 n2 eV
 clear e2
 go_enter Tryz.func85,Tryz.ntmps85
 go_upto_region 1 with fail
 rw [EV.out]
 clear EV
 go_wp2_with fail
 go_ret2
 exact⟨rfl,HB.out⟩
set_option maxRecDepth 100000 in
set_option maxHeartbeats 8000000 in
theorem rnode_4 (S:StratM) (o t n f:Int) (x:ByteArray) (p:Int) (am:Option Addr) (l c:Nat) (v:Value) (w:World):Calls zG 85 #[.agg S.vals,.agg #[zU 4,zU o,zU t,zI n,zU f,.string x,.slice am l c,zI p],v] w fun e w'=>e=.returned (two (5,true))∧Below w§ w w':=by
 have e2:=below_two w (.cells S.vals 27) (.cells #[zU 4,zU o,zU t,zI n,zU f,.string x,.slice am l c,zI p] 48)
 have n1:((w.alloc (.cells S.vals 27)).alloc (.cells #[zU 4,zU o,zU t,zI n,zU f,.string x,.slice am l c,zI p] 48)).heap[w§]? = some (.cells S.vals 27 (0,0)):=heap_old (heap_new _ _) (by rw [size_alloc]; omega)
 have n2:((w.alloc (.cells S.vals 27)).alloc (.cells #[zU 4,zU o,zU t,zI n,zU f,.string x,.slice am l c,zI p] 48)).heap[w§+1]? = some (.cells #[zU 4,zU o,zU t,zI n,zU f,.string x,.slice am l c,zI p] 48 (0,0)):=by rw [← size_alloc w (.cells S.vals 27)]; exact heap_new _ _
 obtain⟨V,eV⟩:∃ V,(w.alloc (.cells S.vals 27)).alloc (.cells #[zU 4,zU o,zU t,zI n,zU f,.string x,.slice am l c,zI p] 48)=V:=⟨_,rfl⟩
 rw [eV] at e2 n1 n2
 have EV:Hid ((w.alloc (.cells S.vals 27)).alloc (.cells #[zU 4,zU o,zU t,zI n,zU f,.string x,.slice am l c,zI p] 48)=V):=eV
 have HB:Hid (Below w§ w V):=e2
 have HN1:Hid (V.heap[w§]? = some (.cells S.vals 27 (0,0))):=n1
 have m0:V.cell? ⟨w§+1,0,none⟩=some (zU 4):=cell_of n2 0
 have m1:V.cell? ⟨w§+1,1,none⟩=some (zU o):=cell_of n2 1
 have m2:V.cell? ⟨w§+1,2,none⟩=some (zU t):=cell_of n2 2
 have m4:V.cell? ⟨w§+1,4,none⟩=some (zU f):=cell_of n2 4
 have m5:V.cell? ⟨w§+1,5,none⟩=some (.string x):=cell_of n2 5
 clear n1 n2 eV
 clear e2
 go_enter Tryz.func85,Tryz.ntmps85
 go_upto_region 1 with fail
 rw [EV.out]
 clear EV
 go_wp2_with fail
 go_ret2
 exact⟨rfl,HB.out⟩
set_option maxRecDepth 100000 in
set_option maxHeartbeats 8000000 in
theorem rnode_31 (S:StratM) (o t n:Int) (x:ByteArray) (p:Int) (am:Option Addr) (l c:Nat) (v:Value) (w:World):Calls zG 85 #[.agg S.vals,.agg #[zU 3,zU o,zU t,zI n,zU 1,.string x,.slice am l c,zI p],v] w fun e w'=>e=.returned (two (3,true))∧Below w§ w w':=by
 have e2:=below_two w (.cells S.vals 27) (.cells #[zU 3,zU o,zU t,zI n,zU 1,.string x,.slice am l c,zI p] 48)
 have n1:((w.alloc (.cells S.vals 27)).alloc (.cells #[zU 3,zU o,zU t,zI n,zU 1,.string x,.slice am l c,zI p] 48)).heap[w§]? = some (.cells S.vals 27 (0,0)):=heap_old (heap_new _ _) (by rw [size_alloc]; omega)
 have n2:((w.alloc (.cells S.vals 27)).alloc (.cells #[zU 3,zU o,zU t,zI n,zU 1,.string x,.slice am l c,zI p] 48)).heap[w§+1]? = some (.cells #[zU 3,zU o,zU t,zI n,zU 1,.string x,.slice am l c,zI p] 48 (0,0)):=by rw [← size_alloc w (.cells S.vals 27)]; exact heap_new _ _
 obtain⟨V,eV⟩:∃ V,(w.alloc (.cells S.vals 27)).alloc (.cells #[zU 3,zU o,zU t,zI n,zU 1,.string x,.slice am l c,zI p] 48)=V:=⟨_,rfl⟩
 rw [eV] at e2 n1 n2
 have EV:Hid ((w.alloc (.cells S.vals 27)).alloc (.cells #[zU 3,zU o,zU t,zI n,zU 1,.string x,.slice am l c,zI p] 48)=V):=eV
 have HB:Hid (Below w§ w V):=e2
 have HN1:Hid (V.heap[w§]? = some (.cells S.vals 27 (0,0))):=n1
 have m0:V.cell? ⟨w§+1,0,none⟩=some (zU 3):=cell_of n2 0
 have m1:V.cell? ⟨w§+1,1,none⟩=some (zU o):=cell_of n2 1
 have m2:V.cell? ⟨w§+1,2,none⟩=some (zU t):=cell_of n2 2
 have m4:V.cell? ⟨w§+1,4,none⟩=some (zU 1):=cell_of n2 4
 have m5:V.cell? ⟨w§+1,5,none⟩=some (.string x):=cell_of n2 5
 clear n1 n2 eV
 clear e2
 have hb2:=below_new V (.cells #[zU 3,zU 3,zU 3,zU 2,zU 4,zU 2] 44)
 have hn2:=heap_new V (.cells #[zU 3,zU 3,zU 3,zU 2,zU 4,zU 2] 44)
 have k0:(V.alloc (.cells #[zU 3,zU 3,zU 3,zU 2,zU 4,zU 2] 44)).cell? ⟨V§,0,none⟩=some (zU 3):=cell_of hn2 0
 have k4:(V.alloc (.cells #[zU 3,zU 3,zU 3,zU 2,zU 4,zU 2] 44)).cell? ⟨w§+1,4,none⟩=some (zU 1):=(hb2.cell (World.block_lt_of_cell? V _ m4)).trans m4
 have HB2:Hid (Below w§ w (V.alloc (.cells #[zU 3,zU 3,zU 3,zU 2,zU 4,zU 2] 44))):=below2 HB.out hb2
 clear hb2 hn2
 go_enter Tryz.func85,Tryz.ntmps85
 go_upto_region 1 with fail
 rw [EV.out]
 clear EV
 go_wp2_with fail
 go_ret2
 exact⟨rfl,HB2.out⟩
set_option maxRecDepth 100000 in
set_option maxHeartbeats 8000000 in
theorem rnode_32 (S:StratM) (o t n:Int) (x:ByteArray) (p:Int) (am:Option Addr) (l c:Nat) (v:Value) (w:World):Calls zG 85 #[.agg S.vals,.agg #[zU 3,zU o,zU t,zI n,zU 2,.string x,.slice am l c,zI p],v] w fun e w'=>e=.returned (two (3,true))∧Below w§ w w':=by
 have e2:=below_two w (.cells S.vals 27) (.cells #[zU 3,zU o,zU t,zI n,zU 2,.string x,.slice am l c,zI p] 48)
 have n1:((w.alloc (.cells S.vals 27)).alloc (.cells #[zU 3,zU o,zU t,zI n,zU 2,.string x,.slice am l c,zI p] 48)).heap[w§]? = some (.cells S.vals 27 (0,0)):=heap_old (heap_new _ _) (by rw [size_alloc]; omega)
 have n2:((w.alloc (.cells S.vals 27)).alloc (.cells #[zU 3,zU o,zU t,zI n,zU 2,.string x,.slice am l c,zI p] 48)).heap[w§+1]? = some (.cells #[zU 3,zU o,zU t,zI n,zU 2,.string x,.slice am l c,zI p] 48 (0,0)):=by rw [← size_alloc w (.cells S.vals 27)]; exact heap_new _ _
 obtain⟨V,eV⟩:∃ V,(w.alloc (.cells S.vals 27)).alloc (.cells #[zU 3,zU o,zU t,zI n,zU 2,.string x,.slice am l c,zI p] 48)=V:=⟨_,rfl⟩
 rw [eV] at e2 n1 n2
 have EV:Hid ((w.alloc (.cells S.vals 27)).alloc (.cells #[zU 3,zU o,zU t,zI n,zU 2,.string x,.slice am l c,zI p] 48)=V):=eV
 have HB:Hid (Below w§ w V):=e2
 have HN1:Hid (V.heap[w§]? = some (.cells S.vals 27 (0,0))):=n1
 have m0:V.cell? ⟨w§+1,0,none⟩=some (zU 3):=cell_of n2 0
 have m1:V.cell? ⟨w§+1,1,none⟩=some (zU o):=cell_of n2 1
 have m2:V.cell? ⟨w§+1,2,none⟩=some (zU t):=cell_of n2 2
 have m4:V.cell? ⟨w§+1,4,none⟩=some (zU 2):=cell_of n2 4
 have m5:V.cell? ⟨w§+1,5,none⟩=some (.string x):=cell_of n2 5
 clear n1 n2 eV
 clear e2
 have hb2:=below_new V (.cells #[zU 3,zU 3,zU 3,zU 2,zU 4,zU 2] 44)
 have hn2:=heap_new V (.cells #[zU 3,zU 3,zU 3,zU 2,zU 4,zU 2] 44)
 have k0:(V.alloc (.cells #[zU 3,zU 3,zU 3,zU 2,zU 4,zU 2] 44)).cell? ⟨V§,1,none⟩=some (zU 3):=cell_of hn2 1
 have k4:(V.alloc (.cells #[zU 3,zU 3,zU 3,zU 2,zU 4,zU 2] 44)).cell? ⟨w§+1,4,none⟩=some (zU 2):=(hb2.cell (World.block_lt_of_cell? V _ m4)).trans m4
 have HB2:Hid (Below w§ w (V.alloc (.cells #[zU 3,zU 3,zU 3,zU 2,zU 4,zU 2] 44))):=below2 HB.out hb2
 clear hb2 hn2
 go_enter Tryz.func85,Tryz.ntmps85
 go_upto_region 1 with fail
 rw [EV.out]
 clear EV
 go_wp2_with fail
 go_ret2
 exact⟨rfl,HB2.out⟩
set_option maxRecDepth 100000 in
set_option maxHeartbeats 8000000 in
theorem rnode_33 (S:StratM) (o t n:Int) (x:ByteArray) (p:Int) (am:Option Addr) (l c:Nat) (v:Value) (w:World):Calls zG 85 #[.agg S.vals,.agg #[zU 3,zU o,zU t,zI n,zU 3,.string x,.slice am l c,zI p],v] w fun e w'=>e=.returned (two (3,true))∧Below w§ w w':=by
 have e2:=below_two w (.cells S.vals 27) (.cells #[zU 3,zU o,zU t,zI n,zU 3,.string x,.slice am l c,zI p] 48)
 have n1:((w.alloc (.cells S.vals 27)).alloc (.cells #[zU 3,zU o,zU t,zI n,zU 3,.string x,.slice am l c,zI p] 48)).heap[w§]? = some (.cells S.vals 27 (0,0)):=heap_old (heap_new _ _) (by rw [size_alloc]; omega)
 have n2:((w.alloc (.cells S.vals 27)).alloc (.cells #[zU 3,zU o,zU t,zI n,zU 3,.string x,.slice am l c,zI p] 48)).heap[w§+1]? = some (.cells #[zU 3,zU o,zU t,zI n,zU 3,.string x,.slice am l c,zI p] 48 (0,0)):=by rw [← size_alloc w (.cells S.vals 27)]; exact heap_new _ _
 obtain⟨V,eV⟩:∃ V,(w.alloc (.cells S.vals 27)).alloc (.cells #[zU 3,zU o,zU t,zI n,zU 3,.string x,.slice am l c,zI p] 48)=V:=⟨_,rfl⟩
 rw [eV] at e2 n1 n2
 have EV:Hid ((w.alloc (.cells S.vals 27)).alloc (.cells #[zU 3,zU o,zU t,zI n,zU 3,.string x,.slice am l c,zI p] 48)=V):=eV
 have HB:Hid (Below w§ w V):=e2
 have HN1:Hid (V.heap[w§]? = some (.cells S.vals 27 (0,0))):=n1
 have m0:V.cell? ⟨w§+1,0,none⟩=some (zU 3):=cell_of n2 0
 have m1:V.cell? ⟨w§+1,1,none⟩=some (zU o):=cell_of n2 1
 have m2:V.cell? ⟨w§+1,2,none⟩=some (zU t):=cell_of n2 2
 have m4:V.cell? ⟨w§+1,4,none⟩=some (zU 3):=cell_of n2 4
 have m5:V.cell? ⟨w§+1,5,none⟩=some (.string x):=cell_of n2 5
 clear n1 n2 eV
 clear e2
 have hb2:=below_new V (.cells #[zU 3,zU 3,zU 3,zU 2,zU 4,zU 2] 44)
 have hn2:=heap_new V (.cells #[zU 3,zU 3,zU 3,zU 2,zU 4,zU 2] 44)
 have k0:(V.alloc (.cells #[zU 3,zU 3,zU 3,zU 2,zU 4,zU 2] 44)).cell? ⟨V§,2,none⟩=some (zU 3):=cell_of hn2 2
 have k4:(V.alloc (.cells #[zU 3,zU 3,zU 3,zU 2,zU 4,zU 2] 44)).cell? ⟨w§+1,4,none⟩=some (zU 3):=(hb2.cell (World.block_lt_of_cell? V _ m4)).trans m4
 have HB2:Hid (Below w§ w (V.alloc (.cells #[zU 3,zU 3,zU 3,zU 2,zU 4,zU 2] 44))):=below2 HB.out hb2
 clear hb2 hn2
 go_enter Tryz.func85,Tryz.ntmps85
 go_upto_region 1 with fail
 rw [EV.out]
 clear EV
 go_wp2_with fail
 go_ret2
 exact⟨rfl,HB2.out⟩
set_option maxRecDepth 100000 in
set_option maxHeartbeats 8000000 in
theorem rnode_34 (S:StratM) (o t n:Int) (x:ByteArray) (p:Int) (am:Option Addr) (l c:Nat) (v:Value) (w:World):Calls zG 85 #[.agg S.vals,.agg #[zU 3,zU o,zU t,zI n,zU 4,.string x,.slice am l c,zI p],v] w fun e w'=>e=.returned (two (2,true))∧Below w§ w w':=by
 have e2:=below_two w (.cells S.vals 27) (.cells #[zU 3,zU o,zU t,zI n,zU 4,.string x,.slice am l c,zI p] 48)
 have n1:((w.alloc (.cells S.vals 27)).alloc (.cells #[zU 3,zU o,zU t,zI n,zU 4,.string x,.slice am l c,zI p] 48)).heap[w§]? = some (.cells S.vals 27 (0,0)):=heap_old (heap_new _ _) (by rw [size_alloc]; omega)
 have n2:((w.alloc (.cells S.vals 27)).alloc (.cells #[zU 3,zU o,zU t,zI n,zU 4,.string x,.slice am l c,zI p] 48)).heap[w§+1]? = some (.cells #[zU 3,zU o,zU t,zI n,zU 4,.string x,.slice am l c,zI p] 48 (0,0)):=by rw [← size_alloc w (.cells S.vals 27)]; exact heap_new _ _
 obtain⟨V,eV⟩:∃ V,(w.alloc (.cells S.vals 27)).alloc (.cells #[zU 3,zU o,zU t,zI n,zU 4,.string x,.slice am l c,zI p] 48)=V:=⟨_,rfl⟩
 rw [eV] at e2 n1 n2
 have EV:Hid ((w.alloc (.cells S.vals 27)).alloc (.cells #[zU 3,zU o,zU t,zI n,zU 4,.string x,.slice am l c,zI p] 48)=V):=eV
 have HB:Hid (Below w§ w V):=e2
 have HN1:Hid (V.heap[w§]? = some (.cells S.vals 27 (0,0))):=n1
 have m0:V.cell? ⟨w§+1,0,none⟩=some (zU 3):=cell_of n2 0
 have m1:V.cell? ⟨w§+1,1,none⟩=some (zU o):=cell_of n2 1
 have m2:V.cell? ⟨w§+1,2,none⟩=some (zU t):=cell_of n2 2
 have m4:V.cell? ⟨w§+1,4,none⟩=some (zU 4):=cell_of n2 4
 have m5:V.cell? ⟨w§+1,5,none⟩=some (.string x):=cell_of n2 5
 clear n1 n2 eV
 clear e2
 have hb2:=below_new V (.cells #[zU 3,zU 3,zU 3,zU 2,zU 4,zU 2] 44)
 have hn2:=heap_new V (.cells #[zU 3,zU 3,zU 3,zU 2,zU 4,zU 2] 44)
 have k0:(V.alloc (.cells #[zU 3,zU 3,zU 3,zU 2,zU 4,zU 2] 44)).cell? ⟨V§,3,none⟩=some (zU 2):=cell_of hn2 3
 have k4:(V.alloc (.cells #[zU 3,zU 3,zU 3,zU 2,zU 4,zU 2] 44)).cell? ⟨w§+1,4,none⟩=some (zU 4):=(hb2.cell (World.block_lt_of_cell? V _ m4)).trans m4
 have HB2:Hid (Below w§ w (V.alloc (.cells #[zU 3,zU 3,zU 3,zU 2,zU 4,zU 2] 44))):=below2 HB.out hb2
 clear hb2 hn2
 go_enter Tryz.func85,Tryz.ntmps85
 go_upto_region 1 with fail
 rw [EV.out]
 clear EV
 go_wp2_with fail
 go_ret2
 exact⟨rfl,HB2.out⟩
set_option maxRecDepth 100000 in
set_option maxHeartbeats 8000000 in
theorem rnode_35 (S:StratM) (o t n:Int) (x:ByteArray) (p:Int) (am:Option Addr) (l c:Nat) (v:Value) (w:World):Calls zG 85 #[.agg S.vals,.agg #[zU 3,zU o,zU t,zI n,zU 5,.string x,.slice am l c,zI p],v] w fun e w'=>e=.returned (two (4,true))∧Below w§ w w':=by
 have e2:=below_two w (.cells S.vals 27) (.cells #[zU 3,zU o,zU t,zI n,zU 5,.string x,.slice am l c,zI p] 48)
 have n1:((w.alloc (.cells S.vals 27)).alloc (.cells #[zU 3,zU o,zU t,zI n,zU 5,.string x,.slice am l c,zI p] 48)).heap[w§]? = some (.cells S.vals 27 (0,0)):=heap_old (heap_new _ _) (by rw [size_alloc]; omega)
 have n2:((w.alloc (.cells S.vals 27)).alloc (.cells #[zU 3,zU o,zU t,zI n,zU 5,.string x,.slice am l c,zI p] 48)).heap[w§+1]? = some (.cells #[zU 3,zU o,zU t,zI n,zU 5,.string x,.slice am l c,zI p] 48 (0,0)):=by rw [← size_alloc w (.cells S.vals 27)]; exact heap_new _ _
 obtain⟨V,eV⟩:∃ V,(w.alloc (.cells S.vals 27)).alloc (.cells #[zU 3,zU o,zU t,zI n,zU 5,.string x,.slice am l c,zI p] 48)=V:=⟨_,rfl⟩
 rw [eV] at e2 n1 n2
 have EV:Hid ((w.alloc (.cells S.vals 27)).alloc (.cells #[zU 3,zU o,zU t,zI n,zU 5,.string x,.slice am l c,zI p] 48)=V):=eV
 have HB:Hid (Below w§ w V):=e2
 have HN1:Hid (V.heap[w§]? = some (.cells S.vals 27 (0,0))):=n1
 have m0:V.cell? ⟨w§+1,0,none⟩=some (zU 3):=cell_of n2 0
 have m1:V.cell? ⟨w§+1,1,none⟩=some (zU o):=cell_of n2 1
 have m2:V.cell? ⟨w§+1,2,none⟩=some (zU t):=cell_of n2 2
 have m4:V.cell? ⟨w§+1,4,none⟩=some (zU 5):=cell_of n2 4
 have m5:V.cell? ⟨w§+1,5,none⟩=some (.string x):=cell_of n2 5
 clear n1 n2 eV
 clear e2
 have hb2:=below_new V (.cells #[zU 3,zU 3,zU 3,zU 2,zU 4,zU 2] 44)
 have hn2:=heap_new V (.cells #[zU 3,zU 3,zU 3,zU 2,zU 4,zU 2] 44)
 have k0:(V.alloc (.cells #[zU 3,zU 3,zU 3,zU 2,zU 4,zU 2] 44)).cell? ⟨V§,4,none⟩=some (zU 4):=cell_of hn2 4
 have k4:(V.alloc (.cells #[zU 3,zU 3,zU 3,zU 2,zU 4,zU 2] 44)).cell? ⟨w§+1,4,none⟩=some (zU 5):=(hb2.cell (World.block_lt_of_cell? V _ m4)).trans m4
 have HB2:Hid (Below w§ w (V.alloc (.cells #[zU 3,zU 3,zU 3,zU 2,zU 4,zU 2] 44))):=below2 HB.out hb2
 clear hb2 hn2
 go_enter Tryz.func85,Tryz.ntmps85
 go_upto_region 1 with fail
 rw [EV.out]
 clear EV
 go_wp2_with fail
 go_ret2
 exact⟨rfl,HB2.out⟩
set_option maxRecDepth 100000 in
set_option maxHeartbeats 8000000 in
theorem rnode_36 (S:StratM) (o t n:Int) (x:ByteArray) (p:Int) (am:Option Addr) (l c:Nat) (v:Value) (w:World):Calls zG 85 #[.agg S.vals,.agg #[zU 3,zU o,zU t,zI n,zU 6,.string x,.slice am l c,zI p],v] w fun e w'=>e=.returned (two (2,true))∧Below w§ w w':=by
 have e2:=below_two w (.cells S.vals 27) (.cells #[zU 3,zU o,zU t,zI n,zU 6,.string x,.slice am l c,zI p] 48)
 have n1:((w.alloc (.cells S.vals 27)).alloc (.cells #[zU 3,zU o,zU t,zI n,zU 6,.string x,.slice am l c,zI p] 48)).heap[w§]? = some (.cells S.vals 27 (0,0)):=heap_old (heap_new _ _) (by rw [size_alloc]; omega)
 have n2:((w.alloc (.cells S.vals 27)).alloc (.cells #[zU 3,zU o,zU t,zI n,zU 6,.string x,.slice am l c,zI p] 48)).heap[w§+1]? = some (.cells #[zU 3,zU o,zU t,zI n,zU 6,.string x,.slice am l c,zI p] 48 (0,0)):=by rw [← size_alloc w (.cells S.vals 27)]; exact heap_new _ _
 obtain⟨V,eV⟩:∃ V,(w.alloc (.cells S.vals 27)).alloc (.cells #[zU 3,zU o,zU t,zI n,zU 6,.string x,.slice am l c,zI p] 48)=V:=⟨_,rfl⟩
 rw [eV] at e2 n1 n2
 have EV:Hid ((w.alloc (.cells S.vals 27)).alloc (.cells #[zU 3,zU o,zU t,zI n,zU 6,.string x,.slice am l c,zI p] 48)=V):=eV
 have HB:Hid (Below w§ w V):=e2
 have HN1:Hid (V.heap[w§]? = some (.cells S.vals 27 (0,0))):=n1
 have m0:V.cell? ⟨w§+1,0,none⟩=some (zU 3):=cell_of n2 0
 have m1:V.cell? ⟨w§+1,1,none⟩=some (zU o):=cell_of n2 1
 have m2:V.cell? ⟨w§+1,2,none⟩=some (zU t):=cell_of n2 2
 have m4:V.cell? ⟨w§+1,4,none⟩=some (zU 6):=cell_of n2 4
 have m5:V.cell? ⟨w§+1,5,none⟩=some (.string x):=cell_of n2 5
 clear n1 n2 eV
 clear e2
 have hb2:=below_new V (.cells #[zU 3,zU 3,zU 3,zU 2,zU 4,zU 2] 44)
 have hn2:=heap_new V (.cells #[zU 3,zU 3,zU 3,zU 2,zU 4,zU 2] 44)
 have k0:(V.alloc (.cells #[zU 3,zU 3,zU 3,zU 2,zU 4,zU 2] 44)).cell? ⟨V§,5,none⟩=some (zU 2):=cell_of hn2 5
 have k4:(V.alloc (.cells #[zU 3,zU 3,zU 3,zU 2,zU 4,zU 2] 44)).cell? ⟨w§+1,4,none⟩=some (zU 6):=(hb2.cell (World.block_lt_of_cell? V _ m4)).trans m4
 have HB2:Hid (Below w§ w (V.alloc (.cells #[zU 3,zU 3,zU 3,zU 2,zU 4,zU 2] 44))):=below2 HB.out hb2
 clear hb2 hn2
 go_enter Tryz.func85,Tryz.ntmps85
 go_upto_region 1 with fail
 rw [EV.out]
 clear EV
 go_wp2_with fail
 go_ret2
 exact⟨rfl,HB2.out⟩
set_option maxRecDepth 100000 in
set_option maxHeartbeats 8000000 in
theorem rnode_7 (S:StratM) (o t n f:Int) (x:ByteArray) (p:Int) (am:Option Addr) (l c:Nat) (g q cap:Nat) (a b d:Int) (w:World) (c0:w.cell? ⟨g,q,none⟩=some (zU a)) (c1:w.cell? ⟨g,q+1,none⟩=some (zU b)) (c2:w.cell? ⟨g,q+2,none⟩=some (zU d)):Calls zG 85 #[.agg S.vals,.agg #[zU 7,zU o,zU t,zI n,zU f,.string x,.slice am l c,zI p],.slice (some ⟨g,q,none⟩) 3 cap] w fun e w'=>e=.returned (two (b,a == 5 && b == d))∧Below w§ w w':=by
 have e2:=below_two w (.cells S.vals 27) (.cells #[zU 7,zU o,zU t,zI n,zU f,.string x,.slice am l c,zI p] 48)
 have n1:((w.alloc (.cells S.vals 27)).alloc (.cells #[zU 7,zU o,zU t,zI n,zU f,.string x,.slice am l c,zI p] 48)).heap[w§]? = some (.cells S.vals 27 (0,0)):=heap_old (heap_new _ _) (by rw [size_alloc]; omega)
 have n2:((w.alloc (.cells S.vals 27)).alloc (.cells #[zU 7,zU o,zU t,zI n,zU f,.string x,.slice am l c,zI p] 48)).heap[w§+1]? = some (.cells #[zU 7,zU o,zU t,zI n,zU f,.string x,.slice am l c,zI p] 48 (0,0)):=by rw [← size_alloc w (.cells S.vals 27)]; exact heap_new _ _
 obtain⟨V,eV⟩:∃ V,(w.alloc (.cells S.vals 27)).alloc (.cells #[zU 7,zU o,zU t,zI n,zU f,.string x,.slice am l c,zI p] 48)=V:=⟨_,rfl⟩
 rw [eV] at e2 n1 n2
 have EV:Hid ((w.alloc (.cells S.vals 27)).alloc (.cells #[zU 7,zU o,zU t,zI n,zU f,.string x,.slice am l c,zI p] 48)=V):=eV
 have HB:Hid (Below w§ w V):=e2
 have HN1:Hid (V.heap[w§]? = some (.cells S.vals 27 (0,0))):=n1
 have m0:V.cell? ⟨w§+1,0,none⟩=some (zU 7):=cell_of n2 0
 have m1:V.cell? ⟨w§+1,1,none⟩=some (zU o):=cell_of n2 1
 have m2:V.cell? ⟨w§+1,2,none⟩=some (zU t):=cell_of n2 2
 have m4:V.cell? ⟨w§+1,4,none⟩=some (zU f):=cell_of n2 4
 have m5:V.cell? ⟨w§+1,5,none⟩=some (.string x):=cell_of n2 5
 clear n1 n2 eV
 have d0:V.cell? ⟨g,q,none⟩=some (zU a):=(e2.cell (World.block_lt_of_cell? w _ c0)).trans c0
 have d1:V.cell? ⟨g,q+1,none⟩=some (zU b):=(e2.cell (World.block_lt_of_cell? w _ c1)).trans c1
 have d2:V.cell? ⟨g,q+2,none⟩=some (zU d):=(e2.cell (World.block_lt_of_cell? w _ c2)).trans c2
 clear e2 c0 c1 c2
 obtain⟨A,eA⟩:∃ A,(a == 5)=A:=⟨_,rfl⟩
 obtain⟨B,eB⟩:∃ A,(b == d)=A:=⟨_,rfl⟩
 rw [eA,eB]
 cases A <;> cases B
 all_goals
  go_enter Tryz.func85,Tryz.ntmps85
  go_upto_region 1 with fail
  rw [EV.out]
  clear EV
  go_upto_region 11 with fail
  go_quiet (fail)
  go_wp2_with fail
  go_ret2
  exact⟨rfl,by have h:=HB.out; exact⟨h.os,h.tape,h.output,h.size,h.block⟩⟩
set_option maxRecDepth 100000 in
set_option maxHeartbeats 8000000 in
theorem rnode_9 (S:StratM) (o t n f:Int) (x:ByteArray) (p:Int) (am:Option Addr) (l c:Nat) (g q cap:Nat) (a:Int) (w:World) (c0:w.cell? ⟨g,q,none⟩=some (zU a)):Calls zG 85 #[.agg S.vals,.agg #[zU 9,zU o,zU t,zI n,zU f,.string x,.slice am l c,zI p],.slice (some ⟨g,q,none⟩) 1 cap] w fun e w'=>e=.returned (two (t,numY a))∧Below w§ w w':=by
 have e2:=below_two w (.cells S.vals 27) (.cells #[zU 9,zU o,zU t,zI n,zU f,.string x,.slice am l c,zI p] 48)
 have n1:((w.alloc (.cells S.vals 27)).alloc (.cells #[zU 9,zU o,zU t,zI n,zU f,.string x,.slice am l c,zI p] 48)).heap[w§]? = some (.cells S.vals 27 (0,0)):=heap_old (heap_new _ _) (by rw [size_alloc]; omega)
 have n2:((w.alloc (.cells S.vals 27)).alloc (.cells #[zU 9,zU o,zU t,zI n,zU f,.string x,.slice am l c,zI p] 48)).heap[w§+1]? = some (.cells #[zU 9,zU o,zU t,zI n,zU f,.string x,.slice am l c,zI p] 48 (0,0)):=by rw [← size_alloc w (.cells S.vals 27)]; exact heap_new _ _
 obtain⟨V,eV⟩:∃ V,(w.alloc (.cells S.vals 27)).alloc (.cells #[zU 9,zU o,zU t,zI n,zU f,.string x,.slice am l c,zI p] 48)=V:=⟨_,rfl⟩
 rw [eV] at e2 n1 n2
 have EV:Hid ((w.alloc (.cells S.vals 27)).alloc (.cells #[zU 9,zU o,zU t,zI n,zU f,.string x,.slice am l c,zI p] 48)=V):=eV
 have HB:Hid (Below w§ w V):=e2
 have HN1:Hid (V.heap[w§]? = some (.cells S.vals 27 (0,0))):=n1
 have m0:V.cell? ⟨w§+1,0,none⟩=some (zU 9):=cell_of n2 0
 have m1:V.cell? ⟨w§+1,1,none⟩=some (zU o):=cell_of n2 1
 have m2:V.cell? ⟨w§+1,2,none⟩=some (zU t):=cell_of n2 2
 have m4:V.cell? ⟨w§+1,4,none⟩=some (zU f):=cell_of n2 4
 have m5:V.cell? ⟨w§+1,5,none⟩=some (.string x):=cell_of n2 5
 clear n1 n2 eV
 have d0:V.cell? ⟨g,q,none⟩=some (zU a):=(e2.cell (World.block_lt_of_cell? w _ c0)).trans c0
 clear e2 c0
 have cN:∀ v,Calls zG 122 #[zU a] v fun e w'=>e=.returned (.bool (numY a))∧w'=v:=fun v=>rnum_any a v
 obtain⟨A,eA⟩:∃ A,numY a=A:=⟨_,rfl⟩
 rw [eA] at cN ⊢
 clear eA
 go_enter Tryz.func85,Tryz.ntmps85
 go_upto_region 1 with fail
 rw [EV.out]
 clear EV
 go_upto_region 13 with fail
 go_quiet ((go_at_call 122; refine Calls.quiet_of_same (cN _)))
 go_wp2_with fail
 go_ret2
 exact⟨rfl,by have h:=HB.out; exact⟨h.os,h.tape,h.output,h.size,h.block⟩⟩
set_option maxRecDepth 100000 in
set_option maxHeartbeats 8000000 in
theorem rnode_two6 (S:StratM) (o t n f:Int) (x:ByteArray) (p:Int) (am:Option Addr) (l c:Nat) (g q cap:Nat) (a b:Int) (w:World) (c0:w.cell? ⟨g,q,none⟩=some (zU a)) (c1:w.cell? ⟨g,q+1,none⟩=some (zU b)):Calls zG 85 #[.agg S.vals,.agg #[zU 6,zU o,zU t,zI n,zU f,.string x,.slice am l c,zI p],.slice (some ⟨g,q,none⟩) 2 cap] w fun e w'=>e=.returned (two (dTwo o a b))∧Below w§ w w':=by
 have e2:=below_two w (.cells S.vals 27) (.cells #[zU 6,zU o,zU t,zI n,zU f,.string x,.slice am l c,zI p] 48)
 have n1:((w.alloc (.cells S.vals 27)).alloc (.cells #[zU 6,zU o,zU t,zI n,zU f,.string x,.slice am l c,zI p] 48)).heap[w§]? = some (.cells S.vals 27 (0,0)):=heap_old (heap_new _ _) (by rw [size_alloc]; omega)
 have n2:((w.alloc (.cells S.vals 27)).alloc (.cells #[zU 6,zU o,zU t,zI n,zU f,.string x,.slice am l c,zI p] 48)).heap[w§+1]? = some (.cells #[zU 6,zU o,zU t,zI n,zU f,.string x,.slice am l c,zI p] 48 (0,0)):=by rw [← size_alloc w (.cells S.vals 27)]; exact heap_new _ _
 obtain⟨V,eV⟩:∃ V,(w.alloc (.cells S.vals 27)).alloc (.cells #[zU 6,zU o,zU t,zI n,zU f,.string x,.slice am l c,zI p] 48)=V:=⟨_,rfl⟩
 rw [eV] at e2 n1 n2
 have EV:Hid ((w.alloc (.cells S.vals 27)).alloc (.cells #[zU 6,zU o,zU t,zI n,zU f,.string x,.slice am l c,zI p] 48)=V):=eV
 have HB:Hid (Below w§ w V):=e2
 have HN1:Hid (V.heap[w§]? = some (.cells S.vals 27 (0,0))):=n1
 have m0:V.cell? ⟨w§+1,0,none⟩=some (zU 6):=cell_of n2 0
 have m1:V.cell? ⟨w§+1,1,none⟩=some (zU o):=cell_of n2 1
 have m2:V.cell? ⟨w§+1,2,none⟩=some (zU t):=cell_of n2 2
 have m4:V.cell? ⟨w§+1,4,none⟩=some (zU f):=cell_of n2 4
 have m5:V.cell? ⟨w§+1,5,none⟩=some (.string x):=cell_of n2 5
 clear n1 n2 eV
 have d0:V.cell? ⟨g,q,none⟩=some (zU a):=(e2.cell (World.block_lt_of_cell? w _ c0)).trans c0
 have d1:V.cell? ⟨g,q+1,none⟩=some (zU b):=(e2.cell (World.block_lt_of_cell? w _ c1)).trans c1
 clear e2 c0 c1
 have cN:∀ v,Calls zG 123 #[zU o,zU a,zU b] v fun e w'=>e=.returned (two (dTwo o a b))∧w'=v:=fun v=>rtwo_any o a b v
 obtain⟨⟨r1,r2⟩,er⟩:∃ r,dTwo o a b=r:=⟨_,rfl⟩
 rw [er] at cN ⊢
 unfold two at cN
 clear er
 go_enter Tryz.func85,Tryz.ntmps85
 go_upto_region 1 with fail
 rw [EV.out]
 clear EV
 go_upto_region 15 with fail
 go_quiet ((go_at_call 123; refine Calls.quiet_of_same (cN _)))
 go_wp2_with fail
 go_ret2
 exact⟨rfl,by have h:=HB.out; exact⟨h.os,h.tape,h.output,h.size,h.block⟩⟩
set_option maxRecDepth 100000 in
set_option maxHeartbeats 8000000 in
theorem rnode_two8 (S:StratM) (o t n f:Int) (x:ByteArray) (p:Int) (am:Option Addr) (l c:Nat) (g q cap:Nat) (a b:Int) (w:World) (c0:w.cell? ⟨g,q,none⟩=some (zU a)) (c1:w.cell? ⟨g,q+1,none⟩=some (zU b)):Calls zG 85 #[.agg S.vals,.agg #[zU 8,zU o,zU t,zI n,zU f,.string x,.slice am l c,zI p],.slice (some ⟨g,q,none⟩) 2 cap] w fun e w'=>e=.returned (two (dTwo o a b))∧Below w§ w w':=by
 have e2:=below_two w (.cells S.vals 27) (.cells #[zU 8,zU o,zU t,zI n,zU f,.string x,.slice am l c,zI p] 48)
 have n1:((w.alloc (.cells S.vals 27)).alloc (.cells #[zU 8,zU o,zU t,zI n,zU f,.string x,.slice am l c,zI p] 48)).heap[w§]? = some (.cells S.vals 27 (0,0)):=heap_old (heap_new _ _) (by rw [size_alloc]; omega)
 have n2:((w.alloc (.cells S.vals 27)).alloc (.cells #[zU 8,zU o,zU t,zI n,zU f,.string x,.slice am l c,zI p] 48)).heap[w§+1]? = some (.cells #[zU 8,zU o,zU t,zI n,zU f,.string x,.slice am l c,zI p] 48 (0,0)):=by rw [← size_alloc w (.cells S.vals 27)]; exact heap_new _ _
 obtain⟨V,eV⟩:∃ V,(w.alloc (.cells S.vals 27)).alloc (.cells #[zU 8,zU o,zU t,zI n,zU f,.string x,.slice am l c,zI p] 48)=V:=⟨_,rfl⟩
 rw [eV] at e2 n1 n2
 have EV:Hid ((w.alloc (.cells S.vals 27)).alloc (.cells #[zU 8,zU o,zU t,zI n,zU f,.string x,.slice am l c,zI p] 48)=V):=eV
 have HB:Hid (Below w§ w V):=e2
 have HN1:Hid (V.heap[w§]? = some (.cells S.vals 27 (0,0))):=n1
 have m0:V.cell? ⟨w§+1,0,none⟩=some (zU 8):=cell_of n2 0
 have m1:V.cell? ⟨w§+1,1,none⟩=some (zU o):=cell_of n2 1
 have m2:V.cell? ⟨w§+1,2,none⟩=some (zU t):=cell_of n2 2
 have m4:V.cell? ⟨w§+1,4,none⟩=some (zU f):=cell_of n2 4
 have m5:V.cell? ⟨w§+1,5,none⟩=some (.string x):=cell_of n2 5
 clear n1 n2 eV
 have d0:V.cell? ⟨g,q,none⟩=some (zU a):=(e2.cell (World.block_lt_of_cell? w _ c0)).trans c0
 have d1:V.cell? ⟨g,q+1,none⟩=some (zU b):=(e2.cell (World.block_lt_of_cell? w _ c1)).trans c1
 clear e2 c0 c1
 have cN:∀ v,Calls zG 123 #[zU o,zU a,zU b] v fun e w'=>e=.returned (two (dTwo o a b))∧w'=v:=fun v=>rtwo_any o a b v
 obtain⟨⟨r1,r2⟩,er⟩:∃ r,dTwo o a b=r:=⟨_,rfl⟩
 rw [er] at cN ⊢
 unfold two at cN
 clear er
 go_enter Tryz.func85,Tryz.ntmps85
 go_upto_region 1 with fail
 rw [EV.out]
 clear EV
 go_upto_region 15 with fail
 go_quiet ((go_at_call 123; refine Calls.quiet_of_same (cN _)))
 go_wp2_with fail
 go_ret2
 exact⟨rfl,by have h:=HB.out; exact⟨h.os,h.tape,h.output,h.size,h.block⟩⟩
set_option maxRecDepth 100000 in
set_option maxHeartbeats 8000000 in
theorem rnode_not (S:StratM) (t n f:Int) (x:ByteArray) (p:Int) (am:Option Addr) (l c:Nat) (g q cap:Nat) (a:Int) (w:World) (c0:w.cell? ⟨g,q,none⟩=some (zU a)):Calls zG 85 #[.agg S.vals,.agg #[zU 5,zU 2,zU t,zI n,zU f,.string x,.slice am l c,zI p],.slice (some ⟨g,q,none⟩) 1 cap] w fun e w'=>e=.returned (two (5,a == 5))∧Below w§ w w':=by
 have e2:=below_two w (.cells S.vals 27) (.cells #[zU 5,zU 2,zU t,zI n,zU f,.string x,.slice am l c,zI p] 48)
 have n1:((w.alloc (.cells S.vals 27)).alloc (.cells #[zU 5,zU 2,zU t,zI n,zU f,.string x,.slice am l c,zI p] 48)).heap[w§]? = some (.cells S.vals 27 (0,0)):=heap_old (heap_new _ _) (by rw [size_alloc]; omega)
 have n2:((w.alloc (.cells S.vals 27)).alloc (.cells #[zU 5,zU 2,zU t,zI n,zU f,.string x,.slice am l c,zI p] 48)).heap[w§+1]? = some (.cells #[zU 5,zU 2,zU t,zI n,zU f,.string x,.slice am l c,zI p] 48 (0,0)):=by rw [← size_alloc w (.cells S.vals 27)]; exact heap_new _ _
 obtain⟨V,eV⟩:∃ V,(w.alloc (.cells S.vals 27)).alloc (.cells #[zU 5,zU 2,zU t,zI n,zU f,.string x,.slice am l c,zI p] 48)=V:=⟨_,rfl⟩
 rw [eV] at e2 n1 n2
 have EV:Hid ((w.alloc (.cells S.vals 27)).alloc (.cells #[zU 5,zU 2,zU t,zI n,zU f,.string x,.slice am l c,zI p] 48)=V):=eV
 have HB:Hid (Below w§ w V):=e2
 have HN1:Hid (V.heap[w§]? = some (.cells S.vals 27 (0,0))):=n1
 have m0:V.cell? ⟨w§+1,0,none⟩=some (zU 5):=cell_of n2 0
 have m1:V.cell? ⟨w§+1,1,none⟩=some (zU 2):=cell_of n2 1
 have m2:V.cell? ⟨w§+1,2,none⟩=some (zU t):=cell_of n2 2
 have m4:V.cell? ⟨w§+1,4,none⟩=some (zU f):=cell_of n2 4
 have m5:V.cell? ⟨w§+1,5,none⟩=some (.string x):=cell_of n2 5
 clear n1 n2 eV
 have d0:V.cell? ⟨g,q,none⟩=some (zU a):=(e2.cell (World.block_lt_of_cell? w _ c0)).trans c0
 clear e2 c0
 obtain⟨A,eA⟩:∃ A,(a == 5)=A:=⟨_,rfl⟩
 rw [eA]
 cases A
 all_goals
  go_enter Tryz.func85,Tryz.ntmps85
  go_upto_region 1 with fail
  rw [EV.out]
  clear EV
  go_upto_region 17 with fail
  go_quiet (fail)
  go_wp2_with fail
  go_ret2
  exact⟨rfl,by have h:=HB.out; exact⟨h.os,h.tape,h.output,h.size,h.block⟩⟩
set_option maxRecDepth 100000 in
set_option maxHeartbeats 8000000 in
theorem rnode_neg5 (S:StratM) (o t n f:Int) (x:ByteArray) (p:Int) (am:Option Addr) (l c:Nat) (g q cap:Nat) (a:Int) (w:World) (ho:(o == 2)=false) (c0:w.cell? ⟨g,q,none⟩=some (zU a)):Calls zG 85 #[.agg S.vals,.agg #[zU 5,zU o,zU t,zI n,zU f,.string x,.slice am l c,zI p],.slice (some ⟨g,q,none⟩) 1 cap] w fun e w'=>e=.returned (two (a,numY a))∧Below w§ w w':=by
 have e2:=below_two w (.cells S.vals 27) (.cells #[zU 5,zU o,zU t,zI n,zU f,.string x,.slice am l c,zI p] 48)
 have n1:((w.alloc (.cells S.vals 27)).alloc (.cells #[zU 5,zU o,zU t,zI n,zU f,.string x,.slice am l c,zI p] 48)).heap[w§]? = some (.cells S.vals 27 (0,0)):=heap_old (heap_new _ _) (by rw [size_alloc]; omega)
 have n2:((w.alloc (.cells S.vals 27)).alloc (.cells #[zU 5,zU o,zU t,zI n,zU f,.string x,.slice am l c,zI p] 48)).heap[w§+1]? = some (.cells #[zU 5,zU o,zU t,zI n,zU f,.string x,.slice am l c,zI p] 48 (0,0)):=by rw [← size_alloc w (.cells S.vals 27)]; exact heap_new _ _
 obtain⟨V,eV⟩:∃ V,(w.alloc (.cells S.vals 27)).alloc (.cells #[zU 5,zU o,zU t,zI n,zU f,.string x,.slice am l c,zI p] 48)=V:=⟨_,rfl⟩
 rw [eV] at e2 n1 n2
 have EV:Hid ((w.alloc (.cells S.vals 27)).alloc (.cells #[zU 5,zU o,zU t,zI n,zU f,.string x,.slice am l c,zI p] 48)=V):=eV
 have HB:Hid (Below w§ w V):=e2
 have HN1:Hid (V.heap[w§]? = some (.cells S.vals 27 (0,0))):=n1
 have m0:V.cell? ⟨w§+1,0,none⟩=some (zU 5):=cell_of n2 0
 have m1:V.cell? ⟨w§+1,1,none⟩=some (zU o):=cell_of n2 1
 have m2:V.cell? ⟨w§+1,2,none⟩=some (zU t):=cell_of n2 2
 have m4:V.cell? ⟨w§+1,4,none⟩=some (zU f):=cell_of n2 4
 have m5:V.cell? ⟨w§+1,5,none⟩=some (.string x):=cell_of n2 5
 clear n1 n2 eV
 have d0:V.cell? ⟨g,q,none⟩=some (zU a):=(e2.cell (World.block_lt_of_cell? w _ c0)).trans c0
 clear e2 c0
 have cN:∀ v,Calls zG 122 #[zU a] v fun e w'=>e=.returned (.bool (numY a))∧w'=v:=fun v=>rnum_any a v
 obtain⟨A,eA⟩:∃ A,numY a=A:=⟨_,rfl⟩
 rw [eA] at cN ⊢
 clear eA
 go_enter Tryz.func85,Tryz.ntmps85
 go_upto_region 1 with fail
 rw [EV.out]
 clear EV
 go_upto_region 18 with fail
 go_quiet ((go_at_call 122; refine Calls.quiet_of_same (cN _)))
 go_wp2_with fail
 go_ret2
 exact⟨rfl,by have h:=HB.out; exact⟨h.os,h.tape,h.output,h.size,h.block⟩⟩
set_option maxRecDepth 100000 in
set_option maxHeartbeats 8000000 in
theorem rnode_neg8 (S:StratM) (o t n f:Int) (x:ByteArray) (p:Int) (am:Option Addr) (l c:Nat) (g q cap:Nat) (a:Int) (w:World) (ho:(o == 2)=false) (c0:w.cell? ⟨g,q,none⟩=some (zU a)):Calls zG 85 #[.agg S.vals,.agg #[zU 8,zU o,zU t,zI n,zU f,.string x,.slice am l c,zI p],.slice (some ⟨g,q,none⟩) 1 cap] w fun e w'=>e=.returned (two (a,numY a))∧Below w§ w w':=by
 have e2:=below_two w (.cells S.vals 27) (.cells #[zU 8,zU o,zU t,zI n,zU f,.string x,.slice am l c,zI p] 48)
 have n1:((w.alloc (.cells S.vals 27)).alloc (.cells #[zU 8,zU o,zU t,zI n,zU f,.string x,.slice am l c,zI p] 48)).heap[w§]? = some (.cells S.vals 27 (0,0)):=heap_old (heap_new _ _) (by rw [size_alloc]; omega)
 have n2:((w.alloc (.cells S.vals 27)).alloc (.cells #[zU 8,zU o,zU t,zI n,zU f,.string x,.slice am l c,zI p] 48)).heap[w§+1]? = some (.cells #[zU 8,zU o,zU t,zI n,zU f,.string x,.slice am l c,zI p] 48 (0,0)):=by rw [← size_alloc w (.cells S.vals 27)]; exact heap_new _ _
 obtain⟨V,eV⟩:∃ V,(w.alloc (.cells S.vals 27)).alloc (.cells #[zU 8,zU o,zU t,zI n,zU f,.string x,.slice am l c,zI p] 48)=V:=⟨_,rfl⟩
 rw [eV] at e2 n1 n2
 have EV:Hid ((w.alloc (.cells S.vals 27)).alloc (.cells #[zU 8,zU o,zU t,zI n,zU f,.string x,.slice am l c,zI p] 48)=V):=eV
 have HB:Hid (Below w§ w V):=e2
 have HN1:Hid (V.heap[w§]? = some (.cells S.vals 27 (0,0))):=n1
 have m0:V.cell? ⟨w§+1,0,none⟩=some (zU 8):=cell_of n2 0
 have m1:V.cell? ⟨w§+1,1,none⟩=some (zU o):=cell_of n2 1
 have m2:V.cell? ⟨w§+1,2,none⟩=some (zU t):=cell_of n2 2
 have m4:V.cell? ⟨w§+1,4,none⟩=some (zU f):=cell_of n2 4
 have m5:V.cell? ⟨w§+1,5,none⟩=some (.string x):=cell_of n2 5
 clear n1 n2 eV
 have d0:V.cell? ⟨g,q,none⟩=some (zU a):=(e2.cell (World.block_lt_of_cell? w _ c0)).trans c0
 clear e2 c0
 have cN:∀ v,Calls zG 122 #[zU a] v fun e w'=>e=.returned (.bool (numY a))∧w'=v:=fun v=>rnum_any a v
 obtain⟨A,eA⟩:∃ A,numY a=A:=⟨_,rfl⟩
 rw [eA] at cN ⊢
 clear eA
 go_enter Tryz.func85,Tryz.ntmps85
 go_upto_region 1 with fail
 rw [EV.out]
 clear EV
 go_upto_region 18 with fail
 go_quiet ((go_at_call 122; refine Calls.quiet_of_same (cN _)))
 go_wp2_with fail
 go_ret2
 exact⟨rfl,by have h:=HB.out; exact⟨h.os,h.tape,h.output,h.size,h.block⟩⟩
open Go.Sort
set_option maxRecDepth 100000 in
set_option maxHeartbeats 8000000 in
theorem rnode_2 (S:StratM) (o t n f:Int) (x:ByteArray) (p:Int) (am:Option Addr) (l c:Nat) (v:Value) (w:World) (hl:StratL w S) (k:Nat) (hk:k < S.rs.length) (hI:regI S.rs 0 x=(k:Int)):Calls zG 85 #[.agg S.vals,.agg #[zU 2,zU o,zU t,zI n,zU f,.string x,.slice am l c,zI p],v] w fun e w'=>e=.returned (two (S.rs[k].t,true))∧Below w§ w w':=by
 have e2:=below_two w (.cells S.vals 27) (.cells #[zU 2,zU o,zU t,zI n,zU f,.string x,.slice am l c,zI p] 48)
 have n1:((w.alloc (.cells S.vals 27)).alloc (.cells #[zU 2,zU o,zU t,zI n,zU f,.string x,.slice am l c,zI p] 48)).heap[w§]? = some (.cells S.vals 27 (0,0)):=heap_old (heap_new _ _) (by rw [size_alloc]; omega)
 have n2:((w.alloc (.cells S.vals 27)).alloc (.cells #[zU 2,zU o,zU t,zI n,zU f,.string x,.slice am l c,zI p] 48)).heap[w§+1]? = some (.cells #[zU 2,zU o,zU t,zI n,zU f,.string x,.slice am l c,zI p] 48 (0,0)):=by rw [← size_alloc w (.cells S.vals 27)]; exact heap_new _ _
 obtain⟨V,eV⟩:∃ V,(w.alloc (.cells S.vals 27)).alloc (.cells #[zU 2,zU o,zU t,zI n,zU f,.string x,.slice am l c,zI p] 48)=V:=⟨_,rfl⟩
 rw [eV] at e2 n1 n2
 have EV:Hid ((w.alloc (.cells S.vals 27)).alloc (.cells #[zU 2,zU o,zU t,zI n,zU f,.string x,.slice am l c,zI p] 48)=V):=eV
 have HB:Hid (Below w§ w V):=e2
 have HN1:Hid (V.heap[w§]? = some (.cells S.vals 27 (0,0))):=n1
 have m0:V.cell? ⟨w§+1,0,none⟩=some (zU 2):=cell_of n2 0
 have m1:V.cell? ⟨w§+1,1,none⟩=some (zU o):=cell_of n2 1
 have m2:V.cell? ⟨w§+1,2,none⟩=some (zU t):=cell_of n2 2
 have m4:V.cell? ⟨w§+1,4,none⟩=some (zU f):=cell_of n2 4
 have m5:V.cell? ⟨w§+1,5,none⟩=some (.string x):=cell_of n2 5
 clear n1 n2 eV
 obtain⟨b,q,ea,hat⟩:=(hl.on e2).1.2.2 k (by rw [List.length_map]; exact hk)
 simp only [List.getElem_map] at hat
 have y1:V.cell? ⟨b,q+k * 11+1,none⟩=some (zU S.rs[k].t):=hat 1 (by omega)
 obtain⟨T,eT⟩:∃ T,S.rs[k].t=T:=⟨_,rfl⟩
 rw [eT] at y1 ⊢
 have hk1:(k:Int) < (S.rs.length:Int):=by omega
 have s0:V.cell? ⟨w§,0,none⟩=some (.string S.x):=cell_of HN1.out 0
 have s1:V.cell? ⟨w§,1,none⟩=some (.slice S.ra S.rs.length S.rc):=cell_of HN1.out 1
 have s2:V.cell? ⟨w§,2,none⟩=some (.slice S.sa S.ss.length S.sc):=cell_of HN1.out 2
 have s3:V.cell? ⟨w§,3,none⟩=some (.slice S.ta S.ts.length S.tc):=cell_of HN1.out 3
 have HL:Hid (StratL V S):=hl.on e2
 have HI:Hid (regI S.rs 0 x=(k:Int)):=hI
 have HEA:Hid (S.ra=some ⟨b,q,none⟩):=ea
 clear hat eT e2 hl hI hk
 go_enter Tryz.func85,Tryz.ntmps85
 go_upto_region 1 with fail
 rw [EV.out]
 clear EV
 go_upto_region 5 with fail
 have cq:∀ dq os,Calls zG 74 #[.agg #[.string S.x,.slice (some ⟨b,q,none⟩) S.rs.length S.rc,.slice S.sa S.ss.length S.sc,.slice S.ta S.ts.length S.tc],.string x] (grow (redrawn V dq) os) fun e w''=>e=.returned (zI (k:Int))∧∃ p:Regrown,w''=grow (redrawn V p.d) p.os:=fun dq os=>Calls.regrown_of (by
  have:=rreg_any S x _ (HL.out.on (below_regrown V dq os))
  rw [HI.out] at this
  unfold StratM.vals at this
  rw [HEA.out] at this
  exact this)
 rw [ea] at s1
 clear ea
 have k0:=cell_regrown s0
 have k1:=cell_regrown s1
 have k2:=cell_regrown s2
 have k3:=cell_regrown s3
 have j5:=cell_regrown m5
 have j1:=cell_regrown y1
 refine wp_region_quiet_below zK zK ?_
 repeat (quiet_step (exact cq _ _))
 refine wpQuiet_nil ?_
 intro _ hw'
 obtain⟨⟨dq,osq⟩,hw''⟩:=hw'
 subst hw''
 have HB5:Hid (Below w§ w (grow (redrawn V dq) osq)):=below2 HB.out (below_regrown V dq osq)
 generalize grow (redrawn V dq) osq=w5 at HB5 ⊢
 go_wp2_with fail
 go_ret2
 exact⟨rfl,HB5.out⟩
def TsR (w:World) (v:Value) (ts:List Int):Prop:=Row w 44 1 v ts.length (fun j=>zU (ts.getD j 0))
theorem TsR.on {w w':World}{v:Value}{ts:List Int}(h:TsR w v ts) (k:Below w§ w w'):TsR w' v ts:=h.of_block (fun q hq=>k.block q (Row.lt h q hq))
theorem TsR.at {w:World}{v:Value}{ts:List Int}(h:TsR w v ts) (h0:0 < ts.length):∃ g cap,v=.slice (some ⟨g,0,none⟩) ts.length cap∧∀ j,j < ts.length→w.cell? ⟨g,0+j,none⟩=some (zU (ts.getD j 0)):=by
 obtain⟨ao,c,rfl,hg,_⟩:=Row.form h
 obtain⟨g,rfl⟩:=hg h0
 exact⟨g,c,rfl,fun j hj=>by rw [Nat.zero_add]; exact Row.cell h (by omega)⟩
theorem rnode_any (S:StratM) (h:Hd) (a:Option Addr) (c:Nat) (ks:List Nd) (ts:List Int) (v:Value) (w:World) (hl:StratL w S) (hf:formB (.mk h a c ks)=true) (ht:ts.length=ks.length) (hv:TsR w v ts) (hr:h.k=2→(regL S.rs h.x).isSome=true) :
  Calls zG 85 #[.agg S.vals,.agg (Nd.mk h a c ks).vals,v] w fun e w'=>(∃ t b,e=.returned (two (t,b))∧(if h.k=2 then b=true∧regL S.rs h.x=some t else b=(fitT h ks.length (ts.getD 0 0) (ts.getD 1 0) (ts.getD 2 0)).2∧(b=true→t=(fitT h ks.length (ts.getD 0 0) (ts.getD 1 0) (ts.getD 2 0)).1)))∧Below w§ w w':=by
 simp only [formB,Bool.and_eq_true,oneH] at hf
 have hfit:=hf.1.2
 obtain⟨k,o,t,n,f,x,p⟩:=h
 unfold fitB at hfit
 simp only at hfit hr ⊢
 show Calls zG 85 #[.agg S.vals,.agg #[zU k,zU o,zU t,zI n,zU f,.string x,.slice a ks.length c,zI p],v] w _
 by_cases h1:k=1
 ·subst h1
  refine (rnode_1 S o t n f x p a ks.length c v w).mono ?_
  rintro e w' ⟨rfl,hb⟩
  exact⟨⟨t,true,rfl,by simp [fitT]⟩,hb⟩
 by_cases h2:k=2
 ·subst h2
  rcases regI_spec S.rs 0 x with ⟨_,e⟩ | ⟨i,hi,e1,e2⟩
  ·rw [e] at hr; simp at hr
  ·refine (rnode_2 S o t n f x p a ks.length c v w hl i hi (by rw [e1]; congr 1; omega)).mono ?_
   rintro e w' ⟨rfl,hb⟩
   exact⟨⟨_,true,rfl,by simp [e2]⟩,hb⟩
 by_cases h3:k=3
 ·subst h3
  simp only [h1,h2,if_false,if_true,Bool.and_eq_true,decide_eq_true_eq] at hfit
  have hs:f=1∨f=2∨f=3∨f=4∨f=5∨f=6:=by omega
  rcases hs with rfl | rfl | rfl | rfl | rfl | rfl
  ·exact (rnode_31 S o t n x p a ks.length c v w).mono (by rintro e w' ⟨rfl,hb⟩; exact⟨⟨_,true,rfl,by simp [fitT,fldT,fldL]⟩,hb⟩)
  ·exact (rnode_32 S o t n x p a ks.length c v w).mono (by rintro e w' ⟨rfl,hb⟩; exact⟨⟨_,true,rfl,by simp [fitT,fldT,fldL]⟩,hb⟩)
  ·exact (rnode_33 S o t n x p a ks.length c v w).mono (by rintro e w' ⟨rfl,hb⟩; exact⟨⟨_,true,rfl,by simp [fitT,fldT,fldL]⟩,hb⟩)
  ·exact (rnode_34 S o t n x p a ks.length c v w).mono (by rintro e w' ⟨rfl,hb⟩; exact⟨⟨_,true,rfl,by simp [fitT,fldT,fldL]⟩,hb⟩)
  ·exact (rnode_35 S o t n x p a ks.length c v w).mono (by rintro e w' ⟨rfl,hb⟩; exact⟨⟨_,true,rfl,by simp [fitT,fldT,fldL]⟩,hb⟩)
  ·exact (rnode_36 S o t n x p a ks.length c v w).mono (by rintro e w' ⟨rfl,hb⟩; exact⟨⟨_,true,rfl,by simp [fitT,fldT,fldL]⟩,hb⟩)
 by_cases h4:k=4
 ·subst h4
  refine (rnode_4 S o t n f x p a ks.length c v w).mono ?_
  rintro e w' ⟨rfl,hb⟩
  exact⟨⟨5,true,rfl,by simp [fitT]⟩,hb⟩
 by_cases h7:k=7
 ·subst h7
  simp only [h1,h2,h3,h4,if_false,if_true,decide_eq_true_eq,show ¬ (7:Int)=5 by decide,show ¬ (7:Int)=6 by decide] at hfit
  obtain⟨g,cap,rfl,hc⟩:=hv.at (by omega)
  have hl3:ts.length=3:=by omega
  rw [hl3] at hc ⊢
  refine (rnode_7 S o t n f x p a ks.length c g 0 cap _ _ _ w (hc 0 (by omega)) (hc 1 (by omega)) (hc 2 (by omega))).mono ?_
  rintro e w' ⟨rfl,hb⟩
  exact⟨⟨_,_,rfl,by simp [fitT]⟩,hb⟩
 by_cases h9:k=9
 ·subst h9
  simp only [h1,h2,h3,h4,h7,if_false,if_true,Bool.and_eq_true,decide_eq_true_eq,show ¬ (9:Int)=5 by decide,show ¬ (9:Int)=6 by decide,show ¬ (9:Int)=8 by decide] at hfit
  obtain⟨g,cap,rfl,hc⟩:=hv.at (by omega)
  have hl1:ts.length=1:=by omega
  rw [hl1] at hc ⊢
  refine (rnode_9 S o t n f x p a ks.length c g 0 cap _ w (hc 0 (by omega))).mono ?_
  rintro e w' ⟨rfl,hb⟩
  exact⟨⟨_,_,rfl,by simp [fitT]⟩,hb⟩
 by_cases h5:k=5
 ·subst h5
  simp only [h1,h2,h3,h4,if_false,if_true,Bool.and_eq_true,decide_eq_true_eq] at hfit
  obtain⟨g,cap,rfl,hc⟩:=hv.at (by omega)
  have hl1:ts.length=1:=by omega
  have hk1:ks.length=1:=by omega
  rw [hl1] at hc ⊢
  by_cases ho:o=2
  ·subst ho
   refine (rnode_not S t n f x p a ks.length c g 0 cap _ w (hc 0 (by omega))).mono ?_
   rintro e w' ⟨rfl,hb⟩
   have ef:fitT ⟨5,2,t,n,f,x,p⟩ ks.length (ts.getD 0 0) (ts.getD 1 0) (ts.getD 2 0)=(ts.getD 0 0,ts.getD 0 0 == 5):=by simp [fitT,hk1,aloneT]
   refine⟨⟨_,_,rfl,?_⟩,hb⟩
   rw [if_neg (by decide),ef]
   exact⟨rfl,fun hh=>(beq_iff_eq.1 hh).symm⟩
  ·refine (rnode_neg5 S o t n f x p a ks.length c g 0 cap _ w (by simpa using ho) (hc 0 (by omega))).mono ?_
   rintro e w' ⟨rfl,hb⟩
   exact⟨⟨_,_,rfl,by simp [fitT,hk1,aloneT,ho]⟩,hb⟩
 by_cases h6:k=6
 ·subst h6
  simp only [h1,h2,h3,h4,h5,if_false,if_true,Bool.and_eq_true,decide_eq_true_eq] at hfit
  obtain⟨g,cap,rfl,hc⟩:=hv.at (by omega)
  have hl2:ts.length=2:=by omega
  have hk2:ks.length=2:=by omega
  rw [hl2] at hc ⊢
  refine (rnode_two6 S o t n f x p a ks.length c g 0 cap _ _ w (hc 0 (by omega)) (hc 1 (by omega))).mono ?_
  rintro e w' ⟨rfl,hb⟩
  obtain⟨e1,e2⟩:=dTwo_pair (o:=o) (a:=ts.getD 0 0) (b:=ts.getD 1 0) (by omega)
  have ef:fitT ⟨6,o,t,n,f,x,p⟩ ks.length (ts.getD 0 0) (ts.getD 1 0) (ts.getD 2 0)=pairT o (ts.getD 0 0) (ts.getD 1 0):=by simp [fitT,hk2]
  refine⟨⟨_,_,rfl,?_⟩,hb⟩
  rw [if_neg (by decide),ef]
  exact⟨e1,fun hh=>e2 (e1 ▸ hh)⟩
 by_cases h8:k=8
 ·subst h8
  simp only [h1,h2,h3,h4,h5,h6,h7,if_false,if_true,Bool.or_eq_true,Bool.and_eq_true,decide_eq_true_eq] at hfit
  rcases hfit with ⟨hn,ho⟩ | ⟨hn,ho⟩
  ·obtain⟨g,cap,rfl,hc⟩:=hv.at (by omega)
   have hl1:ts.length=1:=by omega
   rw [hl1] at hc ⊢
   refine (rnode_neg8 S o t n f x p a ks.length c g 0 cap _ w (by rw [ho]; rfl) (hc 0 (by omega))).mono ?_
   rintro e w' ⟨rfl,hb⟩
   exact⟨⟨_,_,rfl,by simp [fitT,hn,aloneT,ho]⟩,hb⟩
  ·obtain⟨g,cap,rfl,hc⟩:=hv.at (by omega)
   have hl2:ts.length=2:=by omega
   rw [hl2] at hc ⊢
   refine (rnode_two8 S o t n f x p a ks.length c g 0 cap _ _ w (hc 0 (by omega)) (hc 1 (by omega))).mono ?_
   rintro e w' ⟨rfl,hb⟩
   obtain⟨e1,e2⟩:=dTwo_pair (o:=o) (a:=ts.getD 0 0) (b:=ts.getD 1 0) (by omega)
   have ef:fitT ⟨8,o,t,n,f,x,p⟩ ks.length (ts.getD 0 0) (ts.getD 1 0) (ts.getD 2 0)=pairT o (ts.getD 0 0) (ts.getD 1 0):=by simp [fitT,hn]
   refine⟨⟨_,_,rfl,?_⟩,hb⟩
   rw [if_neg (by decide),ef]
   exact⟨e1,fun hh=>e2 (e1 ▸ hh)⟩
 ·simp only [h1,h2,h3,h4,h5,h6,h7,h8,h9,if_false] at hfit
  cases hfit
end Go.Proofs.YtoogodlnnijikaaGreatDoor
