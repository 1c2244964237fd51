import Derived.Test.YtoogodlnnijikaaGreatDoorA0
import Derived.Test.YtoogodlnnijikaaGreatDoorA35
import Derived.Test.YtoogodlnnijikaaGreatDoorA2
import Derived.Deep.Slices
import Derived.ProofKit
import Derived.OpenShut
import Derived.ChangeArms
import Derived.SizedLaws
import Derived.Test.YtoogodlnnijikaaGreatDoorA7
namespace Go.Proofs.YtoogodlnnijikaaGreatDoor
open Go.RowKit
set_option linter.unusedVariables false
set_option linter.unusedSimpArgs false
theorem oneE_1 (o t n f:Int) (x:ByteArray) (p:Int) (l:Nat):oneH ⟨1,o,t,n,f,x,p⟩ l=(liR o t n f x l):=by
 simp only [oneH,alike,nm,fitB,zeB,liR,empt,numB]
 rw [Bool.eq_iff_iff]
 simp
 constructor <;> intro h <;> simp_all <;> omega
theorem oneE_2 (o t n f:Int) (x:ByteArray) (p:Int) (l:Nat):oneH ⟨2,o,t,n,f,x,p⟩ l=(nameB x && (zeB o t n f ⟨#[]⟩ && ((l:Int) == 0))):=by
 simp only [oneH,alike,nm,fitB,zeB,liR,empt,numB]
 rw [Bool.eq_iff_iff]
 simp
 constructor <;> intro h <;> simp_all <;> omega
theorem oneE_3 (o t n f:Int) (x:ByteArray) (p:Int) (l:Nat):oneH ⟨3,o,t,n,f,x,p⟩ l=((decide (1≤f) && decide (f≤6)) && (zeB o t n 0 x && ((l:Int) == 0))):=by
 simp only [oneH,alike,nm,fitB,zeB,liR,empt,numB]
 rw [Bool.eq_iff_iff]
 simp
 constructor <;> intro h <;> simp_all <;> omega
theorem oneE_4 (o t n f:Int) (x:ByteArray) (p:Int) (l:Nat):oneH ⟨4,o,t,n,f,x,p⟩ l=((decide (1≤f) && decide (f≤3)) && (zeB o t n 0 x && ((l:Int) == 0))):=by
 simp only [oneH,alike,nm,fitB,zeB,liR,empt,numB]
 rw [Bool.eq_iff_iff]
 simp
 constructor <;> intro h <;> simp_all <;> omega
theorem oneE_5 (o t n f:Int) (x:ByteArray) (p:Int) (l:Nat):oneH ⟨5,o,t,n,f,x,p⟩ l=(((o == 1) || (o == 2)) && (zeB 0 t n f x && ((l:Int) == 1))):=by
 simp only [oneH,alike,nm,fitB,zeB,liR,empt,numB]
 rw [Bool.eq_iff_iff]
 simp
 constructor <;> intro h <;> simp_all <;> omega
theorem oneE_6 (o t n f:Int) (x:ByteArray) (p:Int) (l:Nat):oneH ⟨6,o,t,n,f,x,p⟩ l=((decide (6≤o) && decide (o≤18)) && (zeB 0 t n f x && ((l:Int) == 2))):=by
 simp only [oneH,alike,nm,fitB,zeB,liR,empt,numB]
 rw [Bool.eq_iff_iff]
 simp
 constructor <;> intro h <;> simp_all <;> omega
theorem oneE_7 (o t n f:Int) (x:ByteArray) (p:Int) (l:Nat):oneH ⟨7,o,t,n,f,x,p⟩ l=(zeB o t n f x && ((l:Int) == 3)):=by
 simp only [oneH,alike,nm,fitB,zeB,liR,empt,numB]
 rw [Bool.eq_iff_iff]
 simp
 intro h1 h2 h3 h4 h5
 omega
theorem oneE_9 (o t n f:Int) (x:ByteArray) (p:Int) (l:Nat):oneH ⟨9,o,t,n,f,x,p⟩ l=((decide (1≤t) && decide (t≤4)) && (zeB o 0 n f x && ((l:Int) == 1))):=by
 simp only [oneH,alike,nm,fitB,zeB,liR,empt,numB]
 rw [Bool.eq_iff_iff]
 simp
 constructor <;> intro h <;> simp_all <;> omega
theorem oneE_8a (t n f:Int) (x:ByteArray) (p:Int) (l:Nat):oneH ⟨8,3,t,n,f,x,p⟩ l=(zeB 0 t n f x && ((l:Int) == 1)):=by
 simp only [oneH,alike,nm,fitB,zeB,empt]
 rw [Bool.eq_iff_iff]
 simp
 intro h1 h2 h3 h4
 omega
theorem oneE_8b (o t n f:Int) (x:ByteArray) (p:Int) (l:Nat) (h3:(o == 3)=false):oneH ⟨8,o,t,n,f,x,p⟩ l=((decide (3≤o) && decide (o≤5)) && (zeB 0 t n f x && ((l:Int) == 2))):=by
 have h3':¬ o=3:=by simpa using h3
 simp only [oneH,alike,nm,fitB,zeB,empt]
 rw [Bool.eq_iff_iff]
 simp
 constructor <;> intro h <;> simp_all <;> omega
set_option maxRecDepth 100000 in
set_option maxHeartbeats 4000000 in
theorem one_3 (o t n f:Int) (x:ByteArray) (a:Option Addr) (l c:Nat) (p:Int) (w:World):Calls zG 120 #[.agg #[zU 3,zU o,zU t,zI n,zU f,.string x,.slice a l c,zI p]] w fun e w'=>e=.returned (.bool (oneH ⟨3,o,t,n,f,x,p⟩ l))∧Below w§ w w':=by
 cases f1:(decide (1≤f)) with
 | false =>
  have HE:Hid (oneH ⟨3,o,t,n,f,x,p⟩ l=false):=by show _=_; rw [oneE_3]; simp [f1]
  go_enter Tryz.func120,Tryz.ntmps120
  go_wp2_with fail
  go_ret
  exact⟨by rw [HE.out]; rfl,below_new _ _⟩
 | true =>
  cases f6:(decide (f≤6)) with
  | false =>
   have HE:Hid (oneH ⟨3,o,t,n,f,x,p⟩ l=false):=by show _=_; rw [oneE_3]; simp [f1,f6]
   go_enter Tryz.func120,Tryz.ntmps120
   go_wp2_with fail
   go_ret
   exact⟨by rw [HE.out]; rfl,below_new _ _⟩
  | true =>
   go_enter Tryz.func120,Tryz.ntmps120
   go_wp2_with fail
   refine (zero_any _ _ _ _ _ _ _ _ _ _ _).mono ?_
   rintro e w5 ⟨rfl,hb5⟩
   have HB5:Hid (Below w§ w w5):=below2 (below_new _ _) hb5
   have g6:w5.cell? ⟨w§,6,none⟩=some (.slice a l c):=cell_of ((hb5.block _ (Array.getElem?_eq_some_iff.1 (heap_new _ _)).1).trans (heap_new _ _)) 6
   clear hb5
   cases hz:(zeB o t n 0 x) with
   | false =>
    have HE:Hid (oneH ⟨3,o,t,n,f,x,p⟩ l=false):=by show _=_; rw [oneE_3]; simp [f1,f6,hz]
    go_wp2_with fail
    go_ret
    exact⟨by rw [HE.out]; rfl,HB5.out⟩
   | true =>
    cases hl:((l:Int) == 0) with
    | false =>
     have HE:Hid (oneH ⟨3,o,t,n,f,x,p⟩ l=false):=by show _=_; rw [oneE_3]; simp [f1,f6,hz,hl]
     go_wp2_with fail
     go_ret
     exact⟨by rw [HE.out]; rfl,HB5.out⟩
    | true =>
     have HE:Hid (oneH ⟨3,o,t,n,f,x,p⟩ l=true):=by show _=_; rw [oneE_3]; simp [f1,f6,hz,hl]
     go_wp2_with fail
     go_ret
     exact⟨by rw [HE.out]; rfl,HB5.out⟩
set_option maxRecDepth 100000 in
set_option maxHeartbeats 4000000 in
theorem one_4 (o t n f:Int) (x:ByteArray) (a:Option Addr) (l c:Nat) (p:Int) (w:World):Calls zG 120 #[.agg #[zU 4,zU o,zU t,zI n,zU f,.string x,.slice a l c,zI p]] w fun e w'=>e=.returned (.bool (oneH ⟨4,o,t,n,f,x,p⟩ l))∧Below w§ w w':=by
 cases f1:(decide (1≤f)) with
 | false =>
  have HE:Hid (oneH ⟨4,o,t,n,f,x,p⟩ l=false):=by show _=_; rw [oneE_4]; simp [f1]
  go_enter Tryz.func120,Tryz.ntmps120
  go_wp2_with fail
  go_ret
  exact⟨by rw [HE.out]; rfl,below_new _ _⟩
 | true =>
  cases f6:(decide (f≤3)) with
  | false =>
   have HE:Hid (oneH ⟨4,o,t,n,f,x,p⟩ l=false):=by show _=_; rw [oneE_4]; simp [f1,f6]
   go_enter Tryz.func120,Tryz.ntmps120
   go_wp2_with fail
   go_ret
   exact⟨by rw [HE.out]; rfl,below_new _ _⟩
  | true =>
   go_enter Tryz.func120,Tryz.ntmps120
   go_wp2_with fail
   refine (zero_any _ _ _ _ _ _ _ _ _ _ _).mono ?_
   rintro e w5 ⟨rfl,hb5⟩
   have HB5:Hid (Below w§ w w5):=below2 (below_new _ _) hb5
   have g6:w5.cell? ⟨w§,6,none⟩=some (.slice a l c):=cell_of ((hb5.block _ (Array.getElem?_eq_some_iff.1 (heap_new _ _)).1).trans (heap_new _ _)) 6
   clear hb5
   cases hz:(zeB o t n 0 x) with
   | false =>
    have HE:Hid (oneH ⟨4,o,t,n,f,x,p⟩ l=false):=by show _=_; rw [oneE_4]; simp [f1,f6,hz]
    go_wp2_with fail
    go_ret
    exact⟨by rw [HE.out]; rfl,HB5.out⟩
   | true =>
    cases hl:((l:Int) == 0) with
    | false =>
     have HE:Hid (oneH ⟨4,o,t,n,f,x,p⟩ l=false):=by show _=_; rw [oneE_4]; simp [f1,f6,hz,hl]
     go_wp2_with fail
     go_ret
     exact⟨by rw [HE.out]; rfl,HB5.out⟩
    | true =>
     have HE:Hid (oneH ⟨4,o,t,n,f,x,p⟩ l=true):=by show _=_; rw [oneE_4]; simp [f1,f6,hz,hl]
     go_wp2_with fail
     go_ret
     exact⟨by rw [HE.out]; rfl,HB5.out⟩
set_option maxRecDepth 100000 in
set_option maxHeartbeats 4000000 in
theorem one_5 (o t n f:Int) (x:ByteArray) (a:Option Addr) (l c:Nat) (p:Int) (w:World):Calls zG 120 #[.agg #[zU 5,zU o,zU t,zI n,zU f,.string x,.slice a l c,zI p]] w fun e w'=>e=.returned (.bool (oneH ⟨5,o,t,n,f,x,p⟩ l))∧Below w§ w w':=by
 cases o1:(o == 1) with
 | false =>
  cases o2:(o == 2) with
  | false =>
   have HE:Hid (oneH ⟨5,o,t,n,f,x,p⟩ l=false):=by show _=_; rw [oneE_5]; simp [o1,o2]
   go_enter Tryz.func120,Tryz.ntmps120
   go_wp2_with fail
   go_ret
   exact⟨by rw [HE.out]; rfl,below_new _ _⟩
  | true =>
   go_enter Tryz.func120,Tryz.ntmps120
   go_wp2_with fail
   refine (zero_any _ _ _ _ _ _ _ _ _ _ _).mono ?_
   rintro e w5 ⟨rfl,hb5⟩
   have HB5:Hid (Below w§ w w5):=below2 (below_new _ _) hb5
   have g6:w5.cell? ⟨w§,6,none⟩=some (.slice a l c):=cell_of ((hb5.block _ (Array.getElem?_eq_some_iff.1 (heap_new _ _)).1).trans (heap_new _ _)) 6
   clear hb5
   cases hz:(zeB 0 t n f x) with
   | false =>
    have HE:Hid (oneH ⟨5,o,t,n,f,x,p⟩ l=false):=by show _=_; rw [oneE_5]; simp [o1,o2,hz]
    go_wp2_with fail
    go_ret
    exact⟨by rw [HE.out]; rfl,HB5.out⟩
   | true =>
    cases hl:((l:Int) == 1) with
    | false =>
     have HE:Hid (oneH ⟨5,o,t,n,f,x,p⟩ l=false):=by show _=_; rw [oneE_5]; simp [o1,o2,hz,hl]
     go_wp2_with fail
     go_ret
     exact⟨by rw [HE.out]; rfl,HB5.out⟩
    | true =>
     have HE:Hid (oneH ⟨5,o,t,n,f,x,p⟩ l=true):=by show _=_; rw [oneE_5]; simp [o1,o2,hz,hl]
     go_wp2_with fail
     go_ret
     exact⟨by rw [HE.out]; rfl,HB5.out⟩
 | true =>
  go_enter Tryz.func120,Tryz.ntmps120
  go_wp2_with fail
  refine (zero_any _ _ _ _ _ _ _ _ _ _ _).mono ?_
  rintro e w5 ⟨rfl,hb5⟩
  have HB5:Hid (Below w§ w w5):=below2 (below_new _ _) hb5
  have g6:w5.cell? ⟨w§,6,none⟩=some (.slice a l c):=cell_of ((hb5.block _ (Array.getElem?_eq_some_iff.1 (heap_new _ _)).1).trans (heap_new _ _)) 6
  clear hb5
  cases hz:(zeB 0 t n f x) with
  | false =>
   have HE:Hid (oneH ⟨5,o,t,n,f,x,p⟩ l=false):=by show _=_; rw [oneE_5]; simp [o1,hz]
   go_wp2_with fail
   go_ret
   exact⟨by rw [HE.out]; rfl,HB5.out⟩
  | true =>
   cases hl:((l:Int) == 1) with
   | false =>
    have HE:Hid (oneH ⟨5,o,t,n,f,x,p⟩ l=false):=by show _=_; rw [oneE_5]; simp [o1,hz,hl]
    go_wp2_with fail
    go_ret
    exact⟨by rw [HE.out]; rfl,HB5.out⟩
   | true =>
    have HE:Hid (oneH ⟨5,o,t,n,f,x,p⟩ l=true):=by show _=_; rw [oneE_5]; simp [o1,hz,hl]
    go_wp2_with fail
    go_ret
    exact⟨by rw [HE.out]; rfl,HB5.out⟩
set_option maxRecDepth 100000 in
set_option maxHeartbeats 4000000 in
theorem one_6 (o t n f:Int) (x:ByteArray) (a:Option Addr) (l c:Nat) (p:Int) (w:World):Calls zG 120 #[.agg #[zU 6,zU o,zU t,zI n,zU f,.string x,.slice a l c,zI p]] w fun e w'=>e=.returned (.bool (oneH ⟨6,o,t,n,f,x,p⟩ l))∧Below w§ w w':=by
 cases o1:(decide (6≤o)) with
 | false =>
  have HE:Hid (oneH ⟨6,o,t,n,f,x,p⟩ l=false):=by show _=_; rw [oneE_6]; simp [o1]
  go_enter Tryz.func120,Tryz.ntmps120
  go_wp2_with fail
  go_ret
  exact⟨by rw [HE.out]; rfl,below_new _ _⟩
 | true =>
  cases o2:(decide (o≤18)) with
  | false =>
   have HE:Hid (oneH ⟨6,o,t,n,f,x,p⟩ l=false):=by show _=_; rw [oneE_6]; simp [o1,o2]
   go_enter Tryz.func120,Tryz.ntmps120
   go_wp2_with fail
   go_ret
   exact⟨by rw [HE.out]; rfl,below_new _ _⟩
  | true =>
   go_enter Tryz.func120,Tryz.ntmps120
   go_wp2_with fail
   refine (zero_any _ _ _ _ _ _ _ _ _ _ _).mono ?_
   rintro e w5 ⟨rfl,hb5⟩
   have HB5:Hid (Below w§ w w5):=below2 (below_new _ _) hb5
   have g6:w5.cell? ⟨w§,6,none⟩=some (.slice a l c):=cell_of ((hb5.block _ (Array.getElem?_eq_some_iff.1 (heap_new _ _)).1).trans (heap_new _ _)) 6
   clear hb5
   cases hz:(zeB 0 t n f x) with
   | false =>
    have HE:Hid (oneH ⟨6,o,t,n,f,x,p⟩ l=false):=by show _=_; rw [oneE_6]; simp [o1,o2,hz]
    go_wp2_with fail
    go_ret
    exact⟨by rw [HE.out]; rfl,HB5.out⟩
   | true =>
    cases hl:((l:Int) == 2) with
    | false =>
     have HE:Hid (oneH ⟨6,o,t,n,f,x,p⟩ l=false):=by show _=_; rw [oneE_6]; simp [o1,o2,hz,hl]
     go_wp2_with fail
     go_ret
     exact⟨by rw [HE.out]; rfl,HB5.out⟩
    | true =>
     have HE:Hid (oneH ⟨6,o,t,n,f,x,p⟩ l=true):=by show _=_; rw [oneE_6]; simp [o1,o2,hz,hl]
     go_wp2_with fail
     go_ret
     exact⟨by rw [HE.out]; rfl,HB5.out⟩
set_option maxRecDepth 100000 in
set_option maxHeartbeats 4000000 in
theorem one_7 (o t n f:Int) (x:ByteArray) (a:Option Addr) (l c:Nat) (p:Int) (w:World):Calls zG 120 #[.agg #[zU 7,zU o,zU t,zI n,zU f,.string x,.slice a l c,zI p]] w fun e w'=>e=.returned (.bool (oneH ⟨7,o,t,n,f,x,p⟩ l))∧Below w§ w w':=by
 go_enter Tryz.func120,Tryz.ntmps120
 go_wp2_with fail
 refine (zero_any _ _ _ _ _ _ _ _ _ _ _).mono ?_
 rintro e w5 ⟨rfl,hb5⟩
 have HB5:Hid (Below w§ w w5):=below2 (below_new _ _) hb5
 have g6:w5.cell? ⟨w§,6,none⟩=some (.slice a l c):=cell_of ((hb5.block _ (Array.getElem?_eq_some_iff.1 (heap_new _ _)).1).trans (heap_new _ _)) 6
 clear hb5
 cases hz:(zeB o t n f x) with
 | false =>
  have HE:Hid (oneH ⟨7,o,t,n,f,x,p⟩ l=false):=by show _=_; rw [oneE_7]; simp [hz]
  go_wp2_with fail
  go_ret
  exact⟨by rw [HE.out]; rfl,HB5.out⟩
 | true =>
  cases hl:((l:Int) == 3) with
  | false =>
   have HE:Hid (oneH ⟨7,o,t,n,f,x,p⟩ l=false):=by show _=_; rw [oneE_7]; simp [hz,hl]
   go_wp2_with fail
   go_ret
   exact⟨by rw [HE.out]; rfl,HB5.out⟩
  | true =>
   have HE:Hid (oneH ⟨7,o,t,n,f,x,p⟩ l=true):=by show _=_; rw [oneE_7]; simp [hz,hl]
   go_wp2_with fail
   go_ret
   exact⟨by rw [HE.out]; rfl,HB5.out⟩
set_option maxRecDepth 100000 in
set_option maxHeartbeats 4000000 in
theorem one_9 (o t n f:Int) (x:ByteArray) (a:Option Addr) (l c:Nat) (p:Int) (w:World):Calls zG 120 #[.agg #[zU 9,zU o,zU t,zI n,zU f,.string x,.slice a l c,zI p]] w fun e w'=>e=.returned (.bool (oneH ⟨9,o,t,n,f,x,p⟩ l))∧Below w§ w w':=by
 cases t1:(decide (1≤t)) with
 | false =>
  have HE:Hid (oneH ⟨9,o,t,n,f,x,p⟩ l=false):=by show _=_; rw [oneE_9]; simp [t1]
  go_enter Tryz.func120,Tryz.ntmps120
  go_wp2_with fail
  go_ret
  exact⟨by rw [HE.out]; rfl,below_new _ _⟩
 | true =>
  cases t4:(decide (t≤4)) with
  | false =>
   have HE:Hid (oneH ⟨9,o,t,n,f,x,p⟩ l=false):=by show _=_; rw [oneE_9]; simp [t1,t4]
   go_enter Tryz.func120,Tryz.ntmps120
   go_wp2_with fail
   go_ret
   exact⟨by rw [HE.out]; rfl,below_new _ _⟩
  | true =>
   go_enter Tryz.func120,Tryz.ntmps120
   go_wp2_with fail
   refine (zero_any _ _ _ _ _ _ _ _ _ _ _).mono ?_
   rintro e w5 ⟨rfl,hb5⟩
   have HB5:Hid (Below w§ w w5):=below2 (below_new _ _) hb5
   have g6:w5.cell? ⟨w§,6,none⟩=some (.slice a l c):=cell_of ((hb5.block _ (Array.getElem?_eq_some_iff.1 (heap_new _ _)).1).trans (heap_new _ _)) 6
   clear hb5
   cases hz:(zeB o 0 n f x) with
   | false =>
    have HE:Hid (oneH ⟨9,o,t,n,f,x,p⟩ l=false):=by show _=_; rw [oneE_9]; simp [t1,t4,hz]
    go_wp2_with fail
    go_ret
    exact⟨by rw [HE.out]; rfl,HB5.out⟩
   | true =>
    cases hl:((l:Int) == 1) with
    | false =>
     have HE:Hid (oneH ⟨9,o,t,n,f,x,p⟩ l=false):=by show _=_; rw [oneE_9]; simp [t1,t4,hz,hl]
     go_wp2_with fail
     go_ret
     exact⟨by rw [HE.out]; rfl,HB5.out⟩
    | true =>
     have HE:Hid (oneH ⟨9,o,t,n,f,x,p⟩ l=true):=by show _=_; rw [oneE_9]; simp [t1,t4,hz,hl]
     go_wp2_with fail
     go_ret
     exact⟨by rw [HE.out]; rfl,HB5.out⟩
set_option maxRecDepth 100000 in
set_option maxHeartbeats 4000000 in
theorem one_8a (t n f:Int) (x:ByteArray) (a:Option Addr) (l c:Nat) (p:Int) (w:World):Calls zG 120 #[.agg #[zU 8,zU 3,zU t,zI n,zU f,.string x,.slice a l c,zI p]] w fun e w'=>e=.returned (.bool (oneH ⟨8,3,t,n,f,x,p⟩ l))∧Below w§ w w':=by
 go_enter Tryz.func120,Tryz.ntmps120
 go_wp2_with fail
 refine (zero_any _ _ _ _ _ _ _ _ _ _ _).mono ?_
 rintro e w5 ⟨rfl,hb5⟩
 have HB5:Hid (Below w§ w w5):=below2 (below_new _ _) hb5
 have g6:w5.cell? ⟨w§,6,none⟩=some (.slice a l c):=cell_of ((hb5.block _ (Array.getElem?_eq_some_iff.1 (heap_new _ _)).1).trans (heap_new _ _)) 6
 clear hb5
 cases hz:(zeB 0 t n f x) with
 | false =>
  have HE:Hid (oneH ⟨8,3,t,n,f,x,p⟩ l=false):=by show _=_; rw [oneE_8a]; simp [hz]
  go_wp2_with fail
  go_ret
  exact⟨by rw [HE.out]; rfl,HB5.out⟩
 | true =>
  cases hl:((l:Int) == 1) with
  | false =>
   have HE:Hid (oneH ⟨8,3,t,n,f,x,p⟩ l=false):=by show _=_; rw [oneE_8a]; simp [hz,hl]
   go_wp2_with fail
   go_ret
   exact⟨by rw [HE.out]; rfl,HB5.out⟩
  | true =>
   have HE:Hid (oneH ⟨8,3,t,n,f,x,p⟩ l=true):=by show _=_; rw [oneE_8a]; simp [hz,hl]
   go_wp2_with fail
   go_ret
   exact⟨by rw [HE.out]; rfl,HB5.out⟩
set_option maxRecDepth 100000 in
set_option maxHeartbeats 4000000 in
theorem one_8b (o t n f:Int) (x:ByteArray) (a:Option Addr) (l c:Nat) (p:Int) (w:World) (o3:(o == 3)=false):Calls zG 120 #[.agg #[zU 8,zU o,zU t,zI n,zU f,.string x,.slice a l c,zI p]] w fun e w'=>e=.returned (.bool (oneH ⟨8,o,t,n,f,x,p⟩ l))∧Below w§ w w':=by
 cases o1:(decide (3≤o)) with
 | false =>
  have HE:Hid (oneH ⟨8,o,t,n,f,x,p⟩ l=false):=by show _=_; rw [oneE_8b _ _ _ _ _ _ _ o3]; simp [o1]
  go_enter Tryz.func120,Tryz.ntmps120
  go_wp2_with fail
  go_ret
  exact⟨by rw [HE.out]; rfl,below_new _ _⟩
 | true =>
  cases o2:(decide (o≤5)) with
  | false =>
   have HE:Hid (oneH ⟨8,o,t,n,f,x,p⟩ l=false):=by show _=_; rw [oneE_8b _ _ _ _ _ _ _ o3]; simp [o1,o2]
   go_enter Tryz.func120,Tryz.ntmps120
   go_wp2_with fail
   go_ret
   exact⟨by rw [HE.out]; rfl,below_new _ _⟩
  | true =>
   go_enter Tryz.func120,Tryz.ntmps120
   go_wp2_with fail
   refine (zero_any _ _ _ _ _ _ _ _ _ _ _).mono ?_
   rintro e w5 ⟨rfl,hb5⟩
   have HB5:Hid (Below w§ w w5):=below2 (below_new _ _) hb5
   have g6:w5.cell? ⟨w§,6,none⟩=some (.slice a l c):=cell_of ((hb5.block _ (Array.getElem?_eq_some_iff.1 (heap_new _ _)).1).trans (heap_new _ _)) 6
   clear hb5
   cases hz:(zeB 0 t n f x) with
   | false =>
    have HE:Hid (oneH ⟨8,o,t,n,f,x,p⟩ l=false):=by show _=_; rw [oneE_8b _ _ _ _ _ _ _ o3]; simp [o1,o2,hz]
    go_wp2_with fail
    go_ret
    exact⟨by rw [HE.out]; rfl,HB5.out⟩
   | true =>
    cases hl:((l:Int) == 2) with
    | false =>
     have HE:Hid (oneH ⟨8,o,t,n,f,x,p⟩ l=false):=by show _=_; rw [oneE_8b _ _ _ _ _ _ _ o3]; simp [o1,o2,hz,hl]
     go_wp2_with fail
     go_ret
     exact⟨by rw [HE.out]; rfl,HB5.out⟩
    | true =>
     have HE:Hid (oneH ⟨8,o,t,n,f,x,p⟩ l=true):=by show _=_; rw [oneE_8b _ _ _ _ _ _ _ o3]; simp [o1,o2,hz,hl]
     go_wp2_with fail
     go_ret
     exact⟨by rw [HE.out]; rfl,HB5.out⟩
set_option maxRecDepth 100000 in
theorem one_1 (o t n f:Int) (x:ByteArray) (a:Option Addr) (l c:Nat) (p:Int) (w:World):Calls zG 120 #[.agg #[zU 1,zU o,zU t,zI n,zU f,.string x,.slice a l c,zI p]] w fun e w'=>e=.returned (.bool (oneH ⟨1,o,t,n,f,x,p⟩ l))∧Below w§ w w':=by
 have HE:Hid (oneH ⟨1,o,t,n,f,x,p⟩ l=liR o t n f x l):=oneE_1 ..
 go_enter Tryz.func120,Tryz.ntmps120
 go_wp2_with fail
 refine (literal_any _ _ _ _ _ _ _ _ _ _ _).mono ?_
 rintro e w5 ⟨rfl,hb5⟩
 have HB5:Hid (Below w§ w w5):=below2 (below_new _ _) hb5
 clear hb5
 go_wp2_with fail
 go_ret
 exact⟨by rw [HE.out]; rfl,HB5.out⟩
set_option maxRecDepth 100000 in
set_option maxHeartbeats 4000000 in
theorem one_2 (o t n f:Int) (x:ByteArray) (a:Option Addr) (l c:Nat) (p:Int) (w:World) (hx:x.size≤140737488355328):Calls zG 120 #[.agg #[zU 2,zU o,zU t,zI n,zU f,.string x,.slice a l c,zI p]] w fun e w'=>e=.returned (.bool (oneH ⟨2,o,t,n,f,x,p⟩ l))∧Below w§ w w':=by
 have hn1:=heap_new w (.cells #[zU 2,zU o,zU t,zI n,zU f,.string x,.slice a l c,zI p] 48)
 have hb1:=below_new w (.cells #[zU 2,zU o,zU t,zI n,zU f,.string x,.slice a l c,zI p] 48)
 obtain⟨W1,e1⟩:∃ W,w.alloc (.cells #[zU 2,zU o,zU t,zI n,zU f,.string x,.slice a l c,zI p] 48)=W:=⟨_,rfl⟩
 have E1:Hid (w.alloc (.cells #[zU 2,zU o,zU t,zI n,zU f,.string x,.slice a l c,zI p] 48)=W1):=e1
 rw [e1] at hn1 hb1
 have HN:Hid (W1.heap[w§]? = some (.cells #[zU 2,zU o,zU t,zI n,zU f,.string x,.slice a l c,zI p] 48 (0,0))∧Below w§ w W1):=⟨hn1,hb1⟩
 have c0:W1.cell? ⟨w§,0,none⟩=some (zU 2):=cell_of hn1 0
 have c5:W1.cell? ⟨w§,5,none⟩=some (.string x):=cell_of hn1 5
 have cN:=rf_name_any x hx W1
 clear hn1 hb1 e1
 go_enter Tryz.func120,Tryz.ntmps120
 go_upto_region 1 with fail
 rw [E1.out]
 clear E1
 go_wp2_with fail
 refine cN.mono ?_
 rintro e w2 ⟨rfl,hb2⟩
 have g:=(hb2.block _ (Array.getElem?_eq_some_iff.1 HN.out.1).1).trans HN.out.1
 have HB2:Hid (Below w§ w w2):=below2 HN.out.2 hb2
 have d5:w2.cell? ⟨w§,5,none⟩=some (.string x):=cell_of g 5
 have f5:w2.frozen? ⟨w§,5,none⟩=false:=frozen_of g 5
 have u:=heap_setCell_same w2 w§ 5 _ _ (.string ⟨#[]⟩) g
 have HU:Hid ((w2.setCell ⟨w§,5,none⟩ (.string ⟨#[]⟩)).heap[w§]? = some (.cells #[zU 2,zU o,zU t,zI n,zU f,.string ⟨#[]⟩,.slice a l c,zI p] 48 (0,0))∧Below w§ w (w2.setCell ⟨w§,5,none⟩ (.string ⟨#[]⟩))):=⟨u,HB2.out.setCell (Nat.le_refl _) _⟩
 clear u g hb2 cN c0 c5
 go_upto_region 36 with fail
 generalize w2.setCell ⟨w§,5,none⟩ (.string ⟨#[]⟩)=U at HU ⊢
 clear d5 f5
 cases hn:nameB x with
 | false =>
  have HE:Hid (oneH ⟨2,o,t,n,f,x,p⟩ l=false):=by show _=_; rw [oneE_2]; simp [hn]
  clear hn
  go_wp2_with fail
  go_ret
  exact⟨by rw [HE.out]; rfl,HU.out.2⟩
 | true =>
  have q0:U.cell? ⟨w§,0,none⟩=some (zU 2):=cell_of HU.out.1 0
  have q1:U.cell? ⟨w§,1,none⟩=some (zU o):=cell_of HU.out.1 1
  have q2:U.cell? ⟨w§,2,none⟩=some (zU t):=cell_of HU.out.1 2
  have q3:U.cell? ⟨w§,3,none⟩=some (zI n):=cell_of HU.out.1 3
  have q4:U.cell? ⟨w§,4,none⟩=some (zU f):=cell_of HU.out.1 4
  have q5:U.cell? ⟨w§,5,none⟩=some (.string ⟨#[]⟩):=cell_of HU.out.1 5
  have q6:U.cell? ⟨w§,6,none⟩=some (.slice a l c):=cell_of HU.out.1 6
  have q7:U.cell? ⟨w§,7,none⟩=some (zI p):=cell_of HU.out.1 7
  go_wp2_with fail
  refine (zero_any _ _ _ _ _ _ _ _ _ _ _).mono ?_
  rintro e w5 ⟨rfl,hb5⟩
  have HB5:Hid (Below w§ w w5):=below2 HU.out.2 hb5
  have g6:w5.cell? ⟨w§,6,none⟩=some (.slice a l c):=cell_of ((hb5.block _ (Array.getElem?_eq_some_iff.1 HU.out.1).1).trans HU.out.1) 6
  clear hb5 q0 q1 q2 q3 q4 q5 q6 q7
  cases hz:(zeB o t n f ⟨#[]⟩) with
  | false =>
   have HE:Hid (oneH ⟨2,o,t,n,f,x,p⟩ l=false):=by show _=_; rw [oneE_2]; simp [hz]
   go_wp2_with fail
   go_ret
   exact⟨by rw [HE.out]; rfl,HB5.out⟩
  | true =>
   cases hl:((l:Int) == 0) with
   | false =>
    have HE:Hid (oneH ⟨2,o,t,n,f,x,p⟩ l=false):=by show _=_; rw [oneE_2]; simp [hz,hl]
    go_wp2_with fail
    go_ret
    exact⟨by rw [HE.out]; rfl,HB5.out⟩
   | true =>
    have HE:Hid (oneH ⟨2,o,t,n,f,x,p⟩ l=true):=by show _=_; rw [oneE_2]; simp [hn,hz,hl]
    go_wp2_with fail
    go_ret
    exact⟨by rw [HE.out]; rfl,HB5.out⟩
theorem oneE_n (k o t n f:Int) (x:ByteArray) (p:Int) (l:Nat) (h1:¬ k=1) (h2:¬ k=2) (h3:¬ k=3) (h4:¬ k=4) (h5:¬ k=5) (h6:¬ k=6) (h7:¬ k=7) (h8:¬ k=8) (h9:¬ k=9):oneH ⟨k,o,t,n,f,x,p⟩ l=false:=by
 simp [oneH,fitB,h1,h2,h3,h4,h5,h6,h7,h8,h9]
set_option maxRecDepth 100000 in
theorem one_n (k:Int) (o t n f:Int) (x:ByteArray) (a:Option Addr) (l c:Nat) (p:Int) (w:World) (h1:¬ k=1) (h2:¬ k=2) (h3:¬ k=3) (h4:¬ k=4) (h5:¬ k=5) (h6:¬ k=6) (h7:¬ k=7) (h8:¬ k=8) (h9:¬ k=9):Calls zG 120 #[.agg #[zU k,zU o,zU t,zI n,zU f,.string x,.slice a l c,zI p]] w fun e w'=>e=.returned (.bool (oneH ⟨k,o,t,n,f,x,p⟩ l))∧Below w§ w w':=by
 have HE:Hid (oneH ⟨k,o,t,n,f,x,p⟩ l=false):=oneE_n _ _ _ _ _ _ _ _ h1 h2 h3 h4 h5 h6 h7 h8 h9
 have e1:(k == 1)=false:=by simpa using h1
 have e2:(k == 2)=false:=by simpa using h2
 have e3:(k == 3)=false:=by simpa using h3
 have e4:(k == 4)=false:=by simpa using h4
 have e5:(k == 5)=false:=by simpa using h5
 have e6:(k == 6)=false:=by simpa using h6
 have e7:(k == 7)=false:=by simpa using h7
 have e8:(k == 8)=false:=by simpa using h8
 have e9:(k == 9)=false:=by simpa using h9
 clear h1 h2 h3 h4 h5 h6 h7 h8 h9
 go_enter Tryz.func120,Tryz.ntmps120
 go_wp2_with fail
 go_ret
 exact⟨by rw [HE.out]; rfl,below_new _ _⟩
theorem rone_any (h:Hd) (a:Option Addr) (l c:Nat) (w:World) (hx:h.x.size≤140737488355328):Calls zG 120 #[.agg #[zU h.k,zU h.o,zU h.t,zI h.n,zU h.f,.string h.x,.slice a l c,zI h.p]] w fun e w'=>e=.returned (.bool (oneH h l))∧Below w§ w w':=by
 obtain⟨k,o,t,n,f,x,p⟩:=h
 by_cases h1:k=1
 ·subst h1; exact one_1 o t n f x a l c p w
 by_cases h2:k=2
 ·subst h2; exact one_2 o t n f x a l c p w hx
 by_cases h3:k=3
 ·subst h3; exact one_3 o t n f x a l c p w
 by_cases h4:k=4
 ·subst h4; exact one_4 o t n f x a l c p w
 by_cases h5:k=5
 ·subst h5; exact one_5 o t n f x a l c p w
 by_cases h6:k=6
 ·subst h6; exact one_6 o t n f x a l c p w
 by_cases h7:k=7
 ·subst h7; exact one_7 o t n f x a l c p w
 by_cases h8:k=8
 ·subst h8
  by_cases q3:o=3
  ·subst q3; exact one_8a t n f x a l c p w
  ·exact one_8b o t n f x a l c p w (by simpa using q3)
 by_cases h9:k=9
 ·subst h9; exact one_9 o t n f x a l c p w
 ·exact one_n k o t n f x a l c p w h1 h2 h3 h4 h5 h6 h7 h8 h9
open Go.ChangeShapes Go.WideShapes Go.ChangeAt
theorem mem_all {H:Type}{P:Program}{e:TypeId}:∀ {l:List (DataW H)}{j:Nat}{d:DataW H},l[j]? = some d→∀ n ∈ d.weights P e,n ∈ DataW.weightsAll P e l
 | d0 :: l,0,d,hd,n,hn=>by
  simp only [List.getElem?_cons_zero,Option.some.injEq] at hd
  subst hd
  simp only [DataW.weightsAll,List.mem_append]
  exact Or.inl hn
 | d0 :: l,j+1,d,hd,n,hn=>by
  simp only [List.getElem?_cons_succ] at hd
  simp only [DataW.weightsAll,List.mem_append]
  exact Or.inr (mem_all hd n hn)
 | [],_,_,hd,_,_=>by simp at hd
set_option maxRecDepth 100000 in
theorem nd_open {H:Type}{enc:TypeId × Value→H}{W:World}{held:Bool}:∀ (fuel:Nat) (cs:List Value) (x:DataW H × List MemPlace),DataW.trod enc Tryz.prog W 0 (fun _=>true) held fuel 48 cs=some x →
  (∀ z ∈ x.1.weights Tryz.prog 48,z≤reachBytes)→∃ m:Nd,cs=m.vals.toList∧Lies W m:=by
 intro fuel
 induction fuel using Nat.strongRecOn with
 | _ fuel ih =>
 intro cs x h hz
 obtain⟨xs,k,hk,hx,hlen,hxl,hf⟩:=DataW.trod_struct Tryz.underlying48 h
 rw [show Tryz.prog.cellsOf 48=8 by kernel_rfl] at hlen
 match cs,hlen with
 | [v0,v1,v2,v3,v4,v5,v6,v7],_ =>
  have hx8:xs.length=8:=hxl
  match xs,hx8 with
  | [y0,y1,y2,y3,y4,y5,y6,y7],_ =>
   have g0:DataW.trod enc Tryz.prog W 0 (fun _=>true) held k 42 (([v0,v1,v2,v3,v4,v5,v6,v7].drop 0).take (Tryz.prog.cellsOf 42))=some y0:=hf 0 _ rfl
   have g1:DataW.trod enc Tryz.prog W 0 (fun _=>true) held k 43 (([v0,v1,v2,v3,v4,v5,v6,v7].drop 1).take (Tryz.prog.cellsOf 43))=some y1:=hf 1 _ rfl
   have g2:DataW.trod enc Tryz.prog W 0 (fun _=>true) held k 44 (([v0,v1,v2,v3,v4,v5,v6,v7].drop 2).take (Tryz.prog.cellsOf 44))=some y2:=hf 2 _ rfl
   have g3:DataW.trod enc Tryz.prog W 0 (fun _=>true) held k 2 (([v0,v1,v2,v3,v4,v5,v6,v7].drop 3).take (Tryz.prog.cellsOf 2))=some y3:=hf 3 _ rfl
   have g4:DataW.trod enc Tryz.prog W 0 (fun _=>true) held k 45 (([v0,v1,v2,v3,v4,v5,v6,v7].drop 4).take (Tryz.prog.cellsOf 45))=some y4:=hf 4 _ rfl
   have g5:DataW.trod enc Tryz.prog W 0 (fun _=>true) held k 9 (([v0,v1,v2,v3,v4,v5,v6,v7].drop 5).take (Tryz.prog.cellsOf 9))=some y5:=hf 5 _ rfl
   have g6:DataW.trod enc Tryz.prog W 0 (fun _=>true) held k 46 (([v0,v1,v2,v3,v4,v5,v6,v7].drop 6).take (Tryz.prog.cellsOf 46))=some y6:=hf 6 _ rfl
   have g7:DataW.trod enc Tryz.prog W 0 (fun _=>true) held k 3 (([v0,v1,v2,v3,v4,v5,v6,v7].drop 7).take (Tryz.prog.cellsOf 3))=some y7:=hf 7 _ rfl
   rw [show Tryz.prog.cellsOf 42=1 by kernel_rfl] at g0
   rw [show Tryz.prog.cellsOf 43=1 by kernel_rfl] at g1
   rw [show Tryz.prog.cellsOf 44=1 by kernel_rfl] at g2
   rw [show Tryz.prog.cellsOf 2=1 by kernel_rfl] at g3
   rw [show Tryz.prog.cellsOf 45=1 by kernel_rfl] at g4
   rw [show Tryz.prog.cellsOf 9=1 by kernel_rfl] at g5
   rw [show Tryz.prog.cellsOf 46=1 by kernel_rfl] at g6
   rw [show Tryz.prog.cellsOf 3=1 by kernel_rfl] at g7
   obtain⟨n0,e0,_,w0⟩:=DataW.trod_int (show Tryz.prog.underlying 42=some (.int .u8) by kernel_rfl) (show DataW.trod enc Tryz.prog W 0 (fun _=>true) held k 42 [v0]=some y0 from g0)
   obtain⟨n1,e1,_,w1⟩:=DataW.trod_int (show Tryz.prog.underlying 43=some (.int .u8) by kernel_rfl) (show DataW.trod enc Tryz.prog W 0 (fun _=>true) held k 43 [v1]=some y1 from g1)
   obtain⟨n2,e2,_,w2⟩:=DataW.trod_int (show Tryz.prog.underlying 44=some (.int .u8) by kernel_rfl) (show DataW.trod enc Tryz.prog W 0 (fun _=>true) held k 44 [v2]=some y2 from g2)
   obtain⟨n3,e3,_,w3⟩:=DataW.trod_int (show Tryz.prog.underlying 2=some (.int .i64) by kernel_rfl) (show DataW.trod enc Tryz.prog W 0 (fun _=>true) held k 2 [v3]=some y3 from g3)
   obtain⟨n4,e4,_,w4⟩:=DataW.trod_int (show Tryz.prog.underlying 45=some (.int .u8) by kernel_rfl) (show DataW.trod enc Tryz.prog W 0 (fun _=>true) held k 45 [v4]=some y4 from g4)
   obtain⟨n5,e5,d5,w5⟩:=DataW.trod_string (show Tryz.prog.underlying 9=some .string by kernel_rfl) (show DataW.trod enc Tryz.prog W 0 (fun _=>true) held k 9 [v5]=some y5 from g5)
   obtain⟨n7,e7,_,w7⟩:=DataW.trod_int (show Tryz.prog.underlying 3=some (.int .i64) by kernel_rfl) (show DataW.trod enc Tryz.prog W 0 (fun _=>true) held k 3 [v7]=some y7 from g7)
   cases e0; cases e1; cases e2; cases e3; cases e4; cases e5; cases e7
   have hz':∀ (j:Nat) (t:TypeId) (d:DataW H),[42,43,44,2,45,9,46,3][j]? = some t→([y0,y1,y2,y3,y4,y5,y6,y7].map (·.1))[j]? = some d→∀ z ∈ d.weights Tryz.prog t,z≤reachBytes:=by
    intro j t d h1 h2 z hz1
    refine hz z ?_
    rw [hx]
    have:=DataW.weights_mem_each (P:=Tryz.prog) h1 h2 z hz1
    rw [show (DataW.weights Tryz.prog 48 (.agg ([y0,y1,y2,y3,y4,y5,y6,y7].map (·.1)):DataW H))=DataW.weightsEach Tryz.prog [42,43,44,2,45,9,46,3] ([y0,y1,y2,y3,y4,y5,y6,y7].map (·.1)) by
     rw [DataW.weights,Tryz.underlying48]; rfl]
    exact this
   have hr:Rg ⟨n0,n1,n2,n3,n4,n5,n7⟩:=by
    refine⟨(bounds_u8 w0).1,(bounds_u8 w0).2,(bounds_u8 w1).1,(bounds_u8 w1).2,(bounds_u8 w2).1,(bounds_u8 w2).2,(bounds_i64 w3).1,(bounds_i64 w3).2,(bounds_u8 w4).1,(bounds_u8 w4).2,(bounds_i64 w7).1,(bounds_i64 w7).2,?_⟩
    have:=hz' 5 9 y5.1 rfl rfl n5.size (by rw [d5]; simp [DataW.weights])
    have h2:reachBytes≤140737488355328:=by decide
    exact Nat.le_trans this h2
   rcases DataW.trod_slice Tryz.underlying46 (show DataW.trod enc Tryz.prog W 0 (fun _=>true) held k 46 [v6]=some y6 from g6) with ⟨hcs,_⟩ | ⟨a,len,cap,elems,rest,n,hn,hcs,hx6,hb,hl,hm,hlen',hel,hsp,hns⟩
   ·cases hcs
    exact⟨.mk ⟨n0,n1,n2,n3,n4,n5,n7⟩ none 0 [],rfl,.mk _ _ _ _ hr (Nat.le_refl _) (by decide) (fun i hi=>by simp at hi) (fun k hk=>by cases hk)⟩
   ·cases hcs
    have each:∀ i,i < len→∃ q:Nd,(∀ j,j < 8→W.cell? (a.add (i * 8+j))=q.vals.toList[j]?)∧Lies W q:=by
     intro i hi
     have h1:=hel i hi
     rw [show Tryz.prog.cellsOf 48=8 by kernel_rfl] at h1
     have h2:elems[i]? = some elems[i]:=List.getElem?_eq_getElem (by omega)
     rw [h2] at h1
     obtain⟨cs',h3,h4⟩:=Option.bind_eq_some_iff.1 h1
     obtain⟨q,hq,hlq⟩:=ih n (by omega) cs' elems[i] h4 (fun z hz1=>hz' 6 46 y6.1 rfl rfl z (by
      rw [hx6,DataW.weights,Tryz.underlying46]
      refine List.mem_cons_of_mem _ (List.mem_append_left _ ?_)
      exact mem_all (j:=i) (by simp [h2]) z hz1))
     obtain⟨_,hlen,hcell⟩:=World.cells?_some h3
     refine⟨q,fun j hj=>?_,hlq⟩
     have e0:=hcell j (by omega)
     rw [Go.Deep.add_add] at e0
     rw [e0,hq]
    have:Inhabited Nd:=⟨.mk ⟨0,0,0,0,0,⟨#[]⟩,0⟩ none 0 []⟩
    obtain⟨A,hA⟩:=Go.Deep.choose_lt each
    refine⟨.mk ⟨n0,n1,n2,n3,n4,n5,n7⟩ (some a) cap ((List.range len).map A),by simp [Nd.vals,hdA,Nd.h,Nd.a,Nd.ks,Nd.c],.mk _ _ _ _ hr (by simpa using hl) (by unfold maxLen at hm; omega) (fun i hi=>?_) (fun k hk=>?_)⟩
    ·have hi':i < len:=by simpa using hi
     have g:=(hA i hi').1
     have hc0:=(hA 0 (by omega)).1 0 (by omega)
     obtain⟨b,off,spot⟩:=a
     have hspot:spot=none:=by simpa [Addr.add] using World.cell?_spot hc0
     subst hspot
     refine⟨b,off,rfl,?_⟩
     rw [List.getElem_map,List.getElem_range]
     refine⟨?_,?_,?_,?_,?_,?_,?_,?_⟩
     ·have:=g 0 (by omega); rw [Addr.add_lit] at this; exact this
     ·have:=g 1 (by omega); rw [Addr.add_lit,← Nat.add_assoc] at this; exact this
     ·have:=g 2 (by omega); rw [Addr.add_lit,← Nat.add_assoc] at this; exact this
     ·have:=g 3 (by omega); rw [Addr.add_lit,← Nat.add_assoc] at this; exact this
     ·have:=g 4 (by omega); rw [Addr.add_lit,← Nat.add_assoc] at this; exact this
     ·have:=g 5 (by omega); rw [Addr.add_lit,← Nat.add_assoc] at this; exact this
     ·have:=g 6 (by omega); rw [Addr.add_lit,← Nat.add_assoc] at this; exact this
     ·have:=g 7 (by omega); rw [Addr.add_lit,← Nat.add_assoc] at this; exact this
    ·obtain⟨i,hi,rfl⟩:=List.mem_map.1 hk
     exact (hA i (List.mem_range.1 hi)).2
theorem nd_in {H:Type}{enc:TypeId × Value→H}{W:World}{held:Bool}{fuel:Nat}{cs:Array Value}{x:DataW H × List MemPlace}
  (h:DataW.trod enc Tryz.prog W 0 (fun _=>true) held fuel 48 (Value.agg cs).cells.toList=some x) (hz:∀ z ∈ x.1.weights Tryz.prog 48,z≤reachBytes):∃ m:Nd,cs=m.vals∧Lies W m:=by
 obtain⟨m,hm,hl⟩:=nd_open fuel _ x h hz
 exact⟨m,Array.toList_inj.1 hm,hl⟩
set_option maxRecDepth 100000 in
set_option maxHeartbeats 4000000 in
theorem formed_any:∀ (m:Nd) (w:World),Lies w m→Calls zG 83 #[.agg m.vals] w fun e w'=>e=.returned (.bool (formB m))∧Below w§ w w':=by
 refine Nd.ind fun h a c ks ih w hl=>?_
 have HI:Hid (∀ k ∈ ks,∀ (w:World),Lies w k→Calls zG 83 #[.agg k.vals] w fun e w'=>e=.returned (.bool (formB k))∧Below w§ w w'):=ih
 have HL:Hid (Lies w (.mk h a c ks)):=hl
 have hb1:=below_new w (.cells #[zU h.k,zU h.o,zU h.t,zI h.n,zU h.f,.string h.x,.slice a ks.length c,zI h.p] 48)
 have hn1:=heap_new w (.cells #[zU h.k,zU h.o,zU h.t,zI h.n,zU h.f,.string h.x,.slice a ks.length c,zI h.p] 48)
 obtain⟨W1,e1⟩:∃ W,w.alloc (.cells #[zU h.k,zU h.o,zU h.t,zI h.n,zU h.f,.string h.x,.slice a ks.length c,zI h.p] 48)=W:=⟨_,rfl⟩
 have E1:Hid (w.alloc (.cells #[zU h.k,zU h.o,zU h.t,zI h.n,zU h.f,.string h.x,.slice a ks.length c,zI h.p] 48)=W1):=e1
 rw [e1] at hb1 hn1
 have HB1:Hid (Below w§ w W1):=hb1
 have HN1:Hid (W1.heap[w§]? = some (.cells #[zU h.k,zU h.o,zU h.t,zI h.n,zU h.f,.string h.x,.slice a ks.length c,zI h.p] 48 (0,0))):=hn1
 have HCP:Hid (ks.length≤9223372036854775807):=by have h1:=hl.cap; have h2:=hl.max; simp only [Nd.ks,Nd.c] at h1 h2; show _≤_; omega
 have c1:=rone_any h a ks.length c W1 (by have:=hl.rg.x1; exact this)
 have HF:Hid (formB (.mk h a c ks)=(oneH h ks.length && formsB ks)):=by show _=_; rw [formB]
 have q0:W1.cell? ⟨w§,0,none⟩=some (zU h.k):=cell_of hn1 0
 have q1:W1.cell? ⟨w§,1,none⟩=some (zU h.o):=cell_of hn1 1
 have q2:W1.cell? ⟨w§,2,none⟩=some (zU h.t):=cell_of hn1 2
 have q3:W1.cell? ⟨w§,3,none⟩=some (zI h.n):=cell_of hn1 3
 have q4:W1.cell? ⟨w§,4,none⟩=some (zU h.f):=cell_of hn1 4
 have q5:W1.cell? ⟨w§,5,none⟩=some (.string h.x):=cell_of hn1 5
 have q6:W1.cell? ⟨w§,6,none⟩=some (.slice a ks.length c):=cell_of hn1 6
 have q7:W1.cell? ⟨w§,7,none⟩=some (zI h.p):=cell_of hn1 7
 obtain⟨FB,eFB⟩:∃ b,formB (.mk h a c ks)=b:=⟨_,rfl⟩
 rw [eFB] at HF ⊢
 obtain⟨B0,eB0⟩:∃ b,oneH h ks.length=b:=⟨_,rfl⟩
 rw [eB0] at c1 HF
 clear hb1 hn1 e1 ih hl eFB eB0
 show Calls zG 83 #[.agg #[zU h.k,zU h.o,zU h.t,zI h.n,zU h.f,.string h.x,.slice a ks.length c,zI h.p]] w _
 go_enter Tryz.func83,Tryz.ntmps83
 go_upto_region 1 with fail
 rw [E1.out]
 clear E1
 go_wp2_with fail
 refine c1.mono ?_
 rintro e w2 ⟨rfl,hb2⟩
 have HB2:Hid (Below w§ w w2∧w2.heap[w§]? = some (.cells #[zU h.k,zU h.o,zU h.t,zI h.n,zU h.f,.string h.x,.slice a ks.length c,zI h.p] 48 (0,0))):=⟨below2 HB1.out hb2,(hb2.block _ (Array.getElem?_eq_some_iff.1 HN1.out).1).trans HN1.out⟩
 clear c1 hb2 q0 q1 q2 q3 q4 q5 q6 q7 HB1 HN1
 go_wp2_with fail
 go_loopw [3,4] (fun f t wr=>∃ (i:Nat) (B:Bool),i≤ks.length∧t=zI i∧f=.bool B∧Hid (Below w§ w wr)∧Hid (wr.heap[w§]? = some (.cells #[zU h.k,zU h.o,zU h.t,zI h.n,zU h.f,.string h.x,.slice a ks.length c,zI h.p] 48 (0,0)))∧Hid (FB=(B && formsB (ks.drop i)))) (fun _ t _=>ks.length - (intOf t).toNat)
 case atStart=>exact⟨0,B0,by omega,rfl,rfl,HB2.out.1,HB2.out.2,HF⟩
 case round =>
  obtain⟨i,B,hi,rfl,rfl,HBR,HNR,HR⟩:=hrel
  have x6:wr.cell? ⟨w§,6,none⟩=some (.slice a ks.length c):=cell_of HNR.out 6
  by_cases hlt:i < ks.length
  ·have hlt':(i:Int) < (ks.length:Int):=by omega
   cases B with
   | false =>
    have HZ:Hid (FB=false):=by show _=_; rw [HR.out]; rfl
    clear HR
    go_wp2_with fail
    go_ret
    exact⟨by rw [HZ.out]; rfl,HBR.out⟩
   | true =>
    have hmx:(i:Int)+1≤9223372036854775807:=by have:=HCP.out; omega
    obtain⟨b,o,e,hat⟩:=(HL.out.on HBR.out).kid i hlt
    have e2:a=some ⟨b,o,none⟩:=e
    clear e
    subst e2
    have HMEM:Hid (ks[i] ∈ ks):=List.getElem_mem hlt
    have HD:Hid (FB=(formB ks[i] && formsB (ks.drop (i+1)))):=by show _=_; rw [HR.out,List.drop_eq_getElem_cons hlt]; rfl
    obtain⟨k,ek⟩:∃ k,ks[i]=k:=⟨_,rfl⟩
    have hat2:NdAt wr b (o+i * 8) k:=by rw [← ek]; exact hat
    rw [ek] at HD HMEM
    obtain⟨z0,z1,z2,z3,z4,z5,z6,z7⟩:=hat2
    have cI:Calls zG 83 #[.agg #[zU k.h.k,zU k.h.o,zU k.h.t,zI k.h.n,zU k.h.f,.string k.h.x,.slice k.a k.ks.length k.c,zI k.h.p]] wr fun e w'=>e=.returned (.bool (formB k))∧Below wr§ wr w':=HI.out k HMEM.out wr ((HL.out.on HBR.out).sub k HMEM.out)
    clear ek hat HR
    go_wp2_with fail
    refine cI.mono ?_
    rintro e w5 ⟨rfl,hb5⟩
    have HB5:Hid (Below w§ w w5):=below2 HBR.out hb5
    have HN5:Hid (w5.heap[w§]? = some (.cells #[zU h.k,zU h.o,zU h.t,zI h.n,zU h.f,.string h.x,.slice (some ⟨b,o,none⟩) ks.length c,zI h.p] 48 (0,0))):=(hb5.block _ (Array.getElem?_eq_some_iff.1 HNR.out).1).trans HNR.out
    clear cI hb5 z0 z1 z2 z3 z4 z5 z6 z7 x6
    go_wp2_with fail
    exact⟨⟨i+1,formB k,hlt,rfl,rfl,HB5,HN5,HD⟩,by simp only [intOf]; omega⟩
  ·obtain rfl:i=ks.length:=by omega
   have hnot:¬ (ks.length:Int) < (ks.length:Int):=by omega
   have HZ:Hid (FB=B):=by show _=_; rw [HR.out,List.drop_length]; cases B <;> rfl
   clear HR
   go_wp2_with fail
   go_ret
   exact⟨by rw [HZ.out]; rfl,HBR.out⟩
set_option maxRecDepth 100000 in
theorem rcheckX_any (m:Nd) (w:World) (hl:Lies w m) (hz:size m≤1000000000000):Calls zG 44 #[.agg m.vals] w fun e w'=>e=.returned (zI (cE m))∧Below w§ w w':=by
 have c:=formed_any m (w.alloc (.cells m.vals 48)) (hl.on (below_new w _))
 have c2:=fun (f:formB m=true) v (hv:Below w§ w v)=>rdepth_any m v (hl.on hv) hz f
 clear hl hz
 unfold cE
 obtain⟨B,eB⟩:∃ B,formB m=B:=⟨_,rfl⟩
 rw [eB] at c c2 ⊢
 clear eB
 obtain⟨D,eD⟩:∃ D,dep m=D:=⟨_,rfl⟩
 rw [eD] at c2 ⊢
 clear eD
 simp only [Nd.vals,hdA] at c c2 ⊢
 cases B with
 | true =>
  replace c2:=c2 rfl
  rw [if_pos rfl]
  by_cases hD:D≤24
  ·rw [if_pos hD]
   have hD':¬ (24:Int) < (D:Int):=by omega
   clear hD
   go_enter Tryz.func44,Tryz.ntmps44
   go_wp2_with fail
   refine c.mono ?_
   rintro e w1 ⟨rfl,hb⟩
   obtain⟨q0,q1,q2,q3,q4,q5,q6,q7⟩:=box8 hb
   have HB1:Hid (Below w§ w w1):=(below_new _ _).trans (hb.mono (by simp))
   clear hb c
   go_wp2_with fail
   refine (c2 _ HB1.out).mono ?_
   rintro e w2 ⟨rfl,hb2⟩
   have HB2:Hid (Below w§ w w2):=HB1.out.trans (hb2.mono HB1.out.size)
   clear hb2 c2 q0 q1 q2 q3 q4 q5 q6 q7
   go_wp2_with fail
   go_ret
   exact⟨rfl,HB2.out⟩
  ·rw [if_neg hD]
   have hD':(24:Int) < (D:Int):=by omega
   clear hD
   go_enter Tryz.func44,Tryz.ntmps44
   go_wp2_with fail
   refine c.mono ?_
   rintro e w1 ⟨rfl,hb⟩
   obtain⟨q0,q1,q2,q3,q4,q5,q6,q7⟩:=box8 hb
   have HB1:Hid (Below w§ w w1):=(below_new _ _).trans (hb.mono (by simp))
   clear hb c
   go_wp2_with fail
   refine (c2 _ HB1.out).mono ?_
   rintro e w2 ⟨rfl,hb2⟩
   have HB2:Hid (Below w§ w w2):=HB1.out.trans (hb2.mono HB1.out.size)
   clear hb2 c2 q0 q1 q2 q3 q4 q5 q6 q7
   go_wp2_with fail
   go_ret
   exact⟨rfl,HB2.out⟩
 | false =>
  rw [if_neg (by decide)]
  go_enter Tryz.func44,Tryz.ntmps44
  go_wp2_with fail
  refine c.mono ?_
  rintro e w1 ⟨rfl,hb⟩
  have HB1:Hid (Below w§ w w1):=(below_new _ _).trans (hb.mono (by simp))
  clear hb c
  go_wp2_with fail
  go_ret
  exact⟨rfl,HB1.out⟩
end Go.Proofs.YtoogodlnnijikaaGreatDoor
