import Derived.Test.YtjimaceccllnlaaGreatDoorA0
import Derived.Test.YtjimaceccllnlaaGreatDoorA25
import Derived.Test.YtjimaceccllnlaaGreatDoorA23
import Derived.WalkMore
import Derived.Test.YtjimaceccllnlaaGreatDoorA24
namespace Go.Proofs.YtjimaceccllnlaaGreatDoor
set_option maxRecDepth 100000
set_option maxHeartbeats 4000000
open Go.RowKit
set_option linter.unusedVariables false
set_option linter.unusedSimpArgs false
theorem oneE_1 (o t n f:Int) (x:ByteArray) (p:Int) (l:Nat):oneH ⟨1, o, t, n, f, x, p⟩ l=(liR o t n f x l):=by
 simp only [oneH, alike, nm, fitB, zB, liR, empt, numB]
 rw [Bool.eq_iff_iff]
 simp
 constructor <;> intro h <;> simp_all <;> omega
theorem oneE_2 (o t n f:Int) (x:ByteArray) (p:Int) (l:Nat):oneH ⟨2, o, t, n, f, x, p⟩ l=(nameB x && (zB o t n f ⟨#[]⟩ && ((l:Int) == 0))):=by
 simp only [oneH, alike, nm, fitB, zB, liR, empt, numB]
 rw [Bool.eq_iff_iff]
 simp
 constructor <;> intro h <;> simp_all <;> omega
theorem oneE_3 (o t n f:Int) (x:ByteArray) (p:Int) (l:Nat):oneH ⟨3, o, t, n, f, x, p⟩ l=((decide (1≤f) && decide (f≤6)) && (zB o t n 0 x && ((l:Int) == 0))):=by
 simp only [oneH, alike, nm, fitB, zB, liR, empt, numB]
 rw [Bool.eq_iff_iff]
 simp
 constructor <;> intro h <;> simp_all <;> omega
theorem oneE_4 (o t n f:Int) (x:ByteArray) (p:Int) (l:Nat):oneH ⟨4, o, t, n, f, x, p⟩ l=((decide (1≤f) && decide (f≤3)) && (zB o t n 0 x && ((l:Int) == 0))):=by
 simp only [oneH, alike, nm, fitB, zB, liR, empt, numB]
 rw [Bool.eq_iff_iff]
 simp
 constructor <;> intro h <;> simp_all <;> omega
theorem oneE_5 (o t n f:Int) (x:ByteArray) (p:Int) (l:Nat):oneH ⟨5, o, t, n, f, x, p⟩ l=(((o == 1) || (o == 2)) && (zB 0 t n f x && ((l:Int) == 1))):=by
 simp only [oneH, alike, nm, fitB, zB, liR, empt, numB]
 rw [Bool.eq_iff_iff]
 simp
 constructor <;> intro h <;> simp_all <;> omega
theorem oneE_6 (o t n f:Int) (x:ByteArray) (p:Int) (l:Nat):oneH ⟨6, o, t, n, f, x, p⟩ l=((decide (6≤o) && decide (o≤18)) && (zB 0 t n f x && ((l:Int) == 2))):=by
 simp only [oneH, alike, nm, fitB, zB, liR, empt, numB]
 rw [Bool.eq_iff_iff]
 simp
 constructor <;> intro h <;> simp_all <;> omega
theorem oneE_7 (o t n f:Int) (x:ByteArray) (p:Int) (l:Nat):oneH ⟨7, o, t, n, f, x, p⟩ l=(zB o t n f x && ((l:Int) == 3)):=by
 simp only [oneH, alike, nm, fitB, zB, liR, empt, numB]
 rw [Bool.eq_iff_iff]
 simp
 intro h1 h2 h3 h4 h5
 omega
theorem oneE_9 (o t n f:Int) (x:ByteArray) (p:Int) (l:Nat):oneH ⟨9, o, t, n, f, x, p⟩ l=((decide (1≤t) && decide (t≤4)) && (zB o 0 n f x && ((l:Int) == 1))):=by
 simp only [oneH, alike, nm, fitB, zB, liR, empt, numB]
 rw [Bool.eq_iff_iff]
 simp
 constructor <;> intro h <;> simp_all <;> omega
theorem oneE_8a (t n f:Int) (x:ByteArray) (p:Int) (l:Nat):oneH ⟨8, 3, t, n, f, x, p⟩ l=(zB 0 t n f x && ((l:Int) == 1)):=by
 simp only [oneH, alike, nm, fitB, zB, empt]
 rw [Bool.eq_iff_iff]
 simp
 intro h1 h2 h3 h4
 omega
theorem oneE_8b (o t n f:Int) (x:ByteArray) (p:Int) (l:Nat) (h3:(o == 3)=false):oneH ⟨8, o, t, n, f, x, p⟩ l=((decide (3≤o) && decide (o≤5)) && (zB 0 t n f x && ((l:Int) == 2))):=by
 have h3':¬ o=3:=by simpa using h3
 simp only [oneH, alike, nm, fitB, zB, empt]
 rw [Bool.eq_iff_iff]
 simp
 constructor <;> intro h <;> simp_all <;> omega
theorem one_3 (o t n f:Int) (x:ByteArray) (a:Option Addr) (l c:Nat) (p:Int) (w:World):Calls zG 47 #[.agg #[zU 3, zU o, zU t, zI n, zU f, .string x, .slice a l c, zI p]] w fun e w' => e=.returned (.bool (oneH ⟨3, o, t, n, f, x, p⟩ l))∧Below w§ w w':=by
 cases f1:(decide (1≤f)) with
 | false =>
  have HE:Hid (oneH ⟨3, o, t, n, f, x, p⟩ l=false):=by show _=_; rw [oneE_3]; simp [f1]
  go_enter Tryz.func47, Tryz.ntmps47
  go_wp2_with fail
  go_ret
  exact ⟨by rw [HE.out]; rfl, Bn _ _⟩
 | true =>
  cases f6:(decide (f≤6)) with
  | false =>
   have HE:Hid (oneH ⟨3, o, t, n, f, x, p⟩ l=false):=by show _=_; rw [oneE_3]; simp [f1, f6]
   go_enter Tryz.func47, Tryz.ntmps47
   go_wp2_with fail
   go_ret
   exact ⟨by rw [HE.out]; rfl, Bn _ _⟩
  | true =>
   go_enter Tryz.func47, Tryz.ntmps47
   go_wp2_with fail
   refine (zero_any _ _ _ _ _ _ _ _ _ _ _).mono ?_
   rintro e w5 ⟨rfl, hb5⟩
   have HB5:Hid (Below w§ w w5):=below2 (Bn _ _) hb5
   have g6:w5.cell? ⟨w§, 6, none⟩=some (.slice a l c):=Co ((hb5.block _ (Array.getElem?_eq_some_iff.1 (Hn _ _)).1).trans (Hn _ _)) 6
   clear hb5
   cases hz:(zB o t n 0 x) with
   | false =>
    have HE:Hid (oneH ⟨3, o, t, n, f, x, p⟩ l=false):=by show _=_; rw [oneE_3]; simp [f1, f6, hz]
    go_wp2_with fail
    go_ret
    exact ⟨by rw [HE.out]; rfl, HB5.out⟩
   | true =>
    cases hl:((l:Int) == 0) with
    | false =>
     have HE:Hid (oneH ⟨3, o, t, n, f, x, p⟩ l=false):=by show _=_; rw [oneE_3]; simp [f1, f6, hz, hl]
     go_wp2_with fail
     go_ret
     exact ⟨by rw [HE.out]; rfl, HB5.out⟩
    | true =>
     have HE:Hid (oneH ⟨3, o, t, n, f, x, p⟩ l=true):=by show _=_; rw [oneE_3]; simp [f1, f6, hz, hl]
     go_wp2_with fail
     go_ret
     exact ⟨by rw [HE.out]; rfl, HB5.out⟩
theorem one_4 (o t n f:Int) (x:ByteArray) (a:Option Addr) (l c:Nat) (p:Int) (w:World):Calls zG 47 #[.agg #[zU 4, zU o, zU t, zI n, zU f, .string x, .slice a l c, zI p]] w fun e w' => e=.returned (.bool (oneH ⟨4, o, t, n, f, x, p⟩ l))∧Below w§ w w':=by
 cases f1:(decide (1≤f)) with
 | false =>
  have HE:Hid (oneH ⟨4, o, t, n, f, x, p⟩ l=false):=by show _=_; rw [oneE_4]; simp [f1]
  go_enter Tryz.func47, Tryz.ntmps47
  go_wp2_with fail
  go_ret
  exact ⟨by rw [HE.out]; rfl, Bn _ _⟩
 | true =>
  cases f6:(decide (f≤3)) with
  | false =>
   have HE:Hid (oneH ⟨4, o, t, n, f, x, p⟩ l=false):=by show _=_; rw [oneE_4]; simp [f1, f6]
   go_enter Tryz.func47, Tryz.ntmps47
   go_wp2_with fail
   go_ret
   exact ⟨by rw [HE.out]; rfl, Bn _ _⟩
  | true =>
   go_enter Tryz.func47, Tryz.ntmps47
   go_wp2_with fail
   refine (zero_any _ _ _ _ _ _ _ _ _ _ _).mono ?_
   rintro e w5 ⟨rfl, hb5⟩
   have HB5:Hid (Below w§ w w5):=below2 (Bn _ _) hb5
   have g6:w5.cell? ⟨w§, 6, none⟩=some (.slice a l c):=Co ((hb5.block _ (Array.getElem?_eq_some_iff.1 (Hn _ _)).1).trans (Hn _ _)) 6
   clear hb5
   cases hz:(zB o t n 0 x) with
   | false =>
    have HE:Hid (oneH ⟨4, o, t, n, f, x, p⟩ l=false):=by show _=_; rw [oneE_4]; simp [f1, f6, hz]
    go_wp2_with fail
    go_ret
    exact ⟨by rw [HE.out]; rfl, HB5.out⟩
   | true =>
    cases hl:((l:Int) == 0) with
    | false =>
     have HE:Hid (oneH ⟨4, o, t, n, f, x, p⟩ l=false):=by show _=_; rw [oneE_4]; simp [f1, f6, hz, hl]
     go_wp2_with fail
     go_ret
     exact ⟨by rw [HE.out]; rfl, HB5.out⟩
    | true =>
     have HE:Hid (oneH ⟨4, o, t, n, f, x, p⟩ l=true):=by show _=_; rw [oneE_4]; simp [f1, f6, hz, hl]
     go_wp2_with fail
     go_ret
     exact ⟨by rw [HE.out]; rfl, HB5.out⟩
theorem one_5 (o t n f:Int) (x:ByteArray) (a:Option Addr) (l c:Nat) (p:Int) (w:World):Calls zG 47 #[.agg #[zU 5, zU o, zU t, zI n, zU f, .string x, .slice a l c, zI p]] w fun e w' => e=.returned (.bool (oneH ⟨5, o, t, n, f, x, p⟩ l))∧Below w§ w w':=by
 cases o1:(o == 1) with
 | false =>
  cases o2:(o == 2) with
  | false =>
   have HE:Hid (oneH ⟨5, o, t, n, f, x, p⟩ l=false):=by show _=_; rw [oneE_5]; simp [o1, o2]
   go_enter Tryz.func47, Tryz.ntmps47
   go_wp2_with fail
   go_ret
   exact ⟨by rw [HE.out]; rfl, Bn _ _⟩
  | true =>
   go_enter Tryz.func47, Tryz.ntmps47
   go_wp2_with fail
   refine (zero_any _ _ _ _ _ _ _ _ _ _ _).mono ?_
   rintro e w5 ⟨rfl, hb5⟩
   have HB5:Hid (Below w§ w w5):=below2 (Bn _ _) hb5
   have g6:w5.cell? ⟨w§, 6, none⟩=some (.slice a l c):=Co ((hb5.block _ (Array.getElem?_eq_some_iff.1 (Hn _ _)).1).trans (Hn _ _)) 6
   clear hb5
   cases hz:(zB 0 t n f x) with
   | false =>
    have HE:Hid (oneH ⟨5, o, t, n, f, x, p⟩ l=false):=by show _=_; rw [oneE_5]; simp [o1, o2, hz]
    go_wp2_with fail
    go_ret
    exact ⟨by rw [HE.out]; rfl, HB5.out⟩
   | true =>
    cases hl:((l:Int) == 1) with
    | false =>
     have HE:Hid (oneH ⟨5, o, t, n, f, x, p⟩ l=false):=by show _=_; rw [oneE_5]; simp [o1, o2, hz, hl]
     go_wp2_with fail
     go_ret
     exact ⟨by rw [HE.out]; rfl, HB5.out⟩
    | true =>
     have HE:Hid (oneH ⟨5, o, t, n, f, x, p⟩ l=true):=by show _=_; rw [oneE_5]; simp [o1, o2, hz, hl]
     go_wp2_with fail
     go_ret
     exact ⟨by rw [HE.out]; rfl, HB5.out⟩
 | true =>
  go_enter Tryz.func47, Tryz.ntmps47
  go_wp2_with fail
  refine (zero_any _ _ _ _ _ _ _ _ _ _ _).mono ?_
  rintro e w5 ⟨rfl, hb5⟩
  have HB5:Hid (Below w§ w w5):=below2 (Bn _ _) hb5
  have g6:w5.cell? ⟨w§, 6, none⟩=some (.slice a l c):=Co ((hb5.block _ (Array.getElem?_eq_some_iff.1 (Hn _ _)).1).trans (Hn _ _)) 6
  clear hb5
  cases hz:(zB 0 t n f x) with
  | false =>
   have HE:Hid (oneH ⟨5, o, t, n, f, x, p⟩ l=false):=by show _=_; rw [oneE_5]; simp [o1, hz]
   go_wp2_with fail
   go_ret
   exact ⟨by rw [HE.out]; rfl, HB5.out⟩
  | true =>
   cases hl:((l:Int) == 1) with
   | false =>
    have HE:Hid (oneH ⟨5, o, t, n, f, x, p⟩ l=false):=by show _=_; rw [oneE_5]; simp [o1, hz, hl]
    go_wp2_with fail
    go_ret
    exact ⟨by rw [HE.out]; rfl, HB5.out⟩
   | true =>
    have HE:Hid (oneH ⟨5, o, t, n, f, x, p⟩ l=true):=by show _=_; rw [oneE_5]; simp [o1, hz, hl]
    go_wp2_with fail
    go_ret
    exact ⟨by rw [HE.out]; rfl, HB5.out⟩
theorem one_6 (o t n f:Int) (x:ByteArray) (a:Option Addr) (l c:Nat) (p:Int) (w:World):Calls zG 47 #[.agg #[zU 6, zU o, zU t, zI n, zU f, .string x, .slice a l c, zI p]] w fun e w' => e=.returned (.bool (oneH ⟨6, o, t, n, f, x, p⟩ l))∧Below w§ w w':=by
 cases o1:(decide (6≤o)) with
 | false =>
  have HE:Hid (oneH ⟨6, o, t, n, f, x, p⟩ l=false):=by show _=_; rw [oneE_6]; simp [o1]
  go_enter Tryz.func47, Tryz.ntmps47
  go_wp2_with fail
  go_ret
  exact ⟨by rw [HE.out]; rfl, Bn _ _⟩
 | true =>
  cases o2:(decide (o≤18)) with
  | false =>
   have HE:Hid (oneH ⟨6, o, t, n, f, x, p⟩ l=false):=by show _=_; rw [oneE_6]; simp [o1, o2]
   go_enter Tryz.func47, Tryz.ntmps47
   go_wp2_with fail
   go_ret
   exact ⟨by rw [HE.out]; rfl, Bn _ _⟩
  | true =>
   go_enter Tryz.func47, Tryz.ntmps47
   go_wp2_with fail
   refine (zero_any _ _ _ _ _ _ _ _ _ _ _).mono ?_
   rintro e w5 ⟨rfl, hb5⟩
   have HB5:Hid (Below w§ w w5):=below2 (Bn _ _) hb5
   have g6:w5.cell? ⟨w§, 6, none⟩=some (.slice a l c):=Co ((hb5.block _ (Array.getElem?_eq_some_iff.1 (Hn _ _)).1).trans (Hn _ _)) 6
   clear hb5
   cases hz:(zB 0 t n f x) with
   | false =>
    have HE:Hid (oneH ⟨6, o, t, n, f, x, p⟩ l=false):=by show _=_; rw [oneE_6]; simp [o1, o2, hz]
    go_wp2_with fail
    go_ret
    exact ⟨by rw [HE.out]; rfl, HB5.out⟩
   | true =>
    cases hl:((l:Int) == 2) with
    | false =>
     have HE:Hid (oneH ⟨6, o, t, n, f, x, p⟩ l=false):=by show _=_; rw [oneE_6]; simp [o1, o2, hz, hl]
     go_wp2_with fail
     go_ret
     exact ⟨by rw [HE.out]; rfl, HB5.out⟩
    | true =>
     have HE:Hid (oneH ⟨6, o, t, n, f, x, p⟩ l=true):=by show _=_; rw [oneE_6]; simp [o1, o2, hz, hl]
     go_wp2_with fail
     go_ret
     exact ⟨by rw [HE.out]; rfl, HB5.out⟩
theorem one_7 (o t n f:Int) (x:ByteArray) (a:Option Addr) (l c:Nat) (p:Int) (w:World):Calls zG 47 #[.agg #[zU 7, zU o, zU t, zI n, zU f, .string x, .slice a l c, zI p]] w fun e w' => e=.returned (.bool (oneH ⟨7, o, t, n, f, x, p⟩ l))∧Below w§ w w':=by
 go_enter Tryz.func47, Tryz.ntmps47
 go_wp2_with fail
 refine (zero_any _ _ _ _ _ _ _ _ _ _ _).mono ?_
 rintro e w5 ⟨rfl, hb5⟩
 have HB5:Hid (Below w§ w w5):=below2 (Bn _ _) hb5
 have g6:w5.cell? ⟨w§, 6, none⟩=some (.slice a l c):=Co ((hb5.block _ (Array.getElem?_eq_some_iff.1 (Hn _ _)).1).trans (Hn _ _)) 6
 clear hb5
 cases hz:(zB o t n f x) with
 | false =>
  have HE:Hid (oneH ⟨7, o, t, n, f, x, p⟩ l=false):=by show _=_; rw [oneE_7]; simp [hz]
  go_wp2_with fail
  go_ret
  exact ⟨by rw [HE.out]; rfl, HB5.out⟩
 | true =>
  cases hl:((l:Int) == 3) with
  | false =>
   have HE:Hid (oneH ⟨7, o, t, n, f, x, p⟩ l=false):=by show _=_; rw [oneE_7]; simp [hz, hl]
   go_wp2_with fail
   go_ret
   exact ⟨by rw [HE.out]; rfl, HB5.out⟩
  | true =>
   have HE:Hid (oneH ⟨7, o, t, n, f, x, p⟩ l=true):=by show _=_; rw [oneE_7]; simp [hz, hl]
   go_wp2_with fail
   go_ret
   exact ⟨by rw [HE.out]; rfl, HB5.out⟩
theorem one_9 (o t n f:Int) (x:ByteArray) (a:Option Addr) (l c:Nat) (p:Int) (w:World):Calls zG 47 #[.agg #[zU 9, zU o, zU t, zI n, zU f, .string x, .slice a l c, zI p]] w fun e w' => e=.returned (.bool (oneH ⟨9, o, t, n, f, x, p⟩ l))∧Below w§ w w':=by
 cases t1:(decide (1≤t)) with
 | false =>
  have HE:Hid (oneH ⟨9, o, t, n, f, x, p⟩ l=false):=by show _=_; rw [oneE_9]; simp [t1]
  go_enter Tryz.func47, Tryz.ntmps47
  go_wp2_with fail
  go_ret
  exact ⟨by rw [HE.out]; rfl, Bn _ _⟩
 | true =>
  cases t4:(decide (t≤4)) with
  | false =>
   have HE:Hid (oneH ⟨9, o, t, n, f, x, p⟩ l=false):=by show _=_; rw [oneE_9]; simp [t1, t4]
   go_enter Tryz.func47, Tryz.ntmps47
   go_wp2_with fail
   go_ret
   exact ⟨by rw [HE.out]; rfl, Bn _ _⟩
  | true =>
   go_enter Tryz.func47, Tryz.ntmps47
   go_wp2_with fail
   refine (zero_any _ _ _ _ _ _ _ _ _ _ _).mono ?_
   rintro e w5 ⟨rfl, hb5⟩
   have HB5:Hid (Below w§ w w5):=below2 (Bn _ _) hb5
   have g6:w5.cell? ⟨w§, 6, none⟩=some (.slice a l c):=Co ((hb5.block _ (Array.getElem?_eq_some_iff.1 (Hn _ _)).1).trans (Hn _ _)) 6
   clear hb5
   cases hz:(zB o 0 n f x) with
   | false =>
    have HE:Hid (oneH ⟨9, o, t, n, f, x, p⟩ l=false):=by show _=_; rw [oneE_9]; simp [t1, t4, hz]
    go_wp2_with fail
    go_ret
    exact ⟨by rw [HE.out]; rfl, HB5.out⟩
   | true =>
    cases hl:((l:Int) == 1) with
    | false =>
     have HE:Hid (oneH ⟨9, o, t, n, f, x, p⟩ l=false):=by show _=_; rw [oneE_9]; simp [t1, t4, hz, hl]
     go_wp2_with fail
     go_ret
     exact ⟨by rw [HE.out]; rfl, HB5.out⟩
    | true =>
     have HE:Hid (oneH ⟨9, o, t, n, f, x, p⟩ l=true):=by show _=_; rw [oneE_9]; simp [t1, t4, hz, hl]
     go_wp2_with fail
     go_ret
     exact ⟨by rw [HE.out]; rfl, HB5.out⟩
theorem one_8a (t n f:Int) (x:ByteArray) (a:Option Addr) (l c:Nat) (p:Int) (w:World):Calls zG 47 #[.agg #[zU 8, zU 3, zU t, zI n, zU f, .string x, .slice a l c, zI p]] w fun e w' => e=.returned (.bool (oneH ⟨8, 3, t, n, f, x, p⟩ l))∧Below w§ w w':=by
 go_enter Tryz.func47, Tryz.ntmps47
 go_wp2_with fail
 refine (zero_any _ _ _ _ _ _ _ _ _ _ _).mono ?_
 rintro e w5 ⟨rfl, hb5⟩
 have HB5:Hid (Below w§ w w5):=below2 (Bn _ _) hb5
 have g6:w5.cell? ⟨w§, 6, none⟩=some (.slice a l c):=Co ((hb5.block _ (Array.getElem?_eq_some_iff.1 (Hn _ _)).1).trans (Hn _ _)) 6
 clear hb5
 cases hz:(zB 0 t n f x) with
 | false =>
  have HE:Hid (oneH ⟨8, 3, t, n, f, x, p⟩ l=false):=by show _=_; rw [oneE_8a]; simp [hz]
  go_wp2_with fail
  go_ret
  exact ⟨by rw [HE.out]; rfl, HB5.out⟩
 | true =>
  cases hl:((l:Int) == 1) with
  | false =>
   have HE:Hid (oneH ⟨8, 3, t, n, f, x, p⟩ l=false):=by show _=_; rw [oneE_8a]; simp [hz, hl]
   go_wp2_with fail
   go_ret
   exact ⟨by rw [HE.out]; rfl, HB5.out⟩
  | true =>
   have HE:Hid (oneH ⟨8, 3, t, n, f, x, p⟩ l=true):=by show _=_; rw [oneE_8a]; simp [hz, hl]
   go_wp2_with fail
   go_ret
   exact ⟨by rw [HE.out]; rfl, HB5.out⟩
theorem one_8b (o t n f:Int) (x:ByteArray) (a:Option Addr) (l c:Nat) (p:Int) (w:World) (o3:(o == 3)=false):Calls zG 47 #[.agg #[zU 8, zU o, zU t, zI n, zU f, .string x, .slice a l c, zI p]] w fun e w' => e=.returned (.bool (oneH ⟨8, o, t, n, f, x, p⟩ l))∧Below w§ w w':=by
 cases o1:(decide (3≤o)) with
 | false =>
  have HE:Hid (oneH ⟨8, o, t, n, f, x, p⟩ l=false):=by show _=_; rw [oneE_8b _ _ _ _ _ _ _ o3]; simp [o1]
  go_enter Tryz.func47, Tryz.ntmps47
  go_wp2_with fail
  go_ret
  exact ⟨by rw [HE.out]; rfl, Bn _ _⟩
 | true =>
  cases o2:(decide (o≤5)) with
  | false =>
   have HE:Hid (oneH ⟨8, o, t, n, f, x, p⟩ l=false):=by show _=_; rw [oneE_8b _ _ _ _ _ _ _ o3]; simp [o1, o2]
   go_enter Tryz.func47, Tryz.ntmps47
   go_wp2_with fail
   go_ret
   exact ⟨by rw [HE.out]; rfl, Bn _ _⟩
  | true =>
   go_enter Tryz.func47, Tryz.ntmps47
   go_wp2_with fail
   refine (zero_any _ _ _ _ _ _ _ _ _ _ _).mono ?_
   rintro e w5 ⟨rfl, hb5⟩
   have HB5:Hid (Below w§ w w5):=below2 (Bn _ _) hb5
   have g6:w5.cell? ⟨w§, 6, none⟩=some (.slice a l c):=Co ((hb5.block _ (Array.getElem?_eq_some_iff.1 (Hn _ _)).1).trans (Hn _ _)) 6
   clear hb5
   cases hz:(zB 0 t n f x) with
   | false =>
    have HE:Hid (oneH ⟨8, o, t, n, f, x, p⟩ l=false):=by show _=_; rw [oneE_8b _ _ _ _ _ _ _ o3]; simp [o1, o2, hz]
    go_wp2_with fail
    go_ret
    exact ⟨by rw [HE.out]; rfl, HB5.out⟩
   | true =>
    cases hl:((l:Int) == 2) with
    | false =>
     have HE:Hid (oneH ⟨8, o, t, n, f, x, p⟩ l=false):=by show _=_; rw [oneE_8b _ _ _ _ _ _ _ o3]; simp [o1, o2, hz, hl]
     go_wp2_with fail
     go_ret
     exact ⟨by rw [HE.out]; rfl, HB5.out⟩
    | true =>
     have HE:Hid (oneH ⟨8, o, t, n, f, x, p⟩ l=true):=by show _=_; rw [oneE_8b _ _ _ _ _ _ _ o3]; simp [o1, o2, hz, hl]
     go_wp2_with fail
     go_ret
     exact ⟨by rw [HE.out]; rfl, HB5.out⟩
theorem one_1 (o t n f:Int) (x:ByteArray) (a:Option Addr) (l c:Nat) (p:Int) (w:World):Calls zG 47 #[.agg #[zU 1, zU o, zU t, zI n, zU f, .string x, .slice a l c, zI p]] w fun e w' => e=.returned (.bool (oneH ⟨1, o, t, n, f, x, p⟩ l))∧Below w§ w w':=by
 have HE:Hid (oneH ⟨1, o, t, n, f, x, p⟩ l=liR o t n f x l):=oneE_1 ..
 go_enter Tryz.func47, Tryz.ntmps47
 go_wp2_with fail
 refine (literal_any _ _ _ _ _ _ _ _ _ _ _).mono ?_
 rintro e w5 ⟨rfl, hb5⟩
 have HB5:Hid (Below w§ w w5):=below2 (Bn _ _) hb5
 clear hb5
 go_wp2_with fail
 go_ret
 exact ⟨by rw [HE.out]; rfl, HB5.out⟩
theorem one_2 (o t n f:Int) (x:ByteArray) (a:Option Addr) (l c:Nat) (p:Int) (w:World) (hx:x.size≤140737488355328):Calls zG 47 #[.agg #[zU 2, zU o, zU t, zI n, zU f, .string x, .slice a l c, zI p]] w fun e w' => e=.returned (.bool (oneH ⟨2, o, t, n, f, x, p⟩ l))∧Below w§ w w':=by
 have hn1:=Hn w (.cells #[zU 2, zU o, zU t, zI n, zU f, .string x, .slice a l c, zI p] 28)
 have hb1:=Bn w (.cells #[zU 2, zU o, zU t, zI n, zU f, .string x, .slice a l c, zI p] 28)
 obtain ⟨W1, e1⟩:∃ W, w.alloc (.cells #[zU 2, zU o, zU t, zI n, zU f, .string x, .slice a l c, zI p] 28)=W:=⟨_, rfl⟩
 have E1:Hid (w.alloc (.cells #[zU 2, zU o, zU t, zI n, zU f, .string x, .slice a l c, zI p] 28)=W1):=e1
 rw [e1] at hn1 hb1
 have HN:Hid (W1.heap[w§]?=some (.cells #[zU 2, zU o, zU t, zI n, zU f, .string x, .slice a l c, zI p] 28 (0, 0))∧Below w§ w W1):=⟨hn1, hb1⟩
 have c0:W1.cell? ⟨w§, 0, none⟩=some (zU 2):=Co hn1 0
 have c5:W1.cell? ⟨w§, 5, none⟩=some (.string x):=Co hn1 5
 have cN:=rname_any x hx W1
 clear hn1 hb1 e1
 go_enter Tryz.func47, Tryz.ntmps47
 go_upto_region 1 with fail
 rw [E1.out]
 clear E1
 go_wp2_with fail
 refine cN.mono ?_
 rintro e w2 ⟨rfl, hb2⟩
 have g:=(hb2.block _ (Array.getElem?_eq_some_iff.1 HN.out.1).1).trans HN.out.1
 have HB2:Hid (Below w§ w w2):=below2 HN.out.2 hb2
 have d5:w2.cell? ⟨w§, 5, none⟩=some (.string x):=Co g 5
 have f5:w2.frozen? ⟨w§, 5, none⟩=false:=Fo g 5
 have u:=heap_setCell_same w2 w§ 5 _ _ (.string ⟨#[]⟩) g
 have HU:Hid ((w2.setCell ⟨w§, 5, none⟩ (.string ⟨#[]⟩)).heap[w§]?=some (.cells #[zU 2, zU o, zU t, zI n, zU f, .string ⟨#[]⟩, .slice a l c, zI p] 28 (0, 0))∧Below w§ w (w2.setCell ⟨w§, 5, none⟩ (.string ⟨#[]⟩))):=⟨u, HB2.out.setCell (Nat.le_refl _) _⟩
 clear u g hb2 cN c0 c5
 go_upto_region 36 with fail
 generalize w2.setCell ⟨w§, 5, none⟩ (.string ⟨#[]⟩)=U at HU ⊢
 clear d5 f5
 cases hn:nameB x with
 | false =>
  have HE:Hid (oneH ⟨2, o, t, n, f, x, p⟩ l=false):=by show _=_; rw [oneE_2]; simp [hn]
  clear hn
  go_wp2_with fail
  go_ret
  exact ⟨by rw [HE.out]; rfl, HU.out.2⟩
 | true =>
  have q0:U.cell? ⟨w§, 0, none⟩=some (zU 2):=Co HU.out.1 0
  have q1:U.cell? ⟨w§, 1, none⟩=some (zU o):=Co HU.out.1 1
  have q2:U.cell? ⟨w§, 2, none⟩=some (zU t):=Co HU.out.1 2
  have q3:U.cell? ⟨w§, 3, none⟩=some (zI n):=Co HU.out.1 3
  have q4:U.cell? ⟨w§, 4, none⟩=some (zU f):=Co HU.out.1 4
  have q5:U.cell? ⟨w§, 5, none⟩=some (.string ⟨#[]⟩):=Co HU.out.1 5
  have q6:U.cell? ⟨w§, 6, none⟩=some (.slice a l c):=Co HU.out.1 6
  have q7:U.cell? ⟨w§, 7, none⟩=some (zI p):=Co HU.out.1 7
  go_wp2_with fail
  refine (zero_any _ _ _ _ _ _ _ _ _ _ _).mono ?_
  rintro e w5 ⟨rfl, hb5⟩
  have HB5:Hid (Below w§ w w5):=below2 HU.out.2 hb5
  have g6:w5.cell? ⟨w§, 6, none⟩=some (.slice a l c):=Co ((hb5.block _ (Array.getElem?_eq_some_iff.1 HU.out.1).1).trans HU.out.1) 6
  clear hb5 q0 q1 q2 q3 q4 q5 q6 q7
  cases hz:(zB o t n f ⟨#[]⟩) with
  | false =>
   have HE:Hid (oneH ⟨2, o, t, n, f, x, p⟩ l=false):=by show _=_; rw [oneE_2]; simp [hz]
   go_wp2_with fail
   go_ret
   exact ⟨by rw [HE.out]; rfl, HB5.out⟩
  | true =>
   cases hl:((l:Int) == 0) with
   | false =>
    have HE:Hid (oneH ⟨2, o, t, n, f, x, p⟩ l=false):=by show _=_; rw [oneE_2]; simp [hz, hl]
    go_wp2_with fail
    go_ret
    exact ⟨by rw [HE.out]; rfl, HB5.out⟩
   | true =>
    have HE:Hid (oneH ⟨2, o, t, n, f, x, p⟩ l=true):=by show _=_; rw [oneE_2]; simp [hn, hz, hl]
    go_wp2_with fail
    go_ret
    exact ⟨by rw [HE.out]; rfl, HB5.out⟩
theorem oneE_n (k o t n f:Int) (x:ByteArray) (p:Int) (l:Nat) (h1:¬ k=1) (h2:¬ k=2) (h3:¬ k=3) (h4:¬ k=4) (h5:¬ k=5) (h6:¬ k=6) (h7:¬ k=7) (h8:¬ k=8) (h9:¬ k=9):oneH ⟨k, o, t, n, f, x, p⟩ l=false:=by
 simp [oneH, fitB, h1, h2, h3, h4, h5, h6, h7, h8, h9]
theorem one_n (k:Int) (o t n f:Int) (x:ByteArray) (a:Option Addr) (l c:Nat) (p:Int) (w:World) (h1:¬ k=1) (h2:¬ k=2) (h3:¬ k=3) (h4:¬ k=4) (h5:¬ k=5) (h6:¬ k=6) (h7:¬ k=7) (h8:¬ k=8) (h9:¬ k=9):Calls zG 47 #[.agg #[zU k, zU o, zU t, zI n, zU f, .string x, .slice a l c, zI p]] w fun e w' => e=.returned (.bool (oneH ⟨k, o, t, n, f, x, p⟩ l))∧Below w§ w w':=by
 have HE:Hid (oneH ⟨k, o, t, n, f, x, p⟩ l=false):=oneE_n _ _ _ _ _ _ _ _ h1 h2 h3 h4 h5 h6 h7 h8 h9
 have e1:(k == 1)=false:=by simpa using h1
 have e2:(k == 2)=false:=by simpa using h2
 have e3:(k == 3)=false:=by simpa using h3
 have e4:(k == 4)=false:=by simpa using h4
 have e5:(k == 5)=false:=by simpa using h5
 have e6:(k == 6)=false:=by simpa using h6
 have e7:(k == 7)=false:=by simpa using h7
 have e8:(k == 8)=false:=by simpa using h8
 have e9:(k == 9)=false:=by simpa using h9
 clear h1 h2 h3 h4 h5 h6 h7 h8 h9
 go_enter Tryz.func47, Tryz.ntmps47
 go_wp2_with fail
 go_ret
 exact ⟨by rw [HE.out]; rfl, Bn _ _⟩
theorem rone_any (h:Hd) (a:Option Addr) (l c:Nat) (w:World) (hx:h.x.size≤140737488355328):Calls zG 47 #[.agg zNd h a l c] w fun e w' => e=.returned (.bool (oneH h l))∧Below w§ w w':=by
 obtain ⟨k, o, t, n, f, x, p⟩:=h
 by_cases h1:k=1
 ·subst h1; exact one_1 o t n f x a l c p w
 by_cases h2:k=2
 ·subst h2; exact one_2 o t n f x a l c p w hx
 by_cases h3:k=3
 ·subst h3; exact one_3 o t n f x a l c p w
 by_cases h4:k=4
 ·subst h4; exact one_4 o t n f x a l c p w
 by_cases h5:k=5
 ·subst h5; exact one_5 o t n f x a l c p w
 by_cases h6:k=6
 ·subst h6; exact one_6 o t n f x a l c p w
 by_cases h7:k=7
 ·subst h7; exact one_7 o t n f x a l c p w
 by_cases h8:k=8
 ·subst h8
  by_cases q3:o=3
  ·subst q3; exact one_8a t n f x a l c p w
  ·exact one_8b o t n f x a l c p w (by simpa using q3)
 by_cases h9:k=9
 ·subst h9; exact one_9 o t n f x a l c p w
 ·exact one_n k o t n f x a l c p w h1 h2 h3 h4 h5 h6 h7 h8 h9
set_option maxHeartbeats 16000000
open Go.Maps
def psE (L:ByteArray→Option Int):List (Nd × Int)→Option (Int × Int)
 | [] => none
 | q :: qs => match pcE L q with
  | some e => some e
  | none => psE L qs
def dosE (L:ByteArray→Option Int) (S2 S3:List ByteArray):Bool→List DoM→Option (Int × Int)
 | _, [] => none
 | en, d :: ds => if en then some (d.p, 153) else if standB L S2 S3 d.k d.x then (match psE L (ptsL L d) with
  | some e => some e
  | none => dosE L S2 S3 (d.k == 5 || d.k == 6) ds) else some (d.p, 151)
theorem psE_none {L:ByteArray→Option Int} {q:Nd × Int} {qs:List (Nd × Int)} (h:pcE L q=none):psE L (q :: qs)=psE L qs:=by simp only [psE, h]
theorem psE_some {L:ByteArray→Option Int} {q:Nd × Int} {qs:List (Nd × Int)} {e:Int × Int} (h:pcE L q=some e):psE L (q :: qs)=some e:=by simp only [psE, h]
theorem dosE_end (L:ByteArray→Option Int) (S2 S3:List ByteArray) (d:DoM) (ds:List DoM):dosE L S2 S3 true (d :: ds)=some (d.p, 153):=by simp [dosE]
theorem dosE_not {L:ByteArray→Option Int} {S2 S3:List ByteArray} {d:DoM} (h:standB L S2 S3 d.k d.x=false) (ds:List DoM):dosE L S2 S3 false (d :: ds)=some (d.p, 151):=by simp [dosE, h]
theorem dosE_some {L:ByteArray→Option Int} {S2 S3:List ByteArray} {d:DoM} {e:Int × Int} (h:standB L S2 S3 d.k d.x=true) (hp:psE L (ptsL L d)=some e) (ds:List DoM):dosE L S2 S3 false (d :: ds)=some e:=by simp [dosE, h, hp]
theorem dosE_next {L:ByteArray→Option Int} {S2 S3:List ByteArray} {d:DoM} (h:standB L S2 S3 d.k d.x=true) (hp:psE L (ptsL L d)=none) (ds:List DoM):dosE L S2 S3 false (d :: ds)=dosE L S2 S3 (d.k == 5 || d.k == 6) ds:=by simp [dosE, h, hp]
theorem pt_rng {w:World} {b o:Nat} {q:Nd × Int} (h:∀ j, j < 9→w.cell? ⟨b, o + j, none⟩=(ptV q)[j]?):w.rangeAt b o (ptV q).toList:=fun j v hv => by
 have hj:j < 9:=(List.getElem?_eq_some_iff.1 hv).1
 rw [h j hj, ← hv]; simp
theorem checkDos_any (b b2 b3:Nat) (L:ByteArray→Option Int) (S2 S3:List ByteArray) (a:Option Addr) (c:Nat) (ds:List DoM) (w:World) (hk:Kn w b b2 b3 L S2 S3) (hf:FTab w) (hg:Ety w) (hs:SlAt w 36 a c (ds.map DoM.vals)) (hd:∀ d ∈ ds, DoL w d∧∀ q ∈ ptsL L d, Lies w q.1∧OkT q.1) :
  Calls zG 106 #[.agg #[.map (some b), .map (some b2), .map (some b3)], .slice a ds.length c] w (OutC w (dosE L S2 S3 false ds)):=by
 have hb1:=Bn w (.cells #[.map (some b), .map (some b2), .map (some b3)] 118)
 have hn1:=Hn w (.cells #[.map (some b), .map (some b2), .map (some b3)] 118)
 obtain ⟨W1, e1⟩:∃ W, w.alloc (.cells #[.map (some b), .map (some b2), .map (some b3)] 118)=W:=⟨_, rfl⟩
 have E1:Hid (w.alloc (.cells #[.map (some b), .map (some b2), .map (some b3)] 118)=W1):=e1
 rw [e1] at hb1 hn1
 have HB1:Hid (Below w§ w W1):=hb1
 have HK1:Hid (W1.heap[w§]?=some (.cells #[.map (some b), .map (some b2), .map (some b3)] 118 (0, 0))):=hn1
 have HH:Hid (Kn w b b2 b3 L S2 S3∧FTab w∧Ety w):=⟨hk, hf, hg⟩
 have HSL:Hid (SlAt w 36 a c (ds.map DoM.vals)):=hs
 have HDS:Hid (∀ d ∈ ds, DoL w d∧∀ q ∈ ptsL L d, Lies w q.1∧OkT q.1):=hd
 obtain ⟨R, eR⟩:∃ R, dosE L S2 S3 false ds=R:=⟨_, rfl⟩
 have HR0:Hid (dosE L S2 S3 false ds=R):=eR
 rw [eR]
 clear hb1 hn1 hk hf hg hs hd e1 eR
 go_enter Tryz.func106, Tryz.ntmps106
 go_upto_region 1 with fail
 rw [E1.out]
 clear E1
 go_step3
 go_wp2_with fail
 go_step3
 go_wp2_with fail
 go_loopw [5, 6, 13] (fun f en t wr => ∃ (i:Nat) (E:Bool), i≤ds.length∧t=zI i∧en=.bool E∧f=.nilIface∧Hid (Below w§ w wr)∧Hid (wr.heap[w§]?=some (.cells #[.map (some b), .map (some b2), .map (some b3)] 118 (0, 0)))∧Hid (R=dosE L S2 S3 E (ds.drop i))) (fun _ _ t _ => ds.length - (intOf t).toNat)
 case atStart => exact ⟨0, false, by omega, rfl, rfl, rfl, HB1, HK1, HR0.out.symm⟩
 case round =>
  obtain ⟨i, E, hi, rfl, rfl, rfl, HBR, HBO, HR⟩:=hrel
  by_cases hlt:i < ds.length
  ·have hlt':(i:Int) < (ds.length:Int):=by omega
   have hmx:(i:Int) + 1≤9223372036854775807:=by have h1:=HSL.out.1; have h2:=HSL.out.2.1; rw [List.length_map] at h1; omega
   obtain ⟨bb, o, ea, hat⟩:=(HSL.out.on (mapz DoM.sz _) HBR.out).2.2 i (by rw [List.length_map]; exact hlt)
   simp only [List.getElem_map] at hat
   have HMEM:Hid (ds[i] ∈ ds):=List.getElem_mem hlt
   have HC:Hid (R=dosE L S2 S3 E (ds[i] :: ds.drop (i + 1))):=by show _=_; rw [HR.out, List.drop_eq_getElem_cons hlt]
   obtain ⟨d, ed⟩:∃ d, ds[i]=d:=⟨_, rfl⟩
   rw [ed] at hat HC HMEM
   have HRG:Hid (wr.rangeAt bb (o + i * 36) d.vals.toList):=fun j v hv => by
    have hj:j < 36:=(List.getElem?_eq_some_iff.1 hv).1
    rw [hat j hj, ← hv]; simp
   have HZ:Hid ((wr.alloc (.cells #[zU 0, zU 0, .string ⟨#[]⟩, zU 0, zU 0, zU 0, zI 0, zU 0, .string ⟨#[]⟩, .slice none 0 0, zI 0, zU 0, zU 0, zU 0, zI 0, zU 0, .string ⟨#[]⟩, .slice none 0 0, zI 0, zU 0, zU 0, zU 0, zI 0, zU 0, .string ⟨#[]⟩, .slice none 0 0, zI 0, zU 0, zU 0, zU 0, zI 0, zU 0, .string ⟨#[]⟩, .slice none 0 0, zI 0, zI 0] 92)).heap[wr§]?=some (.cells #[zU 0, zU 0, .string ⟨#[]⟩, zU 0, zU 0, zU 0, zI 0, zU 0, .string ⟨#[]⟩, .slice none 0 0, zI 0, zU 0, zU 0, zU 0, zI 0, zU 0, .string ⟨#[]⟩, .slice none 0 0, zI 0, zU 0, zU 0, zU 0, zI 0, zU 0, .string ⟨#[]⟩, .slice none 0 0, zI 0, zU 0, zU 0, zU 0, zI 0, zU 0, .string ⟨#[]⟩, .slice none 0 0, zI 0, zI 0] 92 (0, 0))):=Hn _ _
   have hbx:Below wr§ wr ((wr.alloc (.cells #[zU 0, zU 0, .string ⟨#[]⟩, zU 0, zU 0, zU 0, zI 0, zU 0, .string ⟨#[]⟩, .slice none 0 0, zI 0, zU 0, zU 0, zU 0, zI 0, zU 0, .string ⟨#[]⟩, .slice none 0 0, zI 0, zU 0, zU 0, zU 0, zI 0, zU 0, .string ⟨#[]⟩, .slice none 0 0, zI 0, zU 0, zU 0, zU 0, zI 0, zU 0, .string ⟨#[]⟩, .slice none 0 0, zI 0, zI 0] 92)).setRow wr§ d.vals):=below_row (Bn _ _) (Nat.le_refl _) _
   have HBX:Hid (Below w§ w ((wr.alloc (.cells #[zU 0, zU 0, .string ⟨#[]⟩, zU 0, zU 0, zU 0, zI 0, zU 0, .string ⟨#[]⟩, .slice none 0 0, zI 0, zU 0, zU 0, zU 0, zI 0, zU 0, .string ⟨#[]⟩, .slice none 0 0, zI 0, zU 0, zU 0, zU 0, zI 0, zU 0, .string ⟨#[]⟩, .slice none 0 0, zI 0, zU 0, zU 0, zU 0, zI 0, zU 0, .string ⟨#[]⟩, .slice none 0 0, zI 0, zI 0] 92)).setRow wr§ d.vals)):=below2 HBR.out hbx
   have HBK:Hid (((wr.alloc (.cells #[zU 0, zU 0, .string ⟨#[]⟩, zU 0, zU 0, zU 0, zI 0, zU 0, .string ⟨#[]⟩, .slice none 0 0, zI 0, zU 0, zU 0, zU 0, zI 0, zU 0, .string ⟨#[]⟩, .slice none 0 0, zI 0, zU 0, zU 0, zU 0, zI 0, zU 0, .string ⟨#[]⟩, .slice none 0 0, zI 0, zU 0, zU 0, zU 0, zI 0, zU 0, .string ⟨#[]⟩, .slice none 0 0, zI 0, zI 0] 92)).setRow wr§ d.vals).heap[w§]?=some (.cells #[.map (some b), .map (some b2), .map (some b3)] 118 (0, 0))):=(hbx.block _ (Array.getElem?_eq_some_iff.1 HBO.out).1).trans HBO.out
   have HNX:Hid (((wr.alloc (.cells #[zU 0, zU 0, .string ⟨#[]⟩, zU 0, zU 0, zU 0, zI 0, zU 0, .string ⟨#[]⟩, .slice none 0 0, zI 0, zU 0, zU 0, zU 0, zI 0, zU 0, .string ⟨#[]⟩, .slice none 0 0, zI 0, zU 0, zU 0, zU 0, zI 0, zU 0, .string ⟨#[]⟩, .slice none 0 0, zI 0, zU 0, zU 0, zU 0, zI 0, zU 0, .string ⟨#[]⟩, .slice none 0 0, zI 0, zI 0] 92)).setRow wr§ d.vals).heap[wr§]?=some (.cells d.vals 92 (0, 0))):=setRow_heap _ _ _ _ _ _ HZ.out
   subst ea
   clear hat ed hbx HR HBR HBO
   go_upto_region 6 with (first | (refine wpList_load_mid rfl 92 (.tmp 15) rfl bb (o + i * 36) rfl d.vals.toList _ HRG.out Tryz.underlying92 rfl (by show _=some 36; exact size110') ?_; rw [Array.toArray_toList]) | (refine wpList_store_row rfl 92 (.tmp 8) (.tmp 16) rfl wr§ d.vals rfl rfl 92 #[zU 0, zU 0, .string ⟨#[]⟩, zU 0, zU 0, zU 0, zI 0, zU 0, .string ⟨#[]⟩, .slice none 0 0, zI 0, zU 0, zU 0, zU 0, zI 0, zU 0, .string ⟨#[]⟩, .slice none 0 0, zI 0, zU 0, zU 0, zU 0, zI 0, zU 0, .string ⟨#[]⟩, .slice none 0 0, zI 0, zU 0, zU 0, zU 0, zI 0, zU 0, .string ⟨#[]⟩, .slice none 0 0, zI 0, zI 0] HZ.out size110' rfl (all36 ..) ?_))
   generalize hWX:World.setRow _ _ _=WX
   rw [hWX] at HBX HNX HBK
   clear hWX HZ HRG
   have HX:Hid (d.x.size≤maxLen):=by have h1:=(HDS.out d HMEM.out).1.2.2.2.2.2.2.2; unfold SzX at h1; show _≤_; unfold maxLen; omega
   cases E with
   | true =>
    have HD:Hid (R=some (d.p, 153)):=HC.out.trans (dosE_end ..)
    have c35:WX.cell? ⟨wr§, 35, none⟩=some (zI d.p):=Co HNX.out 35
    go_wp2_with fail
    refine (wrong_any _ _ _).mono ?_
    rintro e w9 ⟨rfl, hf9, hb9⟩
    have HB9:Hid (Below w§ w w9∧Er w9 (.iface 95 (.pointer (some ⟨WX§, 0, none⟩))) 153 d.p):=⟨below2 HBX.out hb9, hf9.er⟩
    clear hf9 hb9
    go_wp2_with fail
    go_ret
    exact .inr ⟨_, _, _, _, HD.out, rfl, HB9.out.2, HB9.out.1⟩
   | false =>
    have k0:WX.cell? ⟨w§, 0, none⟩=some (.map (some b)):=Co HBK.out 0
    have k1:WX.cell? ⟨w§, 1, none⟩=some (.map (some b2)):=Co HBK.out 1
    have k2:WX.cell? ⟨w§, 2, none⟩=some (.map (some b3)):=Co HBK.out 2
    have cS:Calls zG 143 #[.agg #[.map (some b), .map (some b2), .map (some b3)], .agg d.vals] WX fun e w' => e=.returned (.bool (standB L S2 S3 d.k d.x))∧Below WX§ WX w':=stands_any b b2 b3 L S2 S3 d WX (HH.out.1.on HBX.out) HX.out
    go_wp2_with (refine wpList_load_row rfl 92 (.tmp 8) rfl wr§ rfl 92 d.vals (0, 0) _ HNX.out Tryz.underlying92 rfl size110' ?_)
    refine cS.mono ?_
    rintro e w5 ⟨rfl, hb5⟩
    have HB5:Hid (Below w§ w w5):=below2 HBX.out hb5
    have HK5:Hid (w5.heap[w§]?=some (.cells #[.map (some b), .map (some b2), .map (some b3)] 118 (0, 0))):=(hb5.block _ (Array.getElem?_eq_some_iff.1 HBK.out).1).trans HBK.out
    have HN5:Hid (w5.heap[wr§]?=some (.cells d.vals 92 (0, 0))):=(hb5.block _ (Array.getElem?_eq_some_iff.1 HNX.out).1).trans HNX.out
    clear cS hb5 k0 k1 k2 HBX HBK HNX
    cases hst:standB L S2 S3 d.k d.x with
    | false =>
     have HD:Hid (R=some (d.p, 151)):=HC.out.trans (dosE_not hst _)
     have c35:w5.cell? ⟨wr§, 35, none⟩=some (zI d.p):=Co HN5.out 35
     clear hst
     go_wp2_with fail
     refine (wrong_any _ _ _).mono ?_
     rintro e w9 ⟨rfl, hf9, hb9⟩
     have HB9:Hid (Below w§ w w9∧Er w9 (.iface 95 (.pointer (some ⟨w5§, 0, none⟩))) 151 d.p):=⟨below2 HB5.out hb9, hf9.er⟩
     clear hf9 hb9
     go_wp2_with fail
     go_ret
     exact .inr ⟨_, _, _, _, HD.out, rfl, HB9.out.2, HB9.out.1⟩
    | true =>
     have k0:w5.cell? ⟨w§, 0, none⟩=some (.map (some b)):=Co HK5.out 0
     have k1:w5.cell? ⟨w§, 1, none⟩=some (.map (some b2)):=Co HK5.out 1
     have k2:w5.cell? ⟨w§, 2, none⟩=some (.map (some b3)):=Co HK5.out 2
     have cP:Calls zG 144 #[.agg #[.map (some b), .map (some b2), .map (some b3)], .agg d.vals] w5 fun e w' => ∃ a c, e=.returned (.slice a (ptsL L d).length c)∧SlAt w' 9 a c ((ptsL L d).map ptV)∧Below w5§ w5 w':=parts_any b b2 b3 L d w5 (HH.out.1.on HB5.out).r HX.out
     have HST:Hid (standB L S2 S3 d.k d.x=true):=hst
     clear hst
     go_wp2_with (refine wpList_load_row rfl 92 (.tmp 8) rfl wr§ rfl 92 d.vals (0, 0) _ HN5.out Tryz.underlying92 rfl size110' ?_)
     refine cP.mono ?_
     rintro e w6 ⟨pa, pc, rfl, hsl, hb6⟩
     obtain ⟨ps, eps⟩:∃ ps, ptsL L d=ps:=⟨_, rfl⟩
     have HPS:Hid (ptsL L d=ps):=eps
     have HQ:Hid (∀ q ∈ ps, Lies w q.1∧OkT q.1):=by show ∀ q ∈ ps, _; rw [← eps]; exact (HDS.out d HMEM.out).2
     rw [eps] at hsl ⊢
     have HSP:Hid (SlAt w6 9 pa pc (ps.map ptV)):=hsl
     have HB6:Hid (Below w§ w w6):=below2 HB5.out hb6
     have HK6:Hid (w6.heap[w§]?=some (.cells #[.map (some b), .map (some b2), .map (some b3)] 118 (0, 0))):=(hb6.block _ (Array.getElem?_eq_some_iff.1 HK5.out).1).trans HK5.out
     have HN6:Hid (w6.heap[wr§]?=some (.cells d.vals 92 (0, 0))):=(hb6.block _ (Array.getElem?_eq_some_iff.1 HN5.out).1).trans HN5.out
     clear cP hb6 hsl k0 k1 k2 HB5 HK5 HN5 eps
     generalize wr§=M1 at HN6 ⊢
     go_wp2_with fail
     go_loopw [5, 34] (fun f t wr => ∃ j:Nat, j≤ps.length∧t=zI j∧f=.nilIface∧Hid (Below w6§ w6 wr)∧Hid (psE L ps=psE L (ps.drop j))) (fun _ t _ => ps.length - (intOf t).toNat)
     case atStart => exact ⟨0, by omega, rfl, rfl, Below.refl _ _, rfl⟩
     case round =>
      obtain ⟨j, hj, rfl, rfl, HBQ, HRQ⟩:=hrel
      by_cases hjl:j < ps.length
      ·have hjl':(j:Int) < (ps.length:Int):=by omega
       have hjx:(j:Int) + 1≤9223372036854775807:=by have h1:=HSP.out.1; have h2:=HSP.out.2.1; rw [List.length_map] at h1; omega
       obtain ⟨b7, o7, ea7, hat7⟩:=(HSP.out.on (mapz ptV_sz _) HBQ.out).2.2 j (by rw [List.length_map]; exact hjl)
       simp only [List.getElem_map] at hat7
       have HMQ:Hid (ps[j] ∈ ps):=List.getElem_mem hjl
       have HCQ:Hid (psE L ps=psE L (ps[j] :: ps.drop (j + 1))):=by show _=_; rw [HRQ.out, List.drop_eq_getElem_cons hjl]
       obtain ⟨q, eq⟩:∃ q, ps[j]=q:=⟨_, rfl⟩
       rw [eq] at hat7 HCQ HMQ
       have HRG7:Hid (wr.rangeAt b7 (o7 + j * 9) (ptV q).toList):=pt_rng hat7
       have HZ7:Hid ((wr.alloc (.cells #[zU 0, zU 0, zU 0, zI 0, zU 0, .string ⟨#[]⟩, .slice none 0 0, zI 0, zU 0] 160)).heap[wr§]?=some (.cells #[zU 0, zU 0, zU 0, zI 0, zU 0, .string ⟨#[]⟩, .slice none 0 0, zI 0, zU 0] 160 (0, 0))):=Hn _ _
       have hbx7:Below wr§ wr ((wr.alloc (.cells #[zU 0, zU 0, zU 0, zI 0, zU 0, .string ⟨#[]⟩, .slice none 0 0, zI 0, zU 0] 160)).setRow wr§ (ptV q)):=below_row (Bn _ _) (Nat.le_refl _) _
       have HBX7:Hid (Below w6§ w6 ((wr.alloc (.cells #[zU 0, zU 0, zU 0, zI 0, zU 0, .string ⟨#[]⟩, .slice none 0 0, zI 0, zU 0] 160)).setRow wr§ (ptV q))):=below2 HBQ.out hbx7
       have HNX7:Hid (((wr.alloc (.cells #[zU 0, zU 0, zU 0, zI 0, zU 0, .string ⟨#[]⟩, .slice none 0 0, zI 0, zU 0] 160)).setRow wr§ (ptV q)).heap[wr§]?=some (.cells (ptV q) 160 (0, 0))):=setRow_heap _ _ _ _ _ _ HZ7.out
       subst ea7
       clear hat7 eq hbx7 HRQ HBQ
       go_upto_region 13 with (first | (refine wpList_load_mid rfl 160 (.tmp 36) rfl b7 (o7 + j * 9) rfl (ptV q).toList _ HRG7.out Tryz.underlying160 rfl (by show _=some 9; exact size263) ?_; rw [Array.toArray_toList]) | (refine wpList_store_row rfl 160 (.tmp 10) (.tmp 37) rfl wr§ (ptV q) rfl rfl 160 #[zU 0, zU 0, zU 0, zI 0, zU 0, .string ⟨#[]⟩, .slice none 0 0, zI 0, zU 0] HZ7.out size263 rfl (all9 _) ?_))
       generalize hWQ:World.setRow _ _ _=WQ
       rw [hWQ] at HBX7 HNX7
       clear hWQ HZ7 HRG7
       have hwr:=below2 HB6.out HBX7.out
       have hkq:=(HBX7.out.block _ (Array.getElem?_eq_some_iff.1 HK6.out).1).trans HK6.out
       have k0:WQ.cell? ⟨w§, 0, none⟩=some (.map (some b)):=Co hkq 0
       have k1:WQ.cell? ⟨w§, 1, none⟩=some (.map (some b2)):=Co hkq 1
       have k2:WQ.cell? ⟨w§, 2, none⟩=some (.map (some b3)):=Co hkq 2
       have cC:Calls zG 105 #[.agg #[.map (some b), .map (some b2), .map (some b3)], .agg (ptV q)] WQ (OutC WQ (pcE L q)):=checkPart_any b b2 b3 L q WQ (HH.out.1.on hwr).r (HH.out.2.1.on hwr) ((HQ.out q HMQ.out).1.on hwr) (HQ.out q HMQ.out).2 (HH.out.2.2.on hwr)
       clear hwr hkq
       go_wp2_with (refine wpList_load_row rfl 160 (.tmp 10) rfl wr§ rfl 160 (ptV q) (0, 0) _ HNX7.out Tryz.underlying160 rfl size263 ?_)
       refine cC.mono ?_
       rintro e w8 (⟨hn, rfl, hb8⟩ | ⟨p, no, T, v, hn, rfl, her, hb8⟩)
       ·have HB8:Hid (Below w6§ w6 w8):=below2 HBX7.out hb8
        have HN8:Hid (psE L ps=psE L (ps.drop (j + 1))):=HCQ.out.trans (psE_none hn)
        clear cC hb8 hn k0 k1 k2
        go_wp2_with fail
        exact ⟨⟨j + 1, hjl, rfl, rfl, HB8, HN8⟩, by simp only [intOf]; omega⟩
       ·have HB8:Hid (Below w§ w w8∧Er w8 (.iface T v) no p):=⟨below2 HB6.out (below2 HBX7.out hb8), her⟩
        have HD:Hid (R=some (p, no)):=HC.out.trans (dosE_some HST.out (by rw [HPS.out]; exact HCQ.out.trans (psE_some hn)) _)
        clear cC hb8 hn her k0 k1 k2
        go_wp2_with fail
        go_ret
        exact .inr ⟨p, no, T, v, HD.out, rfl, HB8.out.2, HB8.out.1⟩
      ·obtain rfl:j=ps.length:=by omega
       have hnot:¬ (ps.length:Int) < (ps.length:Int):=by omega
       have HN0:Hid (R=dosE L S2 S3 (d.k == 5 || d.k == 6) (ds.drop (i + 1))):=HC.out.trans (dosE_next HST.out (by rw [HPS.out, HRQ.out, List.drop_length]; rfl) _)
       have HBW:Hid (Below w§ w wr):=below2 HB6.out HBQ.out
       have HKW:Hid (wr.heap[w§]?=some (.cells #[.map (some b), .map (some b2), .map (some b3)] 118 (0, 0))):=(HBQ.out.block _ (Array.getElem?_eq_some_iff.1 HK6.out).1).trans HK6.out
       have c0:wr.cell? ⟨M1, 0, none⟩=some (zU d.k):=Co ((HBQ.out.block _ (Array.getElem?_eq_some_iff.1 HN6.out).1).trans HN6.out) 0
       clear HRQ HBQ
       cases h5:(d.k == 5) with
       | true =>
        rw [h5] at HN0
        go_wp2_with fail
        exact ⟨⟨i + 1, true, hlt, rfl, rfl, rfl, HBW, HKW, HN0⟩, by simp only [intOf]; omega⟩
       | false =>
        cases h6:(d.k == 6) with
        | true =>
         rw [h5, h6] at HN0
         go_wp2_with fail
         exact ⟨⟨i + 1, true, hlt, rfl, rfl, rfl, HBW, HKW, HN0⟩, by simp only [intOf]; omega⟩
        | false =>
         rw [h5, h6] at HN0
         go_wp2_with fail
         exact ⟨⟨i + 1, false, hlt, rfl, rfl, rfl, HBW, HKW, HN0⟩, by simp only [intOf]; omega⟩
  ·obtain rfl:i=ds.length:=by omega
   have hnot:¬ (ds.length:Int) < (ds.length:Int):=by omega
   have HD:Hid (R=none):=by show _=_; rw [HR.out, List.drop_length]; cases E <;> rfl
   clear HR
   go_wp2_with fail
   go_ret
   exact .inl ⟨HD.out, rfl, HBR.out⟩
def ruE (L:ByteArray→Option Int) (S2 S3:List ByteArray) (r:RuleM):Option (Int × Int):=match pcE L (r.m, 5) with
 | some e => some e
 | none => dosE L S2 S3 false r.ds
theorem pts_mem {L:ByteArray→Option Int} {d:DoM} {q:Nd × Int} (h:q ∈ ptsL L d):(q.1=d.sd∧ndS d=true) ∨ (q.1=d.qt∧ndQ d=true) ∨ (q.1=d.pr∧ndP d=true) ∨ (q.1=d.vl∧ndV d=true):=by
 unfold ptsL at h
 by_cases h1:d.k=1
 ·have e1:(d.k == 1)=true:=by simpa using h1
  rw [e1, if_pos rfl] at h
  by_cases h2:d.o=2
  ·have e2:(d.o == 2)=true:=by simpa using h2
   rw [e2, if_pos rfl] at h
   simp only [List.mem_cons, List.not_mem_nil, or_false] at h
   rcases h with rfl | rfl
   ·exact .inl ⟨rfl, by simp [ndS, h1]⟩
   ·exact .inr (.inl ⟨rfl, by simp [ndQ, h1]⟩)
  ·have e2:(d.o == 2)=false:=by simpa using h2
   rw [e2, if_neg (by decide)] at h
   simp only [List.mem_cons, List.not_mem_nil, or_false] at h
   rcases h with rfl | rfl | rfl
   ·exact .inl ⟨rfl, by simp [ndS, h1]⟩
   ·exact .inr (.inl ⟨rfl, by simp [ndQ, h1]⟩)
   ·exact .inr (.inr (.inl ⟨rfl, by simp [ndP, h1, h2]⟩))
 ·have e1:(d.k == 1)=false:=by simpa using h1
  rw [e1, if_neg (by decide)] at h
  by_cases h2:d.k=2
  ·have e2:(d.k == 2)=true:=by simpa using h2
   rw [e2, if_pos rfl] at h
   simp only [List.mem_cons, List.not_mem_nil, or_false] at h
   rcases h with rfl | rfl
   ·exact .inr (.inl ⟨rfl, by simp [ndQ, h2]⟩)
   ·exact .inr (.inr (.inl ⟨rfl, by simp [ndP, h2]⟩))
  ·have e2:(d.k == 2)=false:=by simpa using h2
   rw [e2, if_neg (by decide)] at h
   by_cases h4:d.k=4
   ·have e4:(d.k == 4)=true:=by simpa using h4
    rw [e4, if_pos rfl] at h
    simp only [List.mem_cons, List.not_mem_nil, or_false] at h
    subst h
    exact .inr (.inr (.inr ⟨rfl, by simp [ndV, h4]⟩))
   ·have e4:(d.k == 4)=false:=by simpa using h4
    rw [e4, if_neg (by decide)] at h
    cases h
theorem pts_lies {L:ByteArray→Option Int} {d:DoM} {w:World} (h:DoL w d):∀ q ∈ ptsL L d, Lies w q.1:=fun q hq => by
 rcases pts_mem hq with ⟨e, _⟩ | ⟨e, _⟩ | ⟨e, _⟩ | ⟨e, _⟩ <;> rw [e]
 ·exact h.1
 ·exact h.2.1
 ·exact h.2.2.1
 ·exact h.2.2.2.1
theorem fs_0 {a b:Int} (h:fs a b=0):a=0∧b=0:=by
 unfold fs at h
 split at h
 ·exact ⟨by assumption, h⟩
 ·exact absurd h (by assumption)
theorem fsL_0:∀ (l:List Int), fsL l=0→∀ x ∈ l, x=0
 | [], _ => fun x hx => by cases hx
 | y :: l, h => fun x hx => by
  have h':fs y (fsL l)=0:=h
  rcases List.mem_cons.1 hx with e | e
  ·rw [e]; exact (fs_0 h').1
  ·exact fsL_0 l (fs_0 h').2 x e
theorem part_ok {m:Nd} {is:Bool} (h:partE m is=0) (hi:is=true):OkT m:=by
 unfold partE at h
 rw [if_pos hi] at h
 exact okT_cE h
theorem do_ok {L:ByteArray→Option Int} {d:DoM} (h:doE d=0):∀ q ∈ ptsL L d, OkT q.1:=fun q hq => by
 unfold doE at h
 have h3:=(fs_0 (fs_0 (fs_0 h).2).2).2
 have a1:=fs_0 h3
 have a2:=fs_0 a1.2
 have a3:=fs_0 a2.2
 rcases pts_mem hq with ⟨e, i⟩ | ⟨e, i⟩ | ⟨e, i⟩ | ⟨e, i⟩ <;> rw [e]
 ·exact part_ok a1.1 i
 ·exact part_ok a2.1 i
 ·exact part_ok a3.1 i
 ·exact part_ok a3.2 i
def RuOk (L:ByteArray→Option Int) (r:RuleM):Prop:=OkT r.m∧∀ d ∈ r.ds, ∀ q ∈ ptsL L d, OkT q.1
theorem rule_ok {r:RuleM} (h:ruleE r=0) (L:ByteArray→Option Int):RuOk L r:=by
 unfold ruleE at h
 have h1:=fs_0 h
 have h2:=fs_0 h1.2
 exact ⟨okT_cE h1.1, fun d hd => do_ok (fsL_0 _ h2.2 _ (List.mem_map.2 ⟨d, hd, rfl⟩))⟩
theorem state_ok {x:StateM} (h:stateE x=0) (L:ByteArray→Option Int):∀ r ∈ x.rs, RuOk L r:=fun r hr => by
 unfold stateE at h
 exact rule_ok (fsL_0 _ (fs_0 (fs_0 h).2).2 _ (List.mem_map.2 ⟨r, hr, rfl⟩)) L
theorem fE_ok {m:Nd} (h:fE m=0):OkT m:=by
 apply okT_form
 unfold fE at h
 cases e:formB m with
 | true => rfl
 | false => rw [e] at h; simp at h
theorem reg_ok {r:RegM} (h:regE r=0):OkT r.m:=by
 unfold regE initE at h
 exact fE_ok (fs_0 (fs_0 (fs_0 h).2).2).1
theorem strat_ok {S:StratM} (h:stratE S=0) (L:ByteArray→Option Int):(∀ d ∈ S.rs, OkT d.m)∧∀ x ∈ S.ts, ∀ r ∈ x.rs, RuOk L r:=by
 unfold stratE at h
 have h1:=fs_0 (fs_0 (fs_0 h).2).2
 have h2:=(fs_0 (fs_0 (fs_0 h1.2).2).2).2
 exact ⟨fun d hd => reg_ok (fsL_0 _ h1.1 _ (List.mem_map.2 ⟨d, hd, rfl⟩)), fun x hx => state_ok (fsL_0 _ h2 _ (List.mem_map.2 ⟨x, hx, rfl⟩)) L⟩
theorem checkRule_any (b b2 b3:Nat) (L:ByteArray→Option Int) (S2 S3:List ByteArray) (r:RuleM) (w:World) (hk:Kn w b b2 b3 L S2 S3) (hf:FTab w) (hg:Ety w) (hl:RuleL w r) (ho:RuOk L r) :
  Calls zG 67 #[.agg #[.map (some b), .map (some b2), .map (some b3)], .agg r.vals] w (OutC w (ruE L S2 S3 r)):=by
 have hb1:=Bn w (.cells #[.map (some b), .map (some b2), .map (some b3)] 118)
 have hn1:=Hn w (.cells #[.map (some b), .map (some b2), .map (some b3)] 118)
 have hs1:=Sa w (.cells #[.map (some b), .map (some b2), .map (some b3)] 118)
 obtain ⟨W1, e1⟩:∃ W, w.alloc (.cells #[.map (some b), .map (some b2), .map (some b3)] 118)=W:=⟨_, rfl⟩
 have E1:Hid (w.alloc (.cells #[.map (some b), .map (some b2), .map (some b3)] 118)=W1):=e1
 rw [e1] at hb1 hn1 hs1
 have hb2:=Bn W1 (.cells r.vals 88)
 have hn2:=Hn W1 (.cells r.vals 88)
 have hk2:=(hb2.block _ (Array.getElem?_eq_some_iff.1 hn1).1).trans hn1
 have hbw:=below2 hb1 hb2
 rw [hs1] at hn2
 have HS1:Hid (W1§=w§ + 1):=hs1
 obtain ⟨W2, e2⟩:∃ W, W1.alloc (.cells r.vals 88)=W:=⟨_, rfl⟩
 have E2:Hid (W1.alloc (.cells r.vals 88)=W2):=e2
 rw [e2] at hn2 hk2 hbw
 have HB:Hid (Below w§ w W2):=hbw
 have HN:Hid (W2.heap[w§ + 1]?=some (.cells r.vals 88 (0, 0))∧W2.heap[w§]?=some (.cells #[.map (some b), .map (some b2), .map (some b3)] 118 (0, 0))):=⟨hn2, hk2⟩
 have k0:W2.cell? ⟨w§, 0, none⟩=some (.map (some b)):=Co hk2 0
 have k1:W2.cell? ⟨w§, 1, none⟩=some (.map (some b2)):=Co hk2 1
 have k2:W2.cell? ⟨w§, 2, none⟩=some (.map (some b3)):=Co hk2 2
 have c0:W2.cell? ⟨w§ + 1, 0, none⟩=some (zU r.m.h.k):=Co hn2 0
 have c1:W2.cell? ⟨w§ + 1, 1, none⟩=some (zU r.m.h.o):=Co hn2 1
 have c2:W2.cell? ⟨w§ + 1, 2, none⟩=some (zU r.m.h.t):=Co hn2 2
 have c3:W2.cell? ⟨w§ + 1, 3, none⟩=some (zI r.m.h.n):=Co hn2 3
 have c4:W2.cell? ⟨w§ + 1, 4, none⟩=some (zU r.m.h.f):=Co hn2 4
 have c5:W2.cell? ⟨w§ + 1, 5, none⟩=some (.string r.m.h.x):=Co hn2 5
 have c6:W2.cell? ⟨w§ + 1, 6, none⟩=some (.slice r.m.a r.m.ks.length r.m.c):=Co hn2 6
 have c7:W2.cell? ⟨w§ + 1, 7, none⟩=some (zI r.m.h.p):=Co hn2 7
 have cP:Calls zG 105 #[.agg #[.map (some b), .map (some b2), .map (some b3)], .agg #[zU r.m.h.k, zU r.m.h.o, zU r.m.h.t, zI r.m.h.n, zU r.m.h.f, .string r.m.h.x, .slice r.m.a r.m.ks.length r.m.c, zI r.m.h.p, zU 5]] W2 (OutC W2 (pcE L (r.m, 5))):=checkPart_any b b2 b3 L (r.m, 5) W2 (hk.on hbw).r (hf.on hbw) (hl.1.on hbw) ho.1 (hg.on hbw)
 have HH:Hid (Kn w b b2 b3 L S2 S3∧FTab w∧Ety w∧RuleL w r∧RuOk L r):=⟨hk, hf, hg, hl, ho⟩
 clear hb1 hn1 hs1 hb2 hk2 hn2 hbw hk e1 e2 hf hl ho hg
 go_enter Tryz.func67, Tryz.ntmps67
 go_upto_region 1 with fail
 rw [E1.out, E2.out]
 try rw [HS1.out]
 clear E1 E2 HS1
 go_wp2_with fail
 refine cP.mono ?_
 rintro e w3 (⟨h1, rfl, hb3⟩ | ⟨p, no, T, v, h1, rfl, her, hb3⟩)
 ·have HB3:Hid (Below w§ w w3):=below2 HB.out hb3
  have g1:=(hb3.block _ (Array.getElem?_eq_some_iff.1 HN.out.1).1).trans HN.out.1
  have g2:=(hb3.block _ (Array.getElem?_eq_some_iff.1 HN.out.2).1).trans HN.out.2
  have m0:w3.cell? ⟨w§, 0, none⟩=some (.map (some b)):=Co g2 0
  have m1:w3.cell? ⟨w§, 1, none⟩=some (.map (some b2)):=Co g2 1
  have m2:w3.cell? ⟨w§, 2, none⟩=some (.map (some b3)):=Co g2 2
  have a8:w3.cell? ⟨w§ + 1, 8, none⟩=some (.slice r.a r.ds.length r.c):=Co g1 8
  have cD:Calls zG 106 #[.agg #[.map (some b), .map (some b2), .map (some b3)], .slice r.a r.ds.length r.c] w3 (OutC w3 (dosE L S2 S3 false r.ds)):=checkDos_any b b2 b3 L S2 S3 r.a r.c r.ds w3 (HH.out.1.on HB3.out) (HH.out.2.1.on HB3.out) (HH.out.2.2.1.on HB3.out) (HH.out.2.2.2.1.on HB3.out).2.1 (fun d hd => ⟨(HH.out.2.2.2.1.on HB3.out).2.2.1 d hd, fun q hq => ⟨pts_lies ((HH.out.2.2.2.1.on HB3.out).2.2.1 d hd) q hq, HH.out.2.2.2.2.2 d hd q hq⟩⟩)
  have HR:Hid (ruE L S2 S3 r=dosE L S2 S3 false r.ds):=by show _=_; unfold ruE; rw [h1]
  clear g1 g2 h1 hb3 cP k0 k1 k2 c0 c1 c2 c3 c4 c5 c6 c7
  go_wp2_with fail
  refine cD.mono ?_
  rintro e w4 (⟨h1, rfl, hb4⟩ | ⟨p, no, T, v, h1, rfl, her, hb4⟩)
  ·have HB4:Hid (Below w§ w w4):=below2 HB3.out hb4
   have HR2:Hid (ruE L S2 S3 r=none):=HR.out.trans h1
   clear h1 hb4 cD
   go_wp2_with fail
   go_ret
   exact .inl ⟨HR2.out, rfl, HB4.out⟩
  ·have HB4:Hid (Below w§ w w4∧Er w4 (.iface T v) no p):=⟨below2 HB3.out hb4, her⟩
   have HR2:Hid (ruE L S2 S3 r=some (p, no)):=HR.out.trans h1
   clear h1 hb4 her cD
   go_wp2_with fail
   go_ret
   exact .inr ⟨p, no, T, v, HR2.out, rfl, HB4.out.2, HB4.out.1⟩
 ·have HB3:Hid (Below w§ w w3∧Er w3 (.iface T v) no p):=⟨below2 HB.out hb3, her⟩
  have HR:Hid (ruE L S2 S3 r=some (p, no)):=by show _=_; unfold ruE; rw [h1]
  clear h1 hb3 her cP k0 k1 k2 c0 c1 c2 c3 c4 c5 c6 c7
  go_wp2_with fail
  go_ret
  exact .inr ⟨p, no, T, v, HR.out, rfl, HB3.out.2, HB3.out.1⟩
end Go.Proofs.YtjimaceccllnlaaGreatDoor
