import Derived.Test.YtoogodlnnijikaaGreatDoorA0
import Derived.Test.YtoogodlnnijikaaGreatDoorA37
namespace Go.Proofs.YtoogodlnnijikaaGreatDoor
open Go.RowKit
set_option linter.unusedVariables false
set_option linter.unusedSimpArgs false
set_option maxRecDepth 100000 in
set_option maxHeartbeats 32000000 in
theorem parts15_3 (S:StratM) (a b c:Nd) (w:World) (hs:StratL w S) (ha:Lies w a) (hb:Lies w b) (hc:Lies w c) (ht:Tab w) (hf:FTab w) (hg:Ety w) (hP:∀ x y z:Int,ofE S a=.ok x→ofE S b=.ok y→ofE S c=.ok z→¬ y=z) :
  Calls zG 5 #[.agg S.vals,.agg a.vals,.agg b.vals,.agg c.vals] w fun e w'=>e=.returned (.bool true)∧Below w§ w w':=by
 obtain⟨h4,kk⟩:=B4.new hs ha hb hc
 have HT:Hid (Tab w∧FTab w∧Ety w):=⟨ht,hf,hg⟩
 have HP:Hid (∀ x y z:Int,ofE S a=.ok x→ofE S b=.ok y→ofE S c=.ok z→¬ y=z):=hP
 obtain⟨V,eV⟩:∃ V,(((w.alloc (.cells S.vals 27)).alloc (.cells a.vals 48)).alloc (.cells b.vals 48)).alloc (.cells c.vals 48)=V:=⟨_,rfl⟩
 rw [eV] at h4 kk
 have HV:Hid ((((w.alloc (.cells S.vals 27)).alloc (.cells a.vals 48)).alloc (.cells b.vals 48)).alloc (.cells c.vals 48)=V):=eV
 have H0:Hid (B4 S a b c w§ V∧Below w§ w V):=⟨h4,kk⟩
 clear hs ha hb hc ht hf hg h4 kk eV hP
 have c0:=awake_any V (HT.out.1.on H0.out.2) (HT.out.2.1.on H0.out.2) (HT.out.2.2.on H0.out.2)
 go_enter Tryz.func5,Tryz.ntmps5
 go_upto_region 1 with fail
 rw [HV.out]
 clear HV
 go_wp2_with fail
 refine c0.mono ?_
 rintro e v0 ⟨rfl,hb0⟩
 have G0:Hid (B4 S a b c w§ v0∧Below w§ w v0):=⟨H0.out.1.on hb0,below2 H0.out.2 hb0⟩
 clear c0 hb0 H0
 have c1:=far_any S a v0 G0.out.1.s G0.out.1.la
 go_wp2_with (first | (refine wpList_load_row rfl 27 _ rfl w§ rfl 27 S.vals (0,0) _ G0.out.1.g0 Tryz.underlying27 rfl size26s ?_) | (refine wpList_load_row rfl 48 _ rfl (w§+1) rfl 48 a.vals (0,0) _ G0.out.1.g1 Tryz.underlying48 rfl sizeN ?_))
 refine c1.mono ?_
 rintro e v1 ⟨⟨f1,rfl,hf1⟩,hb1⟩
 have G1:Hid (B4 S a b c w§ v1∧Below w§ w v1):=⟨G0.out.1.on hb1,below2 G0.out.2 hb1⟩
 have F1:Hid (f1=false→StratZ S∧size a≤1048576):=hf1
 clear c1 hb1 hf1 G0
 have c1:=far_any S b v1 G1.out.1.s G1.out.1.lb
 go_wp2_with (first | (refine wpList_load_row rfl 27 _ rfl w§ rfl 27 S.vals (0,0) _ G1.out.1.g0 Tryz.underlying27 rfl size26s ?_) | (refine wpList_load_row rfl 48 _ rfl (w§+1+1) rfl 48 b.vals (0,0) _ G1.out.1.g2 Tryz.underlying48 rfl sizeN ?_))
 refine c1.mono ?_
 rintro e v2 ⟨⟨f2,rfl,hf2⟩,hb1⟩
 have G2:Hid (B4 S a b c w§ v2∧Below w§ w v2):=⟨G1.out.1.on hb1,below2 G1.out.2 hb1⟩
 have F2:Hid (f2=false→StratZ S∧size b≤1048576):=hf2
 clear c1 hb1 hf2 G1
 have c1:=far_any S c v2 G2.out.1.s G2.out.1.lc
 go_wp2_with (first | (refine wpList_load_row rfl 27 _ rfl w§ rfl 27 S.vals (0,0) _ G2.out.1.g0 Tryz.underlying27 rfl size26s ?_) | (refine wpList_load_row rfl 48 _ rfl (w§+1+1+1) rfl 48 c.vals (0,0) _ G2.out.1.g3 Tryz.underlying48 rfl sizeN ?_))
 refine c1.mono ?_
 rintro e v3 ⟨⟨f3,rfl,hf3⟩,hb1⟩
 have G3:Hid (B4 S a b c w§ v3∧Below w§ w v3):=⟨G2.out.1.on hb1,below2 G2.out.2 hb1⟩
 have F3:Hid (f3=false→StratZ S∧size c≤1048576):=hf3
 clear c1 hb1 hf3 G2
 cases f1
 case true =>
  go_wp2_with fail
  go_ret
  exact⟨rfl,G3.out.2⟩
 cases f2
 case true =>
  go_wp2_with fail
  go_ret
  exact⟨rfl,G3.out.2⟩
 cases f3
 case true =>
  go_wp2_with fail
  go_ret
  exact⟨rfl,G3.out.2⟩
 have HZ:Hid (size a≤1048576∧size b≤1048576∧size c≤1048576):=⟨(F1.out rfl).2,(F2.out rfl).2,(F3.out rfl).2⟩
 clear F1 F2 F3
 have c4:=types3_any S a b c v3 G3.out.1.s G3.out.1.la G3.out.1.lb G3.out.1.lc (by have:=HZ.out; omega) (by have:=HZ.out; omega) (by have:=HZ.out; omega) (HT.out.1.on G3.out.2) (HT.out.2.1.on G3.out.2)
 go_wp2_with (first | (refine wpList_load_row rfl 27 _ rfl w§ rfl 27 S.vals (0,0) _ G3.out.1.g0 Tryz.underlying27 rfl size26s ?_) | (refine wpList_load_row rfl 48 _ rfl (w§+1) rfl 48 a.vals (0,0) _ G3.out.1.g1 Tryz.underlying48 rfl sizeN ?_) | (refine wpList_load_row rfl 48 _ rfl (w§+1+1) rfl 48 b.vals (0,0) _ G3.out.1.g2 Tryz.underlying48 rfl sizeN ?_) | (refine wpList_load_row rfl 48 _ rfl (w§+1+1+1) rfl 48 c.vals (0,0) _ G3.out.1.g3 Tryz.underlying48 rfl sizeN ?_))
 refine c4.mono ?_
 rintro e v4 ⟨⟨x,y,z,ok,rfl,hok⟩,hb4⟩
 have G4:Hid (B4 S a b c w§ v4∧Below w§ w v4):=⟨G3.out.1.on hb4,below2 G3.out.2 hb4⟩
 have HOK:Hid (ok=true→ofE S a=.ok x∧ofE S b=.ok y∧ofE S c=.ok z):=hok
 clear c4 hb4 hok G3
 cases ok
 case false =>
  go_wp2_with fail
  go_ret
  exact⟨rfl,G4.out.2⟩
 have HO:Hid (ofE S a=.ok x∧ofE S b=.ok y∧ofE S c=.ok z):=HOK.out rfl
 clear HOK
 have k5:=below_new v4 (.cells (a.vals ++ b.vals ++ c.vals) 48)
 have n5:=heap_new v4 (.cells (a.vals ++ b.vals ++ c.vals) 48)
 have G5:Hid (B4 S a b c w§ (v4.alloc (.cells (a.vals ++ b.vals ++ c.vals) 48))∧Below w§ w (v4.alloc (.cells (a.vals ++ b.vals ++ c.vals) 48))):=⟨G4.out.1.on k5,below2 G4.out.2 k5⟩
 have c5:=ofP S (kC v4§ a b c) (v4.alloc (.cells (a.vals ++ b.vals ++ c.vals) 48)) G5.out.1.s (lies_kC n5 G5.out.1.la G5.out.1.lb G5.out.1.lc) (by have:=HZ.out; simp only [kC,size,sizes]; omega) (HT.out.1.on G5.out.2) (HT.out.2.1.on G5.out.2)
 have HC:Hid (ofE S (kC v4§ a b c)=.error (0,122)∨ofE S (kC v4§ a b c)=if x == 5 && y == z then .ok y else .error (0,152)):=cond_of HO.out.1 HO.out.2.1 HO.out.2.2 _
 clear k5 n5
 go_wp2_with (first | (first | (refine wpList_load_row rfl 27 _ rfl w§ rfl 27 S.vals (0,0) _ G4.out.1.g0 Tryz.underlying27 rfl size26s ?_) | (refine wpList_load_row rfl 48 _ rfl (w§+1) rfl 48 a.vals (0,0) _ G4.out.1.g1 Tryz.underlying48 rfl sizeN ?_) | (refine wpList_load_row rfl 48 _ rfl (w§+1+1) rfl 48 b.vals (0,0) _ G4.out.1.g2 Tryz.underlying48 rfl sizeN ?_) | (refine wpList_load_row rfl 48 _ rfl (w§+1+1+1) rfl 48 c.vals (0,0) _ G4.out.1.g3 Tryz.underlying48 rfl sizeN ?_)) | (refine wpList_slice3 rfl 46 48 _ _ _ rfl a.vals b.vals c.vals rfl rfl rfl 8 _ Tryz.underlying46 72 infN8 rfl rfl rfl rfl (by decide) (by decide) ?_))
 refine c5.mono ?_
 rintro e v5 ⟨tc,vc,pc,rfl,rc,hb5⟩
 have G6:Hid (B4 S a b c w§ v5∧Below w§ w v5∧OfR S (kC v4§ a b c) v5 tc vc pc):=⟨G5.out.1.on hb5,below2 G5.out.2 hb5,rc⟩
 have HRC:Hid ((x == 5 && y == z)=true∧vc=.nilIface∧tc=y∧pc=0∨∃ b,vc=.iface 118 (zP b)∧tc=0∧((x == 5 && y == z)=false∧pc=152∨pc=122)):=res_of rc HC.out
 clear c5 rc hb5 G5 G4 HC
 generalize v4§=A4 at G6
 have k5:=below_new v5 (.cells (b.vals ++ c.vals) 48)
 have n5:=heap_new v5 (.cells (b.vals ++ c.vals) 48)
 have G7:Hid (B4 S a b c w§ (v5.alloc (.cells (b.vals ++ c.vals) 48))∧Below w§ w (v5.alloc (.cells (b.vals ++ c.vals) 48))∧OfR S (kC A4 a b c) (v5.alloc (.cells (b.vals ++ c.vals) 48)) tc vc pc):=⟨G6.out.1.on k5,below2 G6.out.2.1 k5,G6.out.2.2.on k5⟩
 have c5:=ofP S (kB 11 v5§ b c) (v5.alloc (.cells (b.vals ++ c.vals) 48)) G7.out.1.s (lies_kB 11 (by omega) n5 G7.out.1.lb G7.out.1.lc) (by have:=HZ.out; simp only [kB,size,sizes]; omega) (HT.out.1.on G7.out.2.1) (HT.out.2.1.on G7.out.2.1)
 have HC:Hid (ofE S (kB 11 v5§ b c)=.error (0,122)∨ofE S (kB 11 v5§ b c)=if y == z then .ok 5 else .error (0,152)):=eq_of HO.out.2.1 HO.out.2.2 _
 clear k5 n5
 go_wp2_with (first | (first | (refine wpList_load_row rfl 27 _ rfl w§ rfl 27 S.vals (0,0) _ G6.out.1.g0 Tryz.underlying27 rfl size26s ?_) | (refine wpList_load_row rfl 48 _ rfl (w§+1+1) rfl 48 b.vals (0,0) _ G6.out.1.g2 Tryz.underlying48 rfl sizeN ?_) | (refine wpList_load_row rfl 48 _ rfl (w§+1+1+1) rfl 48 c.vals (0,0) _ G6.out.1.g3 Tryz.underlying48 rfl sizeN ?_)) | (refine wpList_slice2 rfl 46 48 _ _ rfl b.vals c.vals rfl rfl 8 _ Tryz.underlying46 72 infN8 rfl rfl rfl (by decide) (by decide) ?_))
 refine c5.mono ?_
 rintro e v6 ⟨te,ve,pe,rfl,rc,hb5⟩
 have G8:Hid (B4 S a b c w§ v6∧Below w§ w v6∧OfR S (kC A4 a b c) v6 tc vc pc∧OfR S (kB 11 v5§ b c) v6 te ve pe):=⟨G7.out.1.on hb5,below2 G7.out.2.1 hb5,G7.out.2.2.on hb5,rc⟩
 have HRE:Hid ((y == z)=true∧ve=.nilIface∧te=5∧pe=0∨∃ b,ve=.iface 118 (zP b)∧te=0∧((y == z)=false∧pe=152∨pe=122)):=res_of rc HC.out
 clear c5 rc hb5 G7 G6 HC
 generalize v5§=A5 at G8
 have k5:=below_new v6 (.cells (b.vals ++ c.vals) 48)
 have n5:=heap_new v6 (.cells (b.vals ++ c.vals) 48)
 have G9:Hid (B4 S a b c w§ (v6.alloc (.cells (b.vals ++ c.vals) 48))∧Below w§ w (v6.alloc (.cells (b.vals ++ c.vals) 48))∧OfR S (kC A4 a b c) (v6.alloc (.cells (b.vals ++ c.vals) 48)) tc vc pc∧OfR S (kB 11 A5 b c) (v6.alloc (.cells (b.vals ++ c.vals) 48)) te ve pe):=⟨G8.out.1.on k5,below2 G8.out.2.1 k5,G8.out.2.2.1.on k5,G8.out.2.2.2.on k5⟩
 have c5:=ofP S (kB 6 v6§ b c) (v6.alloc (.cells (b.vals ++ c.vals) 48)) G9.out.1.s (lies_kB 6 (by omega) n5 G9.out.1.lb G9.out.1.lc) (by have:=HZ.out; simp only [kB,size,sizes]; omega) (HT.out.1.on G9.out.2.1) (HT.out.2.1.on G9.out.2.1)
 have HC:Hid (ofE S (kB 6 v6§ b c)=.error (0,122)∨ofE S (kB 6 v6§ b c)=if numY y && y == z then .ok y else .error (0,152)):=add_of HO.out.2.1 HO.out.2.2 _
 clear k5 n5
 go_wp2_with (first | (first | (refine wpList_load_row rfl 27 _ rfl w§ rfl 27 S.vals (0,0) _ G8.out.1.g0 Tryz.underlying27 rfl size26s ?_) | (refine wpList_load_row rfl 48 _ rfl (w§+1+1) rfl 48 b.vals (0,0) _ G8.out.1.g2 Tryz.underlying48 rfl sizeN ?_) | (refine wpList_load_row rfl 48 _ rfl (w§+1+1+1) rfl 48 c.vals (0,0) _ G8.out.1.g3 Tryz.underlying48 rfl sizeN ?_)) | (refine wpList_slice2 rfl 46 48 _ _ rfl b.vals c.vals rfl rfl 8 _ Tryz.underlying46 72 infN8 rfl rfl rfl (by decide) (by decide) ?_))
 refine c5.mono ?_
 rintro e v7 ⟨ta,va,pa,rfl,rc,hb5⟩
 have G10:Hid (Below w§ w v7∧OfR S (kC A4 a b c) v7 tc vc pc∧OfR S (kB 11 A5 b c) v7 te ve pe∧OfR S (kB 6 v6§ b c) v7 ta va pa):=⟨below2 G9.out.2.1 hb5,G9.out.2.2.1.on hb5,G9.out.2.2.2.on hb5,rc⟩
 have HRA:Hid ((numY y && y == z)=true∧va=.nilIface∧ta=y∧pa=0∨∃ b,va=.iface 118 (zP b)∧ta=0∧((numY y && y == z)=false∧pa=152∨pa=122)):=res_of rc HC.out
 clear c5 rc hb5 G9 G8 HC
 generalize v6§=A6 at G10
 have c6:=wrongP G10.out.2.1 (HT.out.2.2.on G10.out.1)
 go_wp2_with fail
 refine c6.mono ?_
 rintro e v8 ⟨⟨q1,rfl⟩,hb⟩
 have G11:Hid (Below w§ w v8∧OfR S (kB 11 A5 b c) v8 te ve pe∧OfR S (kB 6 A6 b c) v8 ta va pa):=⟨below2 G10.out.1 hb,G10.out.2.2.1.on hb,G10.out.2.2.2.on hb⟩
 clear c6 hb G10
 have c6:=wrongP G11.out.2.1 (HT.out.2.2.on G11.out.1)
 go_wp2_with fail
 refine c6.mono ?_
 rintro e v9 ⟨⟨q2,rfl⟩,hb⟩
 have G12:Hid (Below w§ w v9∧OfR S (kB 6 A6 b c) v9 ta va pa):=⟨below2 G11.out.1 hb,G11.out.2.2.on hb⟩
 clear c6 hb G11
 have c6:=wrongP G12.out.2 (HT.out.2.2.on G12.out.1)
 go_wp2_with fail
 refine c6.mono ?_
 rintro e vA ⟨⟨q3,rfl⟩,hb⟩
 have G13:Hid (Below w§ w vA):=below2 G12.out.1 hb
 clear c6 hb G12 HZ HT
 have hyz:=HP.out x y z HO.out.1 HO.out.2.1 HO.out.2.2
 have hyz0:(y == z)=false:=by simpa using hyz
 clear HP HO
 by_cases hx:x=5
 ·subst hx
  have RC:(∃ b,vc=.iface 118 (zP b)∧tc=0∧pc=152)∨(∃ b,vc=.iface 118 (zP b)∧tc=0∧pc=122):=by
   rcases HRC.out with ⟨g,_⟩ | ⟨b,h1,h2,⟨_,h3⟩ | h3⟩
   ·exact absurd g (by simp [numY, *])
   ·exact .inl ⟨b,h1,h2,h3⟩
   ·exact .inr ⟨b,h1,h2,h3⟩
  have RE:(∃ b,ve=.iface 118 (zP b)∧te=0∧pe=152)∨(∃ b,ve=.iface 118 (zP b)∧te=0∧pe=122):=by
   rcases HRE.out with ⟨g,_⟩ | ⟨b,h1,h2,⟨_,h3⟩ | h3⟩
   ·exact absurd g (by simp [numY, *])
   ·exact .inl ⟨b,h1,h2,h3⟩
   ·exact .inr ⟨b,h1,h2,h3⟩
  have RA:(∃ b,va=.iface 118 (zP b)∧ta=0∧pa=152)∨(∃ b,va=.iface 118 (zP b)∧ta=0∧pa=122):=by
   rcases HRA.out with ⟨g,_⟩ | ⟨b,h1,h2,⟨_,h3⟩ | h3⟩
   ·exact absurd g (by simp [numY, *])
   ·exact .inl ⟨b,h1,h2,h3⟩
   ·exact .inr ⟨b,h1,h2,h3⟩
  clear HRC HRE HRA
  rcases RC with ⟨b1,rfl,rfl,rfl⟩ | ⟨b1,rfl,rfl,rfl⟩ <;> rcases RE with ⟨b2,rfl,rfl,rfl⟩ | ⟨b2,rfl,rfl,rfl⟩ <;> rcases RA with ⟨b3,rfl,rfl,rfl⟩ | ⟨b3,rfl,rfl,rfl⟩ <;> (go_wp2_with fail; go_ret; exact⟨rfl,G13.out⟩)
 ·have hx0:(x == 5)=false:=by simpa using hx
  have RC:(∃ b,vc=.iface 118 (zP b)∧tc=0∧pc=152)∨(∃ b,vc=.iface 118 (zP b)∧tc=0∧pc=122):=by
   rcases HRC.out with ⟨g,_⟩ | ⟨b,h1,h2,⟨_,h3⟩ | h3⟩
   ·exact absurd g (by simp [numY, *])
   ·exact .inl ⟨b,h1,h2,h3⟩
   ·exact .inr ⟨b,h1,h2,h3⟩
  have RE:(∃ b,ve=.iface 118 (zP b)∧te=0∧pe=152)∨(∃ b,ve=.iface 118 (zP b)∧te=0∧pe=122):=by
   rcases HRE.out with ⟨g,_⟩ | ⟨b,h1,h2,⟨_,h3⟩ | h3⟩
   ·exact absurd g (by simp [numY, *])
   ·exact .inl ⟨b,h1,h2,h3⟩
   ·exact .inr ⟨b,h1,h2,h3⟩
  have RA:(∃ b,va=.iface 118 (zP b)∧ta=0∧pa=152)∨(∃ b,va=.iface 118 (zP b)∧ta=0∧pa=122):=by
   rcases HRA.out with ⟨g,_⟩ | ⟨b,h1,h2,⟨_,h3⟩ | h3⟩
   ·exact absurd g (by simp [numY, *])
   ·exact .inl ⟨b,h1,h2,h3⟩
   ·exact .inr ⟨b,h1,h2,h3⟩
  clear HRC HRE HRA
  rcases RC with ⟨b1,rfl,rfl,rfl⟩ | ⟨b1,rfl,rfl,rfl⟩ <;> rcases RE with ⟨b2,rfl,rfl,rfl⟩ | ⟨b2,rfl,rfl,rfl⟩ <;> rcases RA with ⟨b3,rfl,rfl,rfl⟩ | ⟨b3,rfl,rfl,rfl⟩ <;> (go_wp2_with fail; go_ret; exact⟨rfl,G13.out⟩)
end Go.Proofs.YtoogodlnnijikaaGreatDoor
