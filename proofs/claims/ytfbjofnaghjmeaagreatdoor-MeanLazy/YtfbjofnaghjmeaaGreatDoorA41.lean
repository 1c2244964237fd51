import Derived.Test.YtfbjofnaghjmeaaGreatDoorA40
namespace Go.Proofs.YtfbjofnaghjmeaaGreatDoor
open Go.Proofs.Tryz
set_option maxHeartbeats 32000000
set_option maxRecDepth 100000
open Go Go.RowKit
set_option linter.unusedVariables false
set_option linter.unusedSimpArgs false
theorem Qey (S:Qg) (m:ModM) (s:Sx.Sn) (a b c:Nd) (w:yW) (hl:Qr w S) (hm:ModL w m) (hi:∀ f,I64 (Sx.getN s f)) (la:Lies w a) (lb:Lies w b) (lc:Lies w c) (ht:Tab w) (hf:FTab w) (hg:Ety w) :
  Calls zG 3 #[.agg S.vals,.agg m.vals,.agg (Sx.snA s),.agg a.vals,.agg b.vals,.agg c.vals] w fun e w'=>e=.returned (.bool true)∧yD w w':=by
 obtain⟨h6,hb6⟩:=QgO (s:=s) hl hm la lb lc ht hf hg
 obtain⟨W,eW⟩:∃ W,(((((zA w S.vals 26).alloc (.cells m.vals 29)).alloc (.cells (Sx.snA s) 31)).alloc (.cells a.vals 38)).alloc (.cells b.vals 38)).alloc (.cells c.vals 38)=W:=jV
 have EW:Hid ((((((zA w S.vals 26).alloc (.cells m.vals 29)).alloc (.cells (Sx.snA s) 31)).alloc (.cells a.vals 38)).alloc (.cells b.vals 38)).alloc (.cells c.vals 38)=W):=eW
 rw [eW] at h6 hb6
 obtain⟨g,eg⟩:∃ g,w§=g:=jV
 have HG:Hid (w§=g):=eg
 rw [eg] at h6
 have HB:Hid (yD w W):=hb6
 have H6:Hid (Bx6 W S m s a b c g):=h6
 have HI:Hid (∀ f,I64 (Sx.getN s f)):=hi
 clear h6 hb6 eW hl hm hi la lb lc ht hf hg eg
 go_enter func3,ntmps3
 go_upto_region 1 with fail
 rw [EW.out,HG.out]
 clear EW
 go_wp2_with fail
 refine (QcO W H6.out.t H6.out.f H6.out.e).mono ?_
 rintro e w1 ⟨rfl,hb⟩
 have HB1:Hid (yD w w1):=Qd HB.out hb
 have H61:Hid (Bx6 w1 S m s a b c g):=H6.out.on hb
 clear hb HB H6
 have cF:Calls zG 9 #[.agg S.vals,.agg m.vals,.agg a.vals] w1 fun e w'=>(∃ f:Bool,e=.returned (.bool f)∧(f=false→Q2 S∧m.rg.length≤65536∧size a≤65536))∧yD w1 w':=Pm S m a w1 H61.out.ls H61.out.la
 go_wp2_with (first | ((with_reducible refine l6S H61.out (.tmp 6) rfl rfl ?_ ?_);exact rfl) | ((with_reducible refine l6M H61.out (.tmp 7) rfl rfl ?_ ?_);exact rfl) | ((with_reducible refine l6W H61.out (.tmp 8) rfl rfl ?_ ?_);exact rfl) | ((with_reducible refine l6a H61.out (.tmp 9) rfl rfl ?_ ?_);exact rfl) | ((with_reducible refine l6b H61.out (.tmp 10) rfl rfl ?_ ?_);exact rfl) | ((with_reducible refine l6c H61.out (.tmp 11) rfl rfl ?_ ?_);exact rfl))
 refine cF.mono ?_
 rintro e w2 ⟨⟨fa,rfl,hz⟩,hb⟩
 have HB2:Hid (yD w w2):=Qd HB1.out hb
 have H62:Hid (Bx6 w2 S m s a b c g):=H61.out.on hb
 have HZa:Hid (fa=false→Q2 S∧m.rg.length≤65536∧size a≤65536):=hz
 clear hb hz cF HB1 H61
 have cF:Calls zG 9 #[.agg S.vals,.agg m.vals,.agg b.vals] w2 fun e w'=>(∃ f:Bool,e=.returned (.bool f)∧(f=false→Q2 S∧m.rg.length≤65536∧size b≤65536))∧yD w2 w':=Pm S m b w2 H62.out.ls H62.out.lb
 go_wp2_with (first | ((with_reducible refine l6S H62.out (.tmp 6) rfl rfl ?_ ?_);exact rfl) | ((with_reducible refine l6M H62.out (.tmp 7) rfl rfl ?_ ?_);exact rfl) | ((with_reducible refine l6W H62.out (.tmp 8) rfl rfl ?_ ?_);exact rfl) | ((with_reducible refine l6a H62.out (.tmp 9) rfl rfl ?_ ?_);exact rfl) | ((with_reducible refine l6b H62.out (.tmp 10) rfl rfl ?_ ?_);exact rfl) | ((with_reducible refine l6c H62.out (.tmp 11) rfl rfl ?_ ?_);exact rfl))
 refine cF.mono ?_
 rintro e w3 ⟨⟨fb,rfl,hz⟩,hb⟩
 have HB3:Hid (yD w w3):=Qd HB2.out hb
 have H63:Hid (Bx6 w3 S m s a b c g):=H62.out.on hb
 have HZb:Hid (fb=false→Q2 S∧m.rg.length≤65536∧size b≤65536):=hz
 clear hb hz cF HB2 H62
 have cF:Calls zG 9 #[.agg S.vals,.agg m.vals,.agg c.vals] w3 fun e w'=>(∃ f:Bool,e=.returned (.bool f)∧(f=false→Q2 S∧m.rg.length≤65536∧size c≤65536))∧yD w3 w':=Pm S m c w3 H63.out.ls H63.out.lc
 go_wp2_with (first | ((with_reducible refine l6S H63.out (.tmp 6) rfl rfl ?_ ?_);exact rfl) | ((with_reducible refine l6M H63.out (.tmp 7) rfl rfl ?_ ?_);exact rfl) | ((with_reducible refine l6W H63.out (.tmp 8) rfl rfl ?_ ?_);exact rfl) | ((with_reducible refine l6a H63.out (.tmp 9) rfl rfl ?_ ?_);exact rfl) | ((with_reducible refine l6b H63.out (.tmp 10) rfl rfl ?_ ?_);exact rfl) | ((with_reducible refine l6c H63.out (.tmp 11) rfl rfl ?_ ?_);exact rfl))
 refine cF.mono ?_
 rintro e w4 ⟨⟨fc,rfl,hz⟩,hb⟩
 have HB4:Hid (yD w w4):=Qd HB3.out hb
 have H64:Hid (Bx6 w4 S m s a b c g):=H63.out.on hb
 have HZc:Hid (fc=false→Q2 S∧m.rg.length≤65536∧size c≤65536):=hz
 clear hb hz cF HB3 H63
 cases fa
 case true =>
  go_wp2
  go_ret
  exact⟨rfl,HB4.out⟩
 cases fb
 case true =>
  go_wp2
  go_ret
  exact⟨rfl,HB4.out⟩
 cases fc
 case true =>
  go_wp2
  go_ret
  exact⟨rfl,HB4.out⟩
 have HZ:Hid (Q2 S∧m.rg.length≤65536∧size a≤65536∧size b≤65536∧size c≤65536):=⟨(HZa.out rfl).1,(HZa.out rfl).2.1,(HZa.out rfl).2.2,(HZb.out rfl).2.2,(HZc.out rfl).2.2⟩
 clear HZa HZb HZc
 have cO:Calls zG 10 #[.agg S.vals,.agg a.vals] w4 (OutO w4 (ofE S a)):=Hj S a w4 H64.out.ls H64.out.la (by have:=HZ.out;omega)
 go_wp2_with (first | ((with_reducible refine l6S H64.out (.tmp 6) rfl rfl ?_ ?_);exact rfl) | ((with_reducible refine l6M H64.out (.tmp 7) rfl rfl ?_ ?_);exact rfl) | ((with_reducible refine l6W H64.out (.tmp 8) rfl rfl ?_ ?_);exact rfl) | ((with_reducible refine l6a H64.out (.tmp 9) rfl rfl ?_ ?_);exact rfl) | ((with_reducible refine l6b H64.out (.tmp 10) rfl rfl ?_ ?_);exact rfl) | ((with_reducible refine l6c H64.out (.tmp 11) rfl rfl ?_ ?_);exact rfl))
 refine cO.mono ?_
 rintro e va ⟨ta,Ea,Pa,Ba,rfl,hO,hb⟩
 have HOa:Hid (FlO (ofE S a) ta Ea Pa Ba):=hO
 have HN:Hid ((zA va zi 43).heap[va§]? = (zC zi 43)):=Qc _ _
 have HBv:Hid (yD w4 va):=hb
 clear cO hO hb
 go_upto_region 8 with (refine wpList_store_row rfl 43 (.tmp 18) (.tmp 69) rfl va§ #[zI Ea,zI Pa,.bool Ba] rfl rfl 43 _ HN.out (FV ..) rfl (Qfq ..) ?_)
 generalize hWX:World.setRow _ _ _=w5
 have hWY:(zA va zi 43).setRow va§ #[zI Ea,zI Pa,.bool Ba]=w5:=hWX
 have hbx:yD va w5:=by rw [← hWY];exact Qn (Qb _ _) (Nat.le_refl _) _
 have HQa:Hid (w5.heap[va§]? = (zC #[zI Ea,zI Pa,.bool Ba] 43)):=by show _=_;rw [← hWY];exact setRow_heap _ _ _ _ _ _ HN.out
 obtain⟨qa,eq⟩:∃ q,va§=q:=jV
 rw [eq] at HQa ⊢
 have HBX:=Qd HBv.out hbx
 have HB5:Hid (yD w w5):=Qd HB4.out HBX
 have H65:Hid (Bx6 w5 S m s a b c g):=H64.out.on HBX
 clear hWX hWY hbx HN HBv eq HBX HB4 H64
 have cO:Calls zG 10 #[.agg S.vals,.agg b.vals] w5 (OutO w5 (ofE S b)):=Hj S b w5 H65.out.ls H65.out.lb (by have:=HZ.out;omega)
 go_wp2_with (first | ((with_reducible refine l6S H65.out (.tmp 6) rfl rfl ?_ ?_);exact rfl) | ((with_reducible refine l6M H65.out (.tmp 7) rfl rfl ?_ ?_);exact rfl) | ((with_reducible refine l6W H65.out (.tmp 8) rfl rfl ?_ ?_);exact rfl) | ((with_reducible refine l6a H65.out (.tmp 9) rfl rfl ?_ ?_);exact rfl) | ((with_reducible refine l6b H65.out (.tmp 10) rfl rfl ?_ ?_);exact rfl) | ((with_reducible refine l6c H65.out (.tmp 11) rfl rfl ?_ ?_);exact rfl))
 refine cO.mono ?_
 rintro e vb ⟨tb,Eb,Pb,Bb,rfl,hO,hb⟩
 have HOb:Hid (FlO (ofE S b) tb Eb Pb Bb):=hO
 have HN:Hid ((zA vb zi 43).heap[vb§]? = (zC zi 43)):=Qc _ _
 have HBv:Hid (yD w5 vb):=hb
 clear cO hO hb
 go_upto_region 9 with (refine wpList_store_row rfl 43 (.tmp 20) (.tmp 75) rfl vb§ #[zI Eb,zI Pb,.bool Bb] rfl rfl 43 _ HN.out (FV ..) rfl (Qfq ..) ?_)
 generalize hWX:World.setRow _ _ _=w6
 have hWY:(zA vb zi 43).setRow vb§ #[zI Eb,zI Pb,.bool Bb]=w6:=hWX
 have hbx:yD vb w6:=by rw [← hWY];exact Qn (Qb _ _) (Nat.le_refl _) _
 have HQb:Hid (w6.heap[vb§]? = (zC #[zI Eb,zI Pb,.bool Bb] 43)):=by show _=_;rw [← hWY];exact setRow_heap _ _ _ _ _ _ HN.out
 obtain⟨qb,eq⟩:∃ q,vb§=q:=jV
 rw [eq] at HQb ⊢
 have HBX:=Qd HBv.out hbx
 have HB6:Hid (yD w w6):=Qd HB5.out HBX
 have H66:Hid (Bx6 w6 S m s a b c g):=H65.out.on HBX
 have HQa':Hid (w6.heap[qa]? = (zC #[zI Ea,zI Pa,.bool Ba] 43)):=heapOf HBX HQa.out
 clear HQa
 have HQa:=HQa'
 clear HQa'
 clear hWX hWY hbx HN HBv eq HBX HB5 H65
 have cO:Calls zG 10 #[.agg S.vals,.agg c.vals] w6 (OutO w6 (ofE S c)):=Hj S c w6 H66.out.ls H66.out.lc (by have:=HZ.out;omega)
 go_wp2_with (first | ((with_reducible refine l6S H66.out (.tmp 6) rfl rfl ?_ ?_);exact rfl) | ((with_reducible refine l6M H66.out (.tmp 7) rfl rfl ?_ ?_);exact rfl) | ((with_reducible refine l6W H66.out (.tmp 8) rfl rfl ?_ ?_);exact rfl) | ((with_reducible refine l6a H66.out (.tmp 9) rfl rfl ?_ ?_);exact rfl) | ((with_reducible refine l6b H66.out (.tmp 10) rfl rfl ?_ ?_);exact rfl) | ((with_reducible refine l6c H66.out (.tmp 11) rfl rfl ?_ ?_);exact rfl))
 refine cO.mono ?_
 rintro e vc ⟨tc,Ec,Pc,Bc,rfl,hO,hb⟩
 have HOc:Hid (FlO (ofE S c) tc Ec Pc Bc):=hO
 have HN:Hid ((zA vc zi 43).heap[vc§]? = (zC zi 43)):=Qc _ _
 have HBv:Hid (yD w6 vc):=hb
 clear cO hO hb
 go_upto_region 10 with (refine wpList_store_row rfl 43 (.tmp 22) (.tmp 81) rfl vc§ #[zI Ec,zI Pc,.bool Bc] rfl rfl 43 _ HN.out (FV ..) rfl (Qfq ..) ?_)
 generalize hWX:World.setRow _ _ _=w7
 have hWY:(zA vc zi 43).setRow vc§ #[zI Ec,zI Pc,.bool Bc]=w7:=hWX
 have hbx:yD vc w7:=by rw [← hWY];exact Qn (Qb _ _) (Nat.le_refl _) _
 have HQc:Hid (w7.heap[vc§]? = (zC #[zI Ec,zI Pc,.bool Bc] 43)):=by show _=_;rw [← hWY];exact setRow_heap _ _ _ _ _ _ HN.out
 obtain⟨qc,eq⟩:∃ q,vc§=q:=jV
 rw [eq] at HQc ⊢
 have HBX:=Qd HBv.out hbx
 have HB7:Hid (yD w w7):=Qd HB6.out HBX
 have H67:Hid (Bx6 w7 S m s a b c g):=H66.out.on HBX
 have HQa':Hid (w7.heap[qa]? = (zC #[zI Ea,zI Pa,.bool Ba] 43)):=heapOf HBX HQa.out
 clear HQa
 have HQa:=HQa'
 clear HQa'
 have HQb':Hid (w7.heap[qb]? = (zC #[zI Eb,zI Pb,.bool Bb] 43)):=heapOf HBX HQb.out
 clear HQb
 have HQb:=HQb'
 clear HQb'
 clear hWX hWY hbx HN HBv eq HBX HB6 H66
 have cV:=KD S a m s w7 H67.out.ls HZ.out.1 H67.out.la (by have:=HZ.out;omega) H67.out.lm HZ.out.2.1 HI.out H67.out.t H67.out.f H67.out.e
 obtain⟨X,eX⟩:∃ z,(mvN S a m s).1=z:=jV
 obtain⟨E0,eE0⟩:∃ z,(mvN S a m s).2=z:=jV
 rw [eX,eE0] at cV
 have HVa:Hid ((mvN S a m s).1=X∧(mvN S a m s).2=E0):=⟨eX,eE0⟩
 clear eX eE0
 go_upto_region 10 with fail
 try simp only [Act.put]
 go_cut [23,24] from 39 to 90 (fun u v wx=>u=zI X∧v=zI E0∧Hid (yD w wx)∧Hid (Bx6 wx S m s a b c g)∧Hid (wx.heap[qa]? = (zC #[zI Ea,zI Pa,.bool Ba] 43))∧Hid (wx.heap[qb]? = (zC #[zI Eb,zI Pb,.bool Bb] 43))∧Hid (wx.heap[qc]? = (zC #[zI Ec,zI Pc,.bool Bc] 43)))
 case first =>
  go_wp2_with (first | ((with_reducible refine l6S H67.out (.tmp 6) rfl rfl ?_ ?_);exact rfl) | ((with_reducible refine l6M H67.out (.tmp 7) rfl rfl ?_ ?_);exact rfl) | ((with_reducible refine l6W H67.out (.tmp 8) rfl rfl ?_ ?_);exact rfl) | ((with_reducible refine l6a H67.out (.tmp 9) rfl rfl ?_ ?_);exact rfl) | ((with_reducible refine l6b H67.out (.tmp 10) rfl rfl ?_ ?_);exact rfl) | ((with_reducible refine l6c H67.out (.tmp 11) rfl rfl ?_ ?_);exact rfl))
  refine cV.mono ?_
  rintro e w8 ⟨rfl,hb⟩
  have HB8:Hid (yD w w8):=Qd HB7.out hb
  have H68:Hid (Bx6 w8 S m s a b c g):=H67.out.on hb
  have HQa':Hid (w8.heap[qa]? = (zC #[zI Ea,zI Pa,.bool Ba] 43)):=heapOf hb HQa.out
  have HQb':Hid (w8.heap[qb]? = (zC #[zI Eb,zI Pb,.bool Bb] 43)):=heapOf hb HQb.out
  have HQc':Hid (w8.heap[qc]? = (zC #[zI Ec,zI Pc,.bool Bc] 43)):=heapOf hb HQc.out
  clear hb cV HB7 H67 HQa HQb HQc
  go_wp2_with fail
  go_meet
  case rel=>exact⟨rfl,rfl,HB8,H68,HQa',HQb',HQc'⟩
 case rest =>
  clear cV HB7 H67 HQa HQb HQc
  obtain⟨rfl,rfl,HB8,H68,HQa,HQb,HQc⟩:=hcut
  rename yW=>w8
  have cV:=KD S b m s w8 H68.out.ls HZ.out.1 H68.out.lb (by have:=HZ.out;omega) H68.out.lm HZ.out.2.1 HI.out H68.out.t H68.out.f H68.out.e
  obtain⟨Y,eY⟩:∃ z,(mvN S b m s).1=z:=jV
  obtain⟨D,eD⟩:∃ z,(mvN S b m s).2=z:=jV
  rw [eY,eD] at cV
  have HVb:Hid ((mvN S b m s).1=Y∧(mvN S b m s).2=D):=⟨eY,eD⟩
  clear eY eD
  go_upto_region 11 with fail
  try simp only [Act.put]
  go_cut [25,26] from 90 to 98 (fun u v wx=>u=zI Y∧v=zI D∧Hid (yD w wx)∧Hid (Bx6 wx S m s a b c g)∧Hid (wx.heap[qa]? = (zC #[zI Ea,zI Pa,.bool Ba] 43))∧Hid (wx.heap[qb]? = (zC #[zI Eb,zI Pb,.bool Bb] 43))∧Hid (wx.heap[qc]? = (zC #[zI Ec,zI Pc,.bool Bc] 43)))
  case first =>
   go_wp2_with (first | ((with_reducible refine l6S H68.out (.tmp 6) rfl rfl ?_ ?_);exact rfl) | ((with_reducible refine l6M H68.out (.tmp 7) rfl rfl ?_ ?_);exact rfl) | ((with_reducible refine l6W H68.out (.tmp 8) rfl rfl ?_ ?_);exact rfl) | ((with_reducible refine l6a H68.out (.tmp 9) rfl rfl ?_ ?_);exact rfl) | ((with_reducible refine l6b H68.out (.tmp 10) rfl rfl ?_ ?_);exact rfl) | ((with_reducible refine l6c H68.out (.tmp 11) rfl rfl ?_ ?_);exact rfl))
   refine cV.mono ?_
   rintro e w9 ⟨rfl,hb⟩
   have HB9:Hid (yD w w9):=Qd HB8.out hb
   have H69:Hid (Bx6 w9 S m s a b c g):=H68.out.on hb
   have HQa':Hid (w9.heap[qa]? = (zC #[zI Ea,zI Pa,.bool Ba] 43)):=heapOf hb HQa.out
   have HQb':Hid (w9.heap[qb]? = (zC #[zI Eb,zI Pb,.bool Bb] 43)):=heapOf hb HQb.out
   have HQc':Hid (w9.heap[qc]? = (zC #[zI Ec,zI Pc,.bool Bc] 43)):=heapOf hb HQc.out
   clear hb cV HB8 H68 HQa HQb HQc
   go_wp2_with fail
   go_meet
   case rel=>exact⟨rfl,rfl,HB9,H69,HQa',HQb',HQc'⟩
  case rest =>
   clear cV HB8 H68 HQa HQb HQc
   obtain⟨rfl,rfl,HB9,H69,HQa,HQb,HQc⟩:=hcut
   rename yW=>w9
   have ca:zQ w9 qa¢0 (zI Ea):=Qa HQa.out 0
   have cb:zQ w9 qb¢0 (zI Eb):=Qa HQb.out 0
   have cc:zQ w9 qc¢0 (zI Ec):=Qa HQc.out 0
   clear HQa HQb HQc
   by_cases k1:Ea=0
   case neg =>
    have kb1:(Ea != 0)=true:=by simp [k1]
    go_wp2
    go_ret
    exact⟨rfl,HB9.out⟩
   have kb1:(Ea != 0)=false:=by simp [k1]
   by_cases k2:Eb=0
   case neg =>
    have kb2:(Eb != 0)=true:=by simp [k2]
    go_wp2
    go_ret
    exact⟨rfl,HB9.out⟩
   have kb2:(Eb != 0)=false:=by simp [k2]
   by_cases k3:Ec=0
   case neg =>
    have kb3:(Ec != 0)=true:=by simp [k3]
    go_wp2
    go_ret
    exact⟨rfl,HB9.out⟩
   have kb3:(Ec != 0)=false:=by simp [k3]
   by_cases k4:ta=5
   case neg =>
    have kb4:(ta != 5)=true:=by simp [k4]
    go_wp2
    go_ret
    exact⟨rfl,HB9.out⟩
   have kb4:(ta != 5)=false:=by simp [k4]
   by_cases k5:E0=0
   case neg =>
    have kb5:(E0 != 0)=true:=by simp [k5]
    go_wp2
    go_ret
    exact⟨rfl,HB9.out⟩
   have kb5:(E0 != 0)=false:=by simp [k5]
   go_upto_region 14 with fail
   clear ca cb cc
   have hOa:ofE S a=.ok 5:=by
    rcases HOa.out with ⟨h,_⟩ | ⟨_,_,_,h⟩
    ·rw [h,k4]
    ·exact absurd k1 h
   have hOb:ofE S b=.ok tb:=by
    rcases HOb.out with ⟨h,_⟩ | ⟨_,_,_,h⟩
    ·exact h
    ·exact absurd k2 h
   have hOc:ofE S c=.ok tc:=by
    rcases HOc.out with ⟨h,_⟩ | ⟨_,_,_,h⟩
    ·exact h
    ·exact absurd k3 h
   have HL:=fun r1 r2 r3 r4 r5=>QaG (m:=m) (s:=s) hOa hOb hOc (HVa.out.2.trans k5) r1 r2 r3 r4 r5
   have HLL:Hid _:=HL
   clear HL hOa hOb hOc HOa HOb HOc k1 k2 k3 k4 k5 kb1 kb2 kb3 kb4 kb5
   go_cut [27,28] from 119 to 131 (fun u v wx=>∃ r10 YES P,u=zI YES∧v=zI P∧Hid (mvN S (cndN r10 a b c) m s=(YES,P))∧Hid (yD w wx)∧Hid (Bx6 wx S m s a b c g))
   case first =>
    have bA:=Qb w9 (.cells (a.vals ++ b.vals ++ c.vals) 38)
    have nA:=Qc w9 (.cells (a.vals ++ b.vals ++ c.vals) 38)
    obtain⟨WA,eA⟩:∃ V,w9.alloc (.cells (a.vals ++ b.vals ++ c.vals) 38)=V:=jV
    have EA:Hid (w9.alloc (.cells (a.vals ++ b.vals ++ c.vals) 38)=WA):=eA
    rw [eA] at bA nA
    obtain⟨r10,er⟩:∃ r,w9§=r:=jV
    have ER:Hid (w9§=r10):=er
    rw [er] at nA
    have H6A:Hid (Bx6 WA S m s a b c g):=H69.out.on bA
    have HBA:Hid (yD w WA):=Qd HB9.out bA
    have cV:Calls zG 11 #[.agg S.vals,.agg #[zU 7,zU 0,zU 0,zI 0,zU 0,yQ,.slice (some r10¢0) 3 3,zI 0],.agg m.vals,.agg (Sx.snA s)] WA (fun e w'=>e=.returned (.tuple #[zI (mvN S (cndN r10 a b c) m s).1,zI (mvN S (cndN r10 a b c) m s).2])∧yD WA w') :=
     KD S (cndN r10 a b c) m s _ H6A.out.ls HZ.out.1 (Ff nA H6A.out.la H6A.out.lb H6A.out.lc) (by have:=HZ.out;simp only [cndN,size,JG];omega) H6A.out.lm HZ.out.2.1 HI.out H6A.out.t H6A.out.f H6A.out.e
    obtain⟨YES,e1⟩:∃ z,(mvN S (cndN r10 a b c) m s).1=z:=jV
    obtain⟨P,e2⟩:∃ z,(mvN S (cndN r10 a b c) m s).2=z:=jV
    rw [e1,e2] at cV
    have HR:Hid (mvN S (cndN r10 a b c) m s=(YES,P)):=Prod.ext e1 e2
    clear e1 e2 bA nA er eA
    go_wp2_with (first | (first | ((with_reducible refine l6S H69.out (.tmp 6) rfl rfl ?_ ?_);exact rfl) | ((with_reducible refine l6M H69.out (.tmp 7) rfl rfl ?_ ?_);exact rfl) | ((with_reducible refine l6W H69.out (.tmp 8) rfl rfl ?_ ?_);exact rfl) | ((with_reducible refine l6a H69.out (.tmp 9) rfl rfl ?_ ?_);exact rfl) | ((with_reducible refine l6b H69.out (.tmp 10) rfl rfl ?_ ?_);exact rfl) | ((with_reducible refine l6c H69.out (.tmp 11) rfl rfl ?_ ?_);exact rfl)) | (first | ((with_reducible refine l6S H6A.out (.tmp 6) rfl rfl ?_ ?_);exact rfl) | ((with_reducible refine l6M H6A.out (.tmp 7) rfl rfl ?_ ?_);exact rfl) | ((with_reducible refine l6W H6A.out (.tmp 8) rfl rfl ?_ ?_);exact rfl) | ((with_reducible refine l6a H6A.out (.tmp 9) rfl rfl ?_ ?_);exact rfl) | ((with_reducible refine l6b H6A.out (.tmp 10) rfl rfl ?_ ?_);exact rfl) | ((with_reducible refine l6c H6A.out (.tmp 11) rfl rfl ?_ ?_);exact rfl)) | ((with_reducible refine nsl3 rfl (.tmp 121) (.tmp 122) (.tmp 123) rfl a b c EA.out ER.out ?_ ?_ ?_ ?_);exact rfl;exact rfl;exact rfl))
    refine cV.mono ?_
    rintro e w10 ⟨rfl,hb⟩
    have HB10:Hid (yD w w10):=Qd HBA.out hb
    have H610:Hid (Bx6 w10 S m s a b c g):=H6A.out.on hb
    clear hb cV HBA H6A HB9 H69 EA ER
    go_wp2_with fail
    go_meet
    case rel=>exact⟨r10,YES,P,rfl,rfl,HR,HB10,H610⟩
   case rest =>
    clear HB9 H69
    obtain⟨r10,YES,P,rfl,rfl,HR10,HB10,H610⟩:=hcut
    rename yW=>w10
    go_upto_region 15 with fail
    go_cut [29,30] from 131 to 145 (fun u v wx=>∃ rn r11 NO Q,u=zI NO∧v=zI Q∧Hid (mvN S (cndN r11 (notN rn a) c b) m s=(NO,Q))∧Hid (yD w wx)∧Hid (Bx6 wx S m s a b c g))
    case first =>
     have bN:=Qb w10 (.cells a.vals 38)
     have nN:=Qc w10 (.cells a.vals 38)
     obtain⟨WN,eN⟩:∃ V,w10.alloc (.cells a.vals 38)=V:=jV
     have EN:Hid (w10.alloc (.cells a.vals 38)=WN):=eN
     rw [eN] at bN nN
     obtain⟨rn,ern⟩:∃ r,w10§=r:=jV
     have ERN:Hid (w10§=rn):=ern
     rw [ern] at nN
     have H6N:Hid (Bx6 WN S m s a b c g):=H610.out.on bN
     have HBN:Hid (yD w WN):=Qd HB10.out bN
     have LN:Lies WN (notN rn a):=Qex nN H6N.out.la
     have bA:=Qb WN (.cells ((notN rn a).vals ++ c.vals ++ b.vals) 38)
     have nA:=Qc WN (.cells ((notN rn a).vals ++ c.vals ++ b.vals) 38)
     obtain⟨WA,eA⟩:∃ V,WN.alloc (.cells ((notN rn a).vals ++ c.vals ++ b.vals) 38)=V:=jV
     have EA:Hid (WN.alloc (.cells ((notN rn a).vals ++ c.vals ++ b.vals) 38)=WA):=eA
     rw [eA] at bA nA
     obtain⟨r11,er⟩:∃ r,WN§=r:=jV
     have ER:Hid (WN§=r11):=er
     rw [er] at nA
     have H6A:Hid (Bx6 WA S m s a b c g):=H6N.out.on bA
     have HBA:Hid (yD w WA):=Qd HBN.out bA
     have cV:Calls zG 11 #[.agg S.vals,.agg #[zU 7,zU 0,zU 0,zI 0,zU 0,yQ,.slice (some r11¢0) 3 3,zI 0],.agg m.vals,.agg (Sx.snA s)] WA (fun e w'=>e=.returned (.tuple #[zI (mvN S (cndN r11 (notN rn a) c b) m s).1,zI (mvN S (cndN r11 (notN rn a) c b) m s).2])∧yD WA w') :=
      KD S (cndN r11 (notN rn a) c b) m s _ H6A.out.ls HZ.out.1 (Ff nA (LN.on bA) H6A.out.lc H6A.out.lb) (by have:=HZ.out;simp only [cndN,notN,size,JG];omega) H6A.out.lm HZ.out.2.1 HI.out H6A.out.t H6A.out.f H6A.out.e
     obtain⟨NO,e1⟩:∃ z,(mvN S (cndN r11 (notN rn a) c b) m s).1=z:=jV
     obtain⟨Q,e2⟩:∃ z,(mvN S (cndN r11 (notN rn a) c b) m s).2=z:=jV
     rw [e1,e2] at cV
     have HR:Hid (mvN S (cndN r11 (notN rn a) c b) m s=(NO,Q)):=Prod.ext e1 e2
     clear e1 e2 bA nA er bN nN eN LN ern eA
     go_wp2_with (first | (first | ((with_reducible refine l6S H610.out (.tmp 6) rfl rfl ?_ ?_);exact rfl) | ((with_reducible refine l6M H610.out (.tmp 7) rfl rfl ?_ ?_);exact rfl) | ((with_reducible refine l6W H610.out (.tmp 8) rfl rfl ?_ ?_);exact rfl) | ((with_reducible refine l6a H610.out (.tmp 9) rfl rfl ?_ ?_);exact rfl) | ((with_reducible refine l6b H610.out (.tmp 10) rfl rfl ?_ ?_);exact rfl) | ((with_reducible refine l6c H610.out (.tmp 11) rfl rfl ?_ ?_);exact rfl)) | (first | ((with_reducible refine l6S H6N.out (.tmp 6) rfl rfl ?_ ?_);exact rfl) | ((with_reducible refine l6M H6N.out (.tmp 7) rfl rfl ?_ ?_);exact rfl) | ((with_reducible refine l6W H6N.out (.tmp 8) rfl rfl ?_ ?_);exact rfl) | ((with_reducible refine l6a H6N.out (.tmp 9) rfl rfl ?_ ?_);exact rfl) | ((with_reducible refine l6b H6N.out (.tmp 10) rfl rfl ?_ ?_);exact rfl) | ((with_reducible refine l6c H6N.out (.tmp 11) rfl rfl ?_ ?_);exact rfl)) | (first | ((with_reducible refine l6S H6A.out (.tmp 6) rfl rfl ?_ ?_);exact rfl) | ((with_reducible refine l6M H6A.out (.tmp 7) rfl rfl ?_ ?_);exact rfl) | ((with_reducible refine l6W H6A.out (.tmp 8) rfl rfl ?_ ?_);exact rfl) | ((with_reducible refine l6a H6A.out (.tmp 9) rfl rfl ?_ ?_);exact rfl) | ((with_reducible refine l6b H6A.out (.tmp 10) rfl rfl ?_ ?_);exact rfl) | ((with_reducible refine l6c H6A.out (.tmp 11) rfl rfl ?_ ?_);exact rfl)) | ((with_reducible refine nsl1 rfl (.tmp 133) rfl a EN.out ERN.out ?_ ?_);exact rfl) | ((with_reducible refine nsl3 rfl (.tmp 135) (.tmp 136) (.tmp 137) rfl (notN rn a) c b EA.out ER.out ?_ ?_ ?_ ?_);exact rfl;exact rfl;exact rfl))
     refine cV.mono ?_
     rintro e w11 ⟨rfl,hb⟩
     have HB11:Hid (yD w w11):=Qd HBA.out hb
     have H611:Hid (Bx6 w11 S m s a b c g):=H6A.out.on hb
     clear hb cV HBA H6A HB10 H610 H6N HBN EN ERN EA ER
     go_wp2_with fail
     go_meet
     case rel=>exact⟨rn,r11,NO,Q,rfl,rfl,HR,HB11,H611⟩
    case rest =>
     clear HB10 H610
     obtain⟨rn,r11,NO,Q,rfl,rfl,HR11,HB11,H611⟩:=hcut
     rename yW=>w11
     go_upto_region 16 with fail
     go_cut [31,32] from 145 to 156 (fun u v wx=>∃ r12 AN R,u=zI AN∧v=zI R∧Hid (mvN S (prN r12 17 a b) m s=(AN,R))∧Hid (yD w wx)∧Hid (Bx6 wx S m s a b c g))
     case first =>
      have bA:=Qb w11 (.cells (a.vals ++ b.vals) 38)
      have nA:=Qc w11 (.cells (a.vals ++ b.vals) 38)
      obtain⟨WA,eA⟩:∃ V,w11.alloc (.cells (a.vals ++ b.vals) 38)=V:=jV
      have EA:Hid (w11.alloc (.cells (a.vals ++ b.vals) 38)=WA):=eA
      rw [eA] at bA nA
      obtain⟨r12,er⟩:∃ r,w11§=r:=jV
      have ER:Hid (w11§=r12):=er
      rw [er] at nA
      have H6A:Hid (Bx6 WA S m s a b c g):=H611.out.on bA
      have HBA:Hid (yD w WA):=Qd HB11.out bA
      have cV:Calls zG 11 #[.agg S.vals,.agg #[zU 6,zU 17,zU 0,zI 0,zU 0,yQ,.slice (some r12¢0) 2 2,zI 0],.agg m.vals,.agg (Sx.snA s)] WA (fun e w'=>e=.returned (.tuple #[zI (mvN S (prN r12 17 a b) m s).1,zI (mvN S (prN r12 17 a b) m s).2])∧yD WA w') :=
       KD S (prN r12 17 a b) m s _ H6A.out.ls HZ.out.1 (Qbr nA H6A.out.la H6A.out.lb (by decide) (by decide)) (by have:=HZ.out;simp only [prN,size,JG];omega) H6A.out.lm HZ.out.2.1 HI.out H6A.out.t H6A.out.f H6A.out.e
      obtain⟨AN,e1⟩:∃ z,(mvN S (prN r12 17 a b) m s).1=z:=jV
      obtain⟨R,e2⟩:∃ z,(mvN S (prN r12 17 a b) m s).2=z:=jV
      rw [e1,e2] at cV
      have HR:Hid (mvN S (prN r12 17 a b) m s=(AN,R)):=Prod.ext e1 e2
      clear e1 e2 bA nA er eA
      go_wp2_with (first | (first | ((with_reducible refine l6S H611.out (.tmp 6) rfl rfl ?_ ?_);exact rfl) | ((with_reducible refine l6M H611.out (.tmp 7) rfl rfl ?_ ?_);exact rfl) | ((with_reducible refine l6W H611.out (.tmp 8) rfl rfl ?_ ?_);exact rfl) | ((with_reducible refine l6a H611.out (.tmp 9) rfl rfl ?_ ?_);exact rfl) | ((with_reducible refine l6b H611.out (.tmp 10) rfl rfl ?_ ?_);exact rfl) | ((with_reducible refine l6c H611.out (.tmp 11) rfl rfl ?_ ?_);exact rfl)) | (first | ((with_reducible refine l6S H6A.out (.tmp 6) rfl rfl ?_ ?_);exact rfl) | ((with_reducible refine l6M H6A.out (.tmp 7) rfl rfl ?_ ?_);exact rfl) | ((with_reducible refine l6W H6A.out (.tmp 8) rfl rfl ?_ ?_);exact rfl) | ((with_reducible refine l6a H6A.out (.tmp 9) rfl rfl ?_ ?_);exact rfl) | ((with_reducible refine l6b H6A.out (.tmp 10) rfl rfl ?_ ?_);exact rfl) | ((with_reducible refine l6c H6A.out (.tmp 11) rfl rfl ?_ ?_);exact rfl)) | ((with_reducible refine nsl2 rfl (.tmp 147) (.tmp 148) rfl a b EA.out ER.out ?_ ?_ ?_);exact rfl;exact rfl))
      refine cV.mono ?_
      rintro e w12 ⟨rfl,hb⟩
      have HB12:Hid (yD w w12):=Qd HBA.out hb
      have H612:Hid (Bx6 w12 S m s a b c g):=H6A.out.on hb
      clear hb cV HBA H6A HB11 H611 EA ER
      go_wp2_with fail
      go_meet
      case rel=>exact⟨r12,AN,R,rfl,rfl,HR,HB12,H612⟩
     case rest =>
      clear HB11 H611
      obtain⟨r12,AN,R,rfl,rfl,HR12,HB12,H612⟩:=hcut
      rename yW=>w12
      go_upto_region 17 with fail
      go_cut [33,34] from 156 to 167 (fun u v wx=>∃ r13 OR V,u=zI OR∧v=zI V∧Hid (mvN S (prN r13 18 a b) m s=(OR,V))∧Hid (yD w wx)∧Hid (Bx6 wx S m s a b c g))
      case first =>
       have bA:=Qb w12 (.cells (a.vals ++ b.vals) 38)
       have nA:=Qc w12 (.cells (a.vals ++ b.vals) 38)
       obtain⟨WA,eA⟩:∃ V,w12.alloc (.cells (a.vals ++ b.vals) 38)=V:=jV
       have EA:Hid (w12.alloc (.cells (a.vals ++ b.vals) 38)=WA):=eA
       rw [eA] at bA nA
       obtain⟨r13,er⟩:∃ r,w12§=r:=jV
       have ER:Hid (w12§=r13):=er
       rw [er] at nA
       have H6A:Hid (Bx6 WA S m s a b c g):=H612.out.on bA
       have HBA:Hid (yD w WA):=Qd HB12.out bA
       have cV:Calls zG 11 #[.agg S.vals,.agg #[zU 6,zU 18,zU 0,zI 0,zU 0,yQ,.slice (some r13¢0) 2 2,zI 0],.agg m.vals,.agg (Sx.snA s)] WA (fun e w'=>e=.returned (.tuple #[zI (mvN S (prN r13 18 a b) m s).1,zI (mvN S (prN r13 18 a b) m s).2])∧yD WA w') :=
        KD S (prN r13 18 a b) m s _ H6A.out.ls HZ.out.1 (Qbr nA H6A.out.la H6A.out.lb (by decide) (by decide)) (by have:=HZ.out;simp only [prN,size,JG];omega) H6A.out.lm HZ.out.2.1 HI.out H6A.out.t H6A.out.f H6A.out.e
       obtain⟨OR,e1⟩:∃ z,(mvN S (prN r13 18 a b) m s).1=z:=jV
       obtain⟨V,e2⟩:∃ z,(mvN S (prN r13 18 a b) m s).2=z:=jV
       rw [e1,e2] at cV
       have HR:Hid (mvN S (prN r13 18 a b) m s=(OR,V)):=Prod.ext e1 e2
       clear e1 e2 bA nA er eA
       go_wp2_with (first | (first | ((with_reducible refine l6S H612.out (.tmp 6) rfl rfl ?_ ?_);exact rfl) | ((with_reducible refine l6M H612.out (.tmp 7) rfl rfl ?_ ?_);exact rfl) | ((with_reducible refine l6W H612.out (.tmp 8) rfl rfl ?_ ?_);exact rfl) | ((with_reducible refine l6a H612.out (.tmp 9) rfl rfl ?_ ?_);exact rfl) | ((with_reducible refine l6b H612.out (.tmp 10) rfl rfl ?_ ?_);exact rfl) | ((with_reducible refine l6c H612.out (.tmp 11) rfl rfl ?_ ?_);exact rfl)) | (first | ((with_reducible refine l6S H6A.out (.tmp 6) rfl rfl ?_ ?_);exact rfl) | ((with_reducible refine l6M H6A.out (.tmp 7) rfl rfl ?_ ?_);exact rfl) | ((with_reducible refine l6W H6A.out (.tmp 8) rfl rfl ?_ ?_);exact rfl) | ((with_reducible refine l6a H6A.out (.tmp 9) rfl rfl ?_ ?_);exact rfl) | ((with_reducible refine l6b H6A.out (.tmp 10) rfl rfl ?_ ?_);exact rfl) | ((with_reducible refine l6c H6A.out (.tmp 11) rfl rfl ?_ ?_);exact rfl)) | ((with_reducible refine nsl2 rfl (.tmp 158) (.tmp 159) rfl a b EA.out ER.out ?_ ?_ ?_);exact rfl;exact rfl))
       refine cV.mono ?_
       rintro e w13 ⟨rfl,hb⟩
       have HB13:Hid (yD w w13):=Qd HBA.out hb
       have H613:Hid (Bx6 w13 S m s a b c g):=H6A.out.on hb
       clear hb cV HBA H6A HB12 H612 EA ER
       go_wp2_with fail
       go_meet
       case rel=>exact⟨r13,OR,V,rfl,rfl,HR,HB13,H613⟩
      case rest =>
       clear HB12 H612
       obtain⟨r13,OR,V,rfl,rfl,HR13,HB13,H613⟩:=hcut
       rename yW=>w13
       obtain⟨f0,f1,f2,f3,f4⟩:=HLL.out r10 rn r11 r12 r13
       simp only [HVa.out.1] at f0 f1 f2 f3 f4
       rw [HR10.out] at f1
       rw [HR11.out] at f2
       rw [HR12.out] at f3
       rw [HR13.out] at f4
       rw [show mvN S b m s=(Y,D) from Prod.ext HVb.out.1 HVb.out.2] at f1 f2 f3 f4
       simp only [Prod.mk.injEq] at f1 f2 f3 f4
       have F0:Hid (X=0∨X=1):=f0
       have F1:Hid (X=1→P=152∨P=122∨(YES=Y∧P=D)):=f1
       have F2:Hid (X=1→Q=152∨Q=122∨(NO=Y∧Q=D)):=f2
       have F3:Hid (R=122∨(¬ tb=5∧R=152)∨(tb=5∧(X=0→AN=0∧R=0)∧(X=1→AN=Y∧R=D))):=f3
       have F4:Hid (V=122∨(¬ tb=5∧V=152)∨(tb=5∧(X=1→OR=1∧V=0)∧(X=0→OR=Y∧V=D))):=f4
       clear f0 f1 f2 f3 f4 HLL HR10 HR11 HR12 HR13 HVa HVb H613 HZ HI
       go_upto_region 18 with fail
       go_cut [35] from 167 to 187 (fun u wx=>u=.bool true∧wx=w13)
       case first =>
        by_cases h1:X=1
        ·have g1:(X != 1)=false:=by simp [h1]
         by_cases h2:P=152
         ·have g2:(P == 152)=true:=by simp [h2]
          go_wp2_with fail
          go_meet
          case rel=>exact⟨rfl,rfl⟩
         ·have g2:(P == 152)=false:=by simp [h2]
          by_cases h3:P=122
          ·have g3:(P == 122)=true:=by simp [h3]
           go_wp2_with fail
           go_meet
           case rel=>exact⟨rfl,rfl⟩
          ·have g3:(P == 122)=false:=by simp [h3]
           have g4:(YES == Y)=true∧(P == D)=true:=by
            rcases F1.out h1 with h | h | ⟨h4,h5⟩
            ·exact absurd h h2
            ·exact absurd h h3
            ·exact⟨beq_iff_eq.2 h4,beq_iff_eq.2 h5⟩
           obtain⟨g4,g5⟩:=g4
           go_wp2_with fail
           go_meet
           case rel=>exact⟨rfl,rfl⟩
        ·have g1:(X != 1)=true:=by simp [h1]
         go_wp2_with fail
         go_meet
         case rel=>exact⟨rfl,rfl⟩
       case rest =>
        obtain⟨rfl,rfl⟩:=hcut
        rename yW=>w13
        go_upto_region 19 with fail
        go_cut [36] from 187 to 207 (fun u wx=>u=.bool true∧wx=w13)
        case first =>
         by_cases h1:X=1
         ·have g1:(X != 1)=false:=by simp [h1]
          by_cases h2:Q=152
          ·have g2:(Q == 152)=true:=by simp [h2]
           go_wp2_with fail
           go_meet
           case rel=>exact⟨rfl,rfl⟩
          ·have g2:(Q == 152)=false:=by simp [h2]
           by_cases h3:Q=122
           ·have g3:(Q == 122)=true:=by simp [h3]
            go_wp2_with fail
            go_meet
            case rel=>exact⟨rfl,rfl⟩
           ·have g3:(Q == 122)=false:=by simp [h3]
            have g4:(NO == Y)=true∧(Q == D)=true:=by
             rcases F2.out h1 with h | h | ⟨h4,h5⟩
             ·exact absurd h h2
             ·exact absurd h h3
             ·exact⟨beq_iff_eq.2 h4,beq_iff_eq.2 h5⟩
            obtain⟨g4,g5⟩:=g4
            go_wp2_with fail
            go_meet
            case rel=>exact⟨rfl,rfl⟩
         ·have g1:(X != 1)=true:=by simp [h1]
          go_wp2_with fail
          go_meet
          case rel=>exact⟨rfl,rfl⟩
        case rest =>
         obtain⟨rfl,rfl⟩:=hcut
         rename yW=>w13
         by_cases hu:tb=5
         case neg =>
          have gu:(tb != 5)=true:=by simp [hu]
          have hR:R=122∨R=152:=by
           rcases F3.out with h | ⟨_,h⟩ | ⟨h,_⟩
           ·exact .inl h
           ·exact .inr h
           ·exact absurd h hu
          have hV:V=122∨V=152:=by
           rcases F4.out with h | ⟨_,h⟩ | ⟨h,_⟩
           ·exact .inl h
           ·exact .inr h
           ·exact absurd h hu
          clear hu F0 F1 F2 F3 F4
          rcases hR with rfl | rfl <;> rcases hV with rfl | rfl <;> (go_wp2_with fail;go_ret;exact⟨rfl,HB13.out⟩)
         have gu:(tb != 5)=false:=by simp [hu]
         go_upto_region 22 with fail
         clear gu
         go_cut [37] from 229 to 257 (fun u wx=>u=.bool true∧wx=w13)
         case first =>
          by_cases h1:R=122
          ·have g1:(R == 122)=true:=by simp [h1]
           clear F0 F1 F2 F3 F4
           go_wp2_with fail
           go_meet
           case rel=>exact⟨rfl,rfl⟩
          ·have g1:(R == 122)=false:=by simp [h1]
           have hf:(X=0→AN=0∧R=0)∧(X=1→AN=Y∧R=D):=by
            rcases F3.out with h | ⟨h,_⟩ | ⟨_,h⟩
            ·exact absurd h h1
            ·exact absurd hu h
            ·exact h
           by_cases h0:X=0
           ·obtain⟨k1,k2⟩:=hf.1 h0
            subst h0 k1 k2
            clear hf F0 F1 F2 F3 F4 g1
            go_wp2_with fail
            go_meet
            case rel=>exact⟨rfl,rfl⟩
           ·have hx:X=1:=by have:=F0.out;omega
            obtain⟨k1,k2⟩:=hf.2 hx
            subst hx k1 k2
            clear hf F0 F1 F2 F3 F4
            go_wp2_with fail
            go_meet
            case rel=>exact⟨rfl,rfl⟩
         case rest =>
          obtain⟨rfl,rfl⟩:=hcut
          rename yW=>w13
          go_upto_region 23 with fail
          go_cut [38] from 257 to 285 (fun u wx=>u=.bool true∧wx=w13)
          case first =>
           by_cases h1:V=122
           ·have g1:(V == 122)=true:=by simp [h1]
            clear F0 F1 F2 F3 F4
            go_wp2_with fail
            go_meet
            case rel=>exact⟨rfl,rfl⟩
           ·have g1:(V == 122)=false:=by simp [h1]
            have hf:(X=1→OR=1∧V=0)∧(X=0→OR=Y∧V=D):=by
             rcases F4.out with h | ⟨h,_⟩ | ⟨_,h⟩
             ·exact absurd h h1
             ·exact absurd hu h
             ·exact h
            by_cases h0:X=1
            ·obtain⟨k1,k2⟩:=hf.1 h0
             subst h0 k1 k2
             clear hf F0 F1 F2 F3 F4 g1
             go_wp2_with fail
             go_meet
             case rel=>exact⟨rfl,rfl⟩
            ·have hx:X=0:=by have:=F0.out;omega
             obtain⟨k1,k2⟩:=hf.2 hx
             subst hx k1 k2
             clear hf F0 F1 F2 F3 F4
             go_wp2_with fail
             go_meet
             case rel=>exact⟨rfl,rfl⟩
          case rest =>
           obtain⟨rfl,rfl⟩:=hcut
           rename yW=>w13
           go_wp2
           go_ret
           exact⟨rfl,HB13.out⟩
end Go.Proofs.YtfbjofnaghjmeaaGreatDoor
