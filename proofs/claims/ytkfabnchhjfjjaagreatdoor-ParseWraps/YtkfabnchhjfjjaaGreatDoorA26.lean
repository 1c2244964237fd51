import Derived.Test.YtkfabnchhjfjjaaGreatDoorA0
import Derived.Test.YtkfabnchhjfjjaaGreatDoorA25
namespace Go.Proofs.YtkfabnchhjfjjaaGreatDoor
set_option maxRecDepth 100000
set_option maxHeartbeats 4000000
open Go.RowKit
set_option linter.unusedVariables false
theorem ErrAt.mv43 {w w':World}{s call:ByteArray}{f:Ft}{F B:Nat}{cs:Array Value}{fr:Nat × Nat}(h:ErrAt w s call f F) (hB:w.heap[B]? = some (.cells cs 43 fr)) (k:∀ j,j≠B→w'.heap[j]? = w.heap[j]?):ErrAt w' s call f F:=by
 have ne:∀ {j:Nat}{c:Array Value},w.heap[j]? = some (.cells c 76 (0,0))→j≠B:=fun h e=>by rw [e,hB] at h; cases h
 cases f with
 | tok no p=>exact (k _ (ne h)).trans h
 | lex =>
  obtain⟨fa,fe,h1,h2⟩:=h
  refine⟨fa,fe,(k _ (ne h1)).trans h1,h2.1,fun e=>⟨(h2.2 e).1,?_⟩⟩
  obtain⟨F',e1,e2⟩:=(h2.2 e).2
  exact⟨F',e1,(k _ (ne e2)).trans e2⟩
theorem wholeS_err (call s:ByteArray) (hs:s.size≤4194304) (w:World) (ht:Tab w) (f:Ft) (cX:∀ V b G fa fe a c,Rdr V b G (rdT s) fa fe 0 a c→Calls zG 26 #[zP b] V fun e w'=>e=pan (ftV fa fe f)∧Mv V w' (fun k=>k=b)) :
  Calls zG 25 #[.string call,.string s,.func (.func 26) #[] #[]] w (OutE s call w f):=by
 have hmf:∀ (fn:Fn) (first cap:Array Value) (w:World),(Instr.makeFunc fn first cap).run Tryz.prog w=.ok (.func fn first cap) w:=fun _ _ _ _=>rfl
 obtain⟨W3,eW3⟩:∃ W,(((w.alloc (.cells #[.string call] 9)).alloc (.cells zA9 43)).alloc (.cells #[.nilIface] 45))=W:=⟨_,rfl⟩
 have HW3:=zH eW3
 have b0:=Bn w (.cells #[.string call] 9)
 have b1:=Bn (w.alloc (.cells #[.string call] 9)) (.cells zA9 43)
 have b2:=Bn ((w.alloc (.cells #[.string call] 9)).alloc (.cells zA9 43)) (.cells #[.nilIface] 45)
 have n0:=Hn w (.cells #[.string call] 9)
 have n1:=Hn (w.alloc (.cells #[.string call] 9)) (.cells zA9 43)
 have n2:=Hn ((w.alloc (.cells #[.string call] 9)).alloc (.cells zA9 43)) (.cells #[.nilIface] 45)
 have s0:=Sa w (.cells #[.string call] 9)
 have s1:=Sa (w.alloc (.cells #[.string call] 9)) (.cells zA9 43)
 have s2:=Sa ((w.alloc (.cells #[.string call] 9)).alloc (.cells zA9 43)) (.cells #[.nilIface] 45)
 rw [eW3] at b2 n2 s2
 have HS3:Hid (W3§=w§+3):=by show _=_; omega
 have HB3:=zH (B2 (B2 b0 b1) b2)
 have H0:Hid (W3.heap[w§]? = some (.cells #[.string call] 9 (0,0))):=((b2.block _ (by omega)).trans (b1.block _ (by omega))).trans n0
 have H1:Hid (W3.heap[w§+1]? = some (.cells zA9 43 (0,0))):=by rw [s0] at n1; exact (b2.block _ (by omega)).trans n1
 have H2:Hid (W3.heap[w§+2]? = some (.cells #[.nilIface] 45 (0,0))):=by rw [s1,s0] at n2; exact n2
 have cN:=new_any s hs W3 (ht.on HB3.out)
 clear b0 b1 b2 n0 n1 n2 s0 s1 s2 eW3 ht
 go_enter_defers Tryz.func25,Tryz.ntmps25
 go_wp2_with fail
 try rw [HW3.out]
 refine cN.mono ?_
 rintro e w4 ⟨b,G,a,c,fa,fe,rfl,hR,hG,hb,hF,hFb,hB4⟩
 have HX4:=(show WX w W3 s call fa fe b G (rdT s) w4 from ⟨HB3.out,Mv.ofBelow hB4,hb,hG,⟨a,c,hR⟩,hF,hFb⟩).hid
 have cE:=cX _ _ _ _ _ _ _ hR
 clear cN hR hG hb hF hFb hB4
 go_wp2_with fail
 refine cE.mono ?_
 rintro e w5 ⟨rfl,hm⟩
 exact HX4.out.err61 HS3.out H0.out H1.out H2.out f hm _ rfl rfl
theorem wholeS_ok (call s:ByteArray) (hs:s.size≤4194304) (w:World) (ht:Tab w) (n m:ByteArray) (p:Int) (ts:List Tk) (hE:gEnd ts=.ok ()) (cX:∀ V b G fa fe a c,Rdr V b G (rdT s) fa fe 0 a c→Calls zG 26 #[zP b] V fun e w'=>∃ g cap,e=.returned (.agg #[.string n,.slice none 0 0,.slice none 0 0,.slice (some ⟨g,0,none⟩) 1 cap])∧Row w' 87 3 (.slice (some ⟨g,0,none⟩) 1 cap) 1 (sF m p)∧V§≤g∧(∃ a c,Rdr w' b G ts fa fe 0 a c)∧Mv V w' (fun k=>k=b)) :
  Calls zG 25 #[.string call,.string s,.func (.func 26) #[] #[]] w fun e w'=>∃ g cap,e=.returned (.tuple #[.agg #[.string n,.slice none 0 0,.slice none 0 0,.slice (some ⟨g,0,none⟩) 1 cap],.nilIface])∧Row w' 87 3 (.slice (some ⟨g,0,none⟩) 1 cap) 1 (sF m p)∧w§≤g∧Below w§ w w':=by
 have hmf:∀ (fn:Fn) (first cap:Array Value) (w:World),(Instr.makeFunc fn first cap).run Tryz.prog w=.ok (.func fn first cap) w:=fun _ _ _ _=>rfl
 obtain⟨W3,eW3⟩:∃ W,(((w.alloc (.cells #[.string call] 9)).alloc (.cells zA9 43)).alloc (.cells #[.nilIface] 45))=W:=⟨_,rfl⟩
 have HW3:=zH eW3
 have b0:=Bn w (.cells #[.string call] 9)
 have b1:=Bn (w.alloc (.cells #[.string call] 9)) (.cells zA9 43)
 have b2:=Bn ((w.alloc (.cells #[.string call] 9)).alloc (.cells zA9 43)) (.cells #[.nilIface] 45)
 have n0:=Hn w (.cells #[.string call] 9)
 have n1:=Hn (w.alloc (.cells #[.string call] 9)) (.cells zA9 43)
 have n2:=Hn ((w.alloc (.cells #[.string call] 9)).alloc (.cells zA9 43)) (.cells #[.nilIface] 45)
 have s0:=Sa w (.cells #[.string call] 9)
 have s1:=Sa (w.alloc (.cells #[.string call] 9)) (.cells zA9 43)
 have s2:=Sa ((w.alloc (.cells #[.string call] 9)).alloc (.cells zA9 43)) (.cells #[.nilIface] 45)
 rw [eW3] at b2 n2 s2
 have HS3:Hid (W3§=w§+3):=by show _=_; omega
 have HB3:=zH (B2 (B2 b0 b1) b2)
 have H0:Hid (W3.heap[w§]? = some (.cells #[.string call] 9 (0,0))):=((b2.block _ (by omega)).trans (b1.block _ (by omega))).trans n0
 have H1:Hid (W3.heap[w§+1]? = some (.cells zA9 43 (0,0))):=by rw [s0] at n1; exact (b2.block _ (by omega)).trans n1
 have H2:Hid (W3.heap[w§+2]? = some (.cells #[.nilIface] 45 (0,0))):=by rw [s1,s0] at n2; exact n2
 have cN:=new_any s hs W3 (ht.on HB3.out)
 clear b0 b1 b2 n0 n1 n2 s0 s1 s2 eW3 ht
 go_enter_defers Tryz.func25,Tryz.ntmps25
 go_wp2_with fail
 try rw [HW3.out]
 refine cN.mono ?_
 rintro e w4 ⟨b,G,a,c,fa,fe,rfl,hR,hG,hb,hF,hFb,hB4⟩
 have HX4:=(show WX w W3 s call fa fe b G (rdT s) w4 from ⟨HB3.out,Mv.ofBelow hB4,hb,hG,⟨a,c,hR⟩,hF,hFb⟩).hid
 have cE:=cX _ _ _ _ _ _ _ hR
 clear cN hR hG hb hF hFb hB4
 go_wp2_with fail
 refine cE.mono ?_
 rintro e w5 ⟨g,cap,rfl,hw,hg,hr,hm⟩
 have HX5:=(HX4.out.mv hm hr).hid
 have HG:Hid (Row w5 87 3 (.slice (some ⟨g,0,none⟩) 1 cap) 1 (sF m p)∧w§+3≤g∧g < w5§):=⟨hw,by have h1:=HX4.out.M.size; have h2:=HS3.out; omega,hw.lt g rfl⟩
 obtain⟨a5,c5,h5⟩:=HX5.out.R
 have cD:=end_any (h5.on (Bn w5 (.cells #[.string n,.slice none 0 0,.slice none 0 0,.slice (some ⟨g,0,none⟩) 1 cap] 43)))
 rw [hE] at cD
 clear cE hw hg hr hm HX4 h5
 go_wp2_with fail
 refine cD.mono ?_
 rintro e w7 ⟨he,hb7⟩
 obtain rfl:=he
 have HB7:Hid (Below w5§ w5 w7):=B2 (Bn _ _) hb7
 have hA7:w7.heap[w5§]? = some (.cells #[.string n,.slice none 0 0,.slice none 0 0,.slice (some ⟨g,0,none⟩) 1 cap] 43 (0,0)):=(hb7.block _ (by rw [Sa]; omega)).trans (Hn _ _)
 have hlow:∀ k,k < w§+3→w7.heap[k]? = W3.heap[k]?:=fun k hk=>(HB7.out.block k (Nat.lt_of_lt_of_le (by have:=HS3.out; omega) HX5.out.M.size)).trans (HX5.out.low (by have:=HS3.out; omega))
 have g1:=(hlow (w§+1) (by omega)).trans H1.out
 have g2:=(hlow (w§+2) (by omega)).trans H2.out
 obtain⟨Y,eY,hY1,hY2,hY3,hY4⟩:=fin4_43 g1 (.string n) (.slice none 0 0) (.slice none 0 0) (.slice (some ⟨g,0,none⟩) 1 cap)
 have hY2':Y.heap[w§+2]? = some (.cells #[.nilIface] 45 (0,0)):=(hY3 _ (by omega)).trans g2
 have hl7:w§+3≤w7§:=by have:=HX5.out.M.size; have:=HB7.out.size; have:=HS3.out; omega
 have hl5:w§+3≤w5§:=by have:=HX5.out.M.size; have:=HS3.out; omega
 have mY:Mv w Y (fun _=>False):=hY4 _ _ ((((Mv.ofBelow HX5.out.B).trans HX5.out.M (fun k e=>.inr (by have:=HX5.out.hb; have:=HS3.out; omega)))).trans (Mv.ofBelow HB7.out) (fun k e=>.inl e)) (by omega)
 have HEY:Hid (_=Y):=eY
 have HY:Hid (Y.heap[w§+1]? = some (.cells #[.string n,.slice none 0 0,.slice none 0 0,.slice (some ⟨g,0,none⟩) 1 cap] 43 (0,0))∧Y.heap[w§+2]? = some (.cells #[.nilIface] 45 (0,0))∧Y§=w7§∧(∀ k,k≠w§+1→Y.heap[k]? = w7.heap[k]?)∧Mv w Y (fun _=>False)∧w§+3≤w5§∧w5§≤w7§):=⟨hY1,hY2',hY2,hY3,mY,hl5,HB7.out.size⟩
 have z0:w7.cell? ⟨w§+1,0,none⟩=some (.string ⟨#[]⟩):=Co g1 0
 have q0:=Fo g1 0
 have y0:w7.cell? ⟨w5§,0,none⟩=some (.string n):=Co hA7 0
 have z1:w7.cell? ⟨w§+1,1,none⟩=some (.slice none 0 0):=Co g1 1
 have q1:=Fo g1 1
 have y1:w7.cell? ⟨w5§,1,none⟩=some (.slice none 0 0):=Co hA7 1
 have z2:w7.cell? ⟨w§+1,2,none⟩=some (.slice none 0 0):=Co g1 2
 have q2:=Fo g1 2
 have y2:w7.cell? ⟨w5§,2,none⟩=some (.slice none 0 0):=Co hA7 2
 have z3:w7.cell? ⟨w§+1,3,none⟩=some (.slice none 0 0):=Co g1 3
 have q3:=Fo g1 3
 have y3:w7.cell? ⟨w5§,3,none⟩=some (.slice (some ⟨g,0,none⟩) 1 cap):=Co hA7 3
 have v0:w7.cell? ⟨w§+1+1,0,none⟩=some .nilIface:=Co g2 0
 have v1:=Fo g2 0
 have hne1:w§+1≠w§+1+1:=by omega
 have hne2:w§+1+1≠w§+1:=by omega
 clear cD hb7 hA7 hlow g1 g2 eY hY1 hY2 hY3 hY4 hY2' hl7 hl5 mY
 go_wp2_with fail
 rw [HEY.out]
 refine leaves_cons (f:=61) (args:=#[zP w§,.pointer (some ⟨w§+2,0,none⟩)]) (by simp) (by simp [go_sem]) ?_
 refine (catch61_i ⟨w§,0,none⟩ ⟨w§+2,0,none⟩ _).mono ?_
 rintro e u' Z ⟨rfl,rfl,eZ⟩
 obtain⟨k1,k2',k3,k4,k5,k6,k7⟩:=HY.out
 have b9:=Bn (Y.setCell ⟨w§+2,0,none⟩ .nilIface) (.cells #[zI 0,.nilIface] 143)
 have s9:(Y.setCell ⟨w§+2,0,none⟩ .nilIface)§=Y§:=by simp [World.setCell]
 have oldZ:∀ k,k < Y§→k≠w§+2→Z.heap[k]? = Y.heap[k]?:=fun k hk hn=>by
  rw [eZ]
  exact (b9.block k (by omega)).trans (Below.heap_setCell _ _ _ _ hn)
 have z1:=(oldZ _ (by omega) (by omega)).trans k1
 have z2:Z.heap[w§+2]? = some (.cells #[.nilIface] 45 (0,0)):=by
  rw [eZ]
  exact (b9.block _ (by omega)).trans (Hs0 (j:=0) _ k2')
 have mZ:Mv w Z (fun _=>False):=by
  rw [eZ]
  exact (k5.setCell (a:=⟨w§+2,0,none⟩) (.inr (by show w§≤w§+2; omega)) _).alloc _
 have rZ:Row Z 87 3 (.slice (some ⟨g,0,none⟩) 1 cap) 1 (sF m p):=HG.out.1.of_block (fun k hk=>by
  simp [Value.ownBlock] at hk; subst hk
  obtain⟨_,q1,q2⟩:=HG.out
  exact ((oldZ _ (by omega) (by omega)).trans (k4 _ (by omega))).trans (HB7.out.block _ q2))
 obtain⟨c0,c1,c2,c3⟩:=cl4 z1
 have zz:Z.cell? ⟨w§+1+1,0,none⟩=some .nilIface:=Co z2 0
 clear eZ oldZ b9 s9
 refine⟨.tuple #[.agg #[.string n,.slice none 0 0,.slice none 0 0,.slice (some ⟨g,0,none⟩) 1 cap],.nilIface],?_,g,cap,rfl,rZ,by have:=HG.out.2.1; omega,mZ.toBelow⟩
 clear rZ mZ
 simp [results,Tryz.results25,go_sem,zz,c0,c1,c2,c3]
theorem stratS_err (s:ByteArray) (hs:s.size≤4194304) (w:World) (ht:Tab w) (f:Ft) (cX:∀ V b G fa fe a c,Rdr V b G (rdT s) fa fe 0 a c→Calls zG 26 #[zP b] V fun e w'=>e=pan (ftV fa fe f)∧Mv V w' (fun k=>k=b)) :
  Calls zG 10 #[.string s] w (OutE s Z04 w f):=by
 have b0:=Bn w (.cells zA9 43)
 have n0:=Hn w (.cells zA9 43)
 have s0:=Sa w (.cells zA9 43)
 have cW:=wholeS_err Z04 s hs _ (ht.on b0) f cX
 have H0:Hid (Below w§ w (w.alloc (.cells zA9 43))∧(w.alloc (.cells zA9 43)).heap[w§]? = some (.cells zA9 43 (0,0))∧(w.alloc (.cells zA9 43))§=w§+1):=⟨b0,n0,s0⟩
 clear b0 n0 s0 ht
 go_enter Tryz.func10,Tryz.ntmps10
 go_wp2_with fail
 refine cW.mono ?_
 rintro e w1 ⟨⟨F,rfl,hE,hF⟩,hb⟩
 obtain⟨g1,g2,g3⟩:=H0.out
 have hZ:=(hb.block _ (by omega)).trans g2
 obtain⟨Y,eY,hY1,hY2,hY3,hY4⟩:=fin4_43 hZ (.string ⟨#[]⟩) (.slice none 0 0) (.slice none 0 0) (.slice none 0 0)
 have HY:Hid (Y.heap[w§]? = some (.cells zA9 43 (0,0))∧ErrAt Y s Z04 f F∧w§≤F∧Below w§ w Y):=⟨hY1,hE.mv43 hZ hY3,by omega,(hY4 _ (fun _=>False) (Mv.ofBelow (B2 g1 hb)) (Nat.le_refl _)).toBelow⟩
 have HEY:Hid (_=Y):=eY
 obtain⟨z0,z1,z2,z3⟩:=cl4 hZ
 obtain⟨q0,q1,q2,q3⟩:=fz4 hZ
 clear cW hE hF hb g1 g2 g3 hZ eY hY1 hY2 hY3 hY4 H0
 go_wp2_with fail
 rw [HEY.out]
 exact bodyPost_ret (Rt2 (p:=2) (u:=3) (ty:=43) rfl _ _ w§ 43 zA9 (0,0) _ rfl HY.out.1 Tryz.underlying43 rfl zK) rfl ⟨⟨F,rfl,HY.out.2.1,HY.out.2.2.1⟩,HY.out.2.2.2⟩
theorem stratS_ok (s:ByteArray) (hs:s.size≤4194304) (w:World) (ht:Tab w) (n m:ByteArray) (p:Int) (ts:List Tk) (hE:gEnd ts=.ok ()) (cX:∀ V b G fa fe a c,Rdr V b G (rdT s) fa fe 0 a c→Calls zG 26 #[zP b] V fun e w'=>∃ g cap,e=.returned (.agg #[.string n,.slice none 0 0,.slice none 0 0,.slice (some ⟨g,0,none⟩) 1 cap])∧Row w' 87 3 (.slice (some ⟨g,0,none⟩) 1 cap) 1 (sF m p)∧V§≤g∧(∃ a c,Rdr w' b G ts fa fe 0 a c)∧Mv V w' (fun k=>k=b)) :
  Calls zG 10 #[.string s] w fun e w'=>∃ g cap,e=.returned (.tuple #[.agg #[.string n,.slice none 0 0,.slice none 0 0,.slice (some ⟨g,0,none⟩) 1 cap],.nilIface])∧Row w' 87 3 (.slice (some ⟨g,0,none⟩) 1 cap) 1 (sF m p)∧w§≤g∧Below w§ w w':=by
 have b0:=Bn w (.cells zA9 43)
 have n0:=Hn w (.cells zA9 43)
 have s0:=Sa w (.cells zA9 43)
 have cW:=wholeS_ok Z04 s hs _ (ht.on b0) n m p ts hE cX
 have H0:Hid (Below w§ w (w.alloc (.cells zA9 43))∧(w.alloc (.cells zA9 43)).heap[w§]? = some (.cells zA9 43 (0,0))∧(w.alloc (.cells zA9 43))§=w§+1):=⟨b0,n0,s0⟩
 clear b0 n0 s0 ht
 go_enter Tryz.func10,Tryz.ntmps10
 go_wp2_with fail
 refine cW.mono ?_
 rintro e w1 ⟨g,cap,rfl,hw,hg,hb⟩
 obtain⟨g1,g2,g3⟩:=H0.out
 have hZ:=(hb.block _ (by omega)).trans g2
 obtain⟨Y,eY,hY1,hY2,hY3,hY4⟩:=fin4_43 hZ (.string n) (.slice none 0 0) (.slice none 0 0) (.slice (some ⟨g,0,none⟩) 1 cap)
 have HY:Hid (Y.heap[w§]? = some (.cells #[.string n,.slice none 0 0,.slice none 0 0,.slice (some ⟨g,0,none⟩) 1 cap] 43 (0,0))∧Row Y 87 3 (.slice (some ⟨g,0,none⟩) 1 cap) 1 (sF m p)∧w§≤g∧Below w§ w Y):=⟨hY1,hw.of_block (fun k hk=>by simp [Value.ownBlock] at hk; subst hk; exact hY3 _ (by omega)),by omega,(hY4 _ (fun _=>False) (Mv.ofBelow (B2 g1 hb)) (Nat.le_refl _)).toBelow⟩
 have HEY:Hid (_=Y):=eY
 obtain⟨z0,z1,z2,z3⟩:=cl4 hZ
 obtain⟨q0,q1,q2,q3⟩:=fz4 hZ
 clear cW hw hg hb g1 g2 g3 hZ eY hY1 hY2 hY3 hY4 H0
 go_wp2_with fail
 rw [HEY.out]
 exact bodyPost_ret (Rt2 (p:=2) (u:=3) (ty:=43) rfl _ _ w§ 43 #[.string n,.slice none 0 0,.slice none 0 0,.slice (some ⟨g,0,none⟩) 1 cap] (0,0) _ rfl HY.out.1 Tryz.underlying43 rfl zK) rfl ⟨g,cap,rfl,HY.out.2⟩
def Rp (V:World) (b G:Nat) (fa:Int) (fe:Value) (ts:List Tk):Prop:=(∃ a c,Rdr V b G ts fa fe 0 a c)∧∀ t ∈ ts,RgT t
theorem Rp.on {w w':World}{b G:Nat}{fa:Int}{fe:Value}{ts:List Tk}(h:Rp w b G fa fe ts) (k:Below w§ w w'):Rp w' b G fa fe ts:=by
 obtain⟨⟨a,c,h1⟩,h2⟩:=h
 exact⟨⟨a,c,h1.on k⟩,h2⟩
theorem Rp.lt {w:World}{b G:Nat}{fa:Int}{fe:Value}{ts:List Tk}(h:Rp w b G fa fe ts):b < w§∧G < w§:=by
 obtain⟨⟨a,c,h1⟩,h2⟩:=h
 exact⟨h1.lt,h1.gl⟩
theorem Rp.off {w w':World}{b G:Nat}{fa:Int}{fe:Value}{ts:List Tk}(h:Rp w b G fa fe ts) (h1:w'.heap[b]? = w.heap[b]?) (h2:w'.heap[G]? = w.heap[G]?) (hs:w§≤w'§):Rp w' b G fa fe ts:=by
 obtain⟨⟨a,c,h3⟩,h4⟩:=h
 exact⟨⟨a,c,h3.blk h1 h2 hs⟩,h4⟩
def OutV (P:Value→Prop) (b G:Nat) (fa:Int) (fe:Value) (w:World) (s':St) (e:Ending) (w':World):Prop :=
 (∃ v ts',e=.returned v∧P v∧Rp w' b G fa fe ts'∧nf ts'=s'∧Mv w w' (fun k=>k=b))∨(∃ f,e=pan (ftV fa fe f)∧s'=.error f∧Mv w w' (fun k=>k=b))
def Cells (n:Nat) (v:Value):Prop:=∃ cs:Array Value,v=.agg cs∧cs.size=n∧cs.all (·.oneCell')=true
theorem take_p {w:World}{b G:Nat}{fa:Int}{fe:Value}{ts:List Tk}(h:Rp w b G fa fe ts) (x:ByteArray):Calls zG 64 #[zP b,.string x] w (OutV (fun v=>∃ t,v=.agg (tkA t)) b G fa fe w (dTake x (nf ts))):=by
 obtain⟨⟨a,c,h1⟩,h2⟩:=h
 refine (take_any h1 x).mono ?_
 intro e w' ho
 cases ts with
 | nil=>exact .inr ⟨.lex,ho.1,rfl,ho.2⟩
 | cons t ts =>
  rw [gTake_s] at ho
  show OutV _ b G fa fe w (if t.x=x then nf ts else .error (.tok 130 t.p)) e w'
  by_cases c:t.x=x
  ·rw [if_pos c] at ho ⊢
   obtain⟨o1,o2,o3⟩:=ho
   exact .inl ⟨_,ts,o1,⟨t,rfl⟩,⟨o2,fun u hu=>h2 u (by simp [hu])⟩,rfl,o3⟩
  ·rw [if_neg c] at ho ⊢
   obtain⟨o1,o2⟩:=ho
   exact .inr ⟨_,o1,rfl,o2⟩
theorem gName_s (t:Tk) (ts:List Tk):gName (t :: ts)=if t.k=2 then .ok (t.x,ts) else .error (.tok 130 t.p):=by
 by_cases e:t.k=2
 ·rw [if_pos e]; exact gName_hit e
 ·rw [if_neg e]; simp [gName,gLook,gNeed,bind,Except.bind,e]
theorem name_p {w:World}{b G:Nat}{fa:Int}{fe:Value}{ts:List Tk}(h:Rp w b G fa fe ts):Calls zG 65 #[zP b] w (OutV (fun v=>∃ x,v=.string x) b G fa fe w (dName (nf ts))):=by
 obtain⟨⟨a,c,h1⟩,h2⟩:=h
 refine (name_any h1).mono ?_
 intro e w' ho
 cases ts with
 | nil=>exact .inr ⟨.lex,ho.1,rfl,ho.2⟩
 | cons t ts =>
  rw [gName_s] at ho
  show OutV _ b G fa fe w (if t.k=2 then nf ts else .error (.tok 130 t.p)) e w'
  by_cases c:t.k=2
  ·rw [if_pos c] at ho ⊢
   obtain⟨o1,o2,o3⟩:=ho
   exact .inl ⟨_,ts,o1,⟨_,rfl⟩,⟨o2,fun u hu=>h2 u (by simp [hu])⟩,rfl,o3⟩
  ·rw [if_neg c] at ho ⊢
   obtain⟨o1,o2⟩:=ho
   exact .inr ⟨_,o1,rfl,o2⟩
theorem is_p {w:World}{b G:Nat}{fa:Int}{fe:Value}{ts:List Tk}(h:Rp w b G fa fe ts) (x:ByteArray):Calls zG 87 #[zP b,.string x] w fun e w'=>(e=.returned (.bool (dIs x (nf ts)))∧ts≠[]∧Below w§ w w')∨(ts = []∧e=pan (ftV fa fe .lex)∧Below w§ w w'):=by
 obtain⟨⟨a,c,h1⟩,h2⟩:=h
 cases ts with
 | nil=>exact (is_no h1 x).mono fun e w' ho=>.inr ⟨rfl,ho⟩
 | cons t ts=>exact (is_ok h1 x).mono fun e w' ho=>.inl ⟨ho.1,by simp,ho.2⟩
theorem step_p {w:World}{b G:Nat}{fa:Int}{fe:Value}{t:Tk}{ts:List Tk}(h:Rp w b G fa fe (t :: ts)):Calls zG 105 #[zP b] w fun e w'=>e=.returned (.agg (tkA t))∧Rp w' b G fa fe ts∧Mv w w' (fun k=>k=b):=by
 obtain⟨⟨a,c,h1⟩,h2⟩:=h
 refine (step_ok h1).mono ?_
 rintro e w' ⟨o1,o2,o3⟩
 exact⟨o1,⟨o2,fun u hu=>h2 u (by simp [hu])⟩,o3⟩
structure GP (w:World) (b G:Nat) (fa:Int) (fe:Value) (V:World) (bs:List (Nat × Nat × Nat)) (ts:List Tk):Prop where
 M:Mv w V (fun k=>k=b)
 B:∀ p ∈ bs,Shp V p.1 p.2.1 p.2.2∧w§≤p.1
 R:Rp V b G fa fe ts
 W:b < w§∧G < w§
theorem GP.hid {w:World}{b G:Nat}{fa:Int}{fe:Value}{V:World}{bs:List (Nat × Nat × Nat)}{ts:List Tk}(h:GP w b G fa fe V bs ts):Hid (GP w b G fa fe V bs ts):=h
theorem GP.mv {w:World}{b G:Nat}{fa:Int}{fe:Value}{V:World}{bs:List (Nat × Nat × Nat)}{ts:List Tk}{V':World}{ts':List Tk}(h:GP w b G fa fe V bs ts) (hm:Mv V V' (fun k=>k=b)) (hs:Rp V' b G fa fe ts'):GP w b G fa fe V' bs ts':=by
 have hb:=h.W.1
 refine⟨h.M.trans hm (fun _ e=>.inl e),fun p hp=>?_,hs,h.W⟩
 obtain⟨h1,h2⟩:=h.B p hp
 exact⟨h1.blk (hm.block _ h1.lt (by omega)),h2⟩
theorem GP.on {w:World}{b G:Nat}{fa:Int}{fe:Value}{V:World}{bs:List (Nat × Nat × Nat)}{ts:List Tk}{V':World}(h:GP w b G fa fe V bs ts) (k:Below V§ V V'):GP w b G fa fe V' bs ts:=h.mv (Mv.ofBelow k) (h.R.on k)
theorem GP.push {w:World}{b G:Nat}{fa:Int}{fe:Value}{V:World}{bs:List (Nat × Nat × Nat)}{ts:List Tk}(h:GP w b G fa fe V bs ts) (cs:Array Value) (T n:Nat) (hn:cs.size=n) (h1:cs.all (·.oneCell')=true):GP w b G fa fe (V.alloc (.cells cs T)) ((V§,T,n) :: bs) ts:=by
 have h':=h.on (Bn V (.cells cs T))
 refine⟨h'.M,fun p hp=>?_,h'.R,h'.W⟩
 rcases List.mem_cons.1 hp with e | e
 ·rw [e]
  exact⟨⟨cs,Hn _ _,hn,h1⟩,h.M.size⟩
 ·exact h'.B p e
theorem GP.new {w:World}{b G:Nat}{fa:Int}{fe:Value}{ts:List Tk}(h:Rp w b G fa fe ts) (cs:Array Value) (T n:Nat) (hn:cs.size=n) (h1:cs.all (·.oneCell')=true):GP w b G fa fe (w.alloc (.cells cs T)) [(w§,T,n)] ts :=
 GP.push (bs:=[]) ⟨Mv.refl _ _,(fun p hp=>by simp at hp),h,h.lt⟩ cs T n hn h1
theorem GP.set {w:World}{b G:Nat}{fa:Int}{fe:Value}{V:World}{bs:List (Nat × Nat × Nat)}{ts:List Tk}(h:GP w b G fa fe V bs ts) {N T n:Nat}(hp:(N,T,n) ∈ bs) (i:Nat) (v:Value) (hv:v.oneCell'=true):GP w b G fa fe (V.setCell ⟨N,i,none⟩ v) bs ts:=by
 obtain⟨h1,h2⟩:=h.B _ hp
 have h2:w§≤N:=h2
 have hw:=h.W
 refine⟨h.M.setCell (a:=⟨N,i,none⟩) (.inr h2) v,fun q hq=>?_,h.R.off (Below.heap_setCell _ _ _ _ (show b≠N by omega)) (Below.heap_setCell _ _ _ _ (show G≠N by omega)) (by simp [World.setCell]),h.W⟩
 obtain⟨g1,g2⟩:=h.B q hq
 by_cases e:q.1=N
 ·refine⟨?_,g2⟩
  have:=g1.set i v hv
  rw [e] at this ⊢
  exact this
 ·exact⟨g1.blk (Below.heap_setCell _ _ _ _ e),g2⟩
theorem GP.row {w:World}{b G:Nat}{fa:Int}{fe:Value}{V:World}{bs:List (Nat × Nat × Nat)}{ts:List Tk}(h:GP w b G fa fe V bs ts) {N T n:Nat}(hp:(N,T,n) ∈ bs) (cs:Array Value) (hn:cs.size=n) (h1:cs.all (·.oneCell')=true):GP w b G fa fe (V.setRow N cs) bs ts∧(V.setRow N cs).heap[N]? = some (.cells cs T (0,0)):=by
 obtain⟨⟨old,g1,g2,g3⟩,h2⟩:=h.B _ hp
 have h2:w§≤N:=h2
 have hw:=h.W
 have hN:(V.setRow N cs).heap[N]? = some (.cells cs T (0,0)):=setRow_heap V N old cs T (0,0) g1
 have hsz:(V.setRow N cs)§=V§:=by unfold World.setRow; simp
 refine⟨⟨?_,fun q hq=>?_,h.R.off (setRow_oth _ _ _ (show b≠N by omega)) (setRow_oth _ _ _ (show G≠N by omega)) (by omega),h.W⟩,hN⟩
 ·refine⟨h.M.os,h.M.tape,h.M.output,by rw [hsz]; exact h.M.size,fun k hk hn'=>?_⟩
  rw [setRow_oth _ _ _ (show k≠N by omega)]
  exact h.M.block k hk hn'
 ·obtain⟨⟨c2,e1,e2,e3⟩,g5⟩:=h.B q hq
  by_cases e:q.1=N
  ·refine⟨⟨cs,?_,?_,h1⟩,g5⟩
   ·rw [e] at e1 ⊢
    rw [g1] at e1
    cases e1
    exact hN
   ·rw [e] at e1
    rw [g1] at e1
    cases e1
    rw [hn,← e2,g2]
  ·exact⟨⟨c2,(setRow_oth _ _ _ e).trans e1,e2,e3⟩,g5⟩
theorem slot_p {w:World}{b G:Nat}{fa:Int}{fe:Value}{ts:List Tk}(h:Rp w b G fa fe ts):Calls zG 69 #[zP b] w (OutV (Cells 2) b G fa fe w (dSlot (nf ts))):=by
 have HG0:=(GP.new h #[.string ⟨#[]⟩,zI 0] 102 2 rfl (by simp [Value.oneCell'])).hid
 clear h
 obtain⟨W0,eW0⟩:∃ W,w.alloc (.cells #[.string ⟨#[]⟩,zI 0] 102)=W:=⟨_,rfl⟩
 rw [eW0] at HG0
 have HEW:=zH eW0
 clear eW0
 go_enter Tryz.func69,Tryz.ntmps69
 have cT:=take_p HG0.out.R Zz
 go_wp2_with fail
 try rw [HEW.out]
 refine cT.mono ?_
 rintro e w1 (⟨_,ts1,rfl,⟨tk1,rfl⟩,hr,hn,hm⟩ | ⟨f,rfl,hf,hm⟩)
 rotate_left
 ·exact⟨rfl,.inr ⟨f,rfl,by rw [dSlot,hf]; rfl,HG0.out.M.trans hm (fun _ e=>.inl e)⟩⟩
 have HG1:=(HG0.out.mv hm hr).hid
 have HN1:=zH hn
 clear cT hr hn hm HG0
 clear HEW
 have hf4:=fun v=>field82_4 tk1 v
 have HGp:=(HG1.out.push #[.string ⟨#[]⟩,zI tk1.p] 102 2 rfl (by simp [Value.oneCell'])).hid
 go_upto_region 2 with fail
 obtain⟨N3,eN3⟩:∃ q,w1§=q:=⟨_,rfl⟩
 obtain⟨W1,eW1⟩:∃ W,w1.alloc (.cells #[.string ⟨#[]⟩,zI tk1.p] 102)=W:=⟨_,rfl⟩
 rw [eW1] at HGp ⊢
 rw [eN3] at HGp ⊢
 clear eW1 eN3 hf4 HG1
 generalize Value.agg (tkA tk1)=D1
 have cN:=name_p HGp.out.R
 go_wp2_with fail
 refine cN.mono ?_
 rintro e w2 (⟨_,ts2,rfl,⟨x2,rfl⟩,hr,hn,hm⟩ | ⟨f,rfl,hf,hm⟩)
 rotate_left
 ·exact⟨rfl,.inr ⟨f,rfl,by rw [dSlot,← HN1.out,hf]; rfl,HGp.out.M.trans hm (fun _ e=>.inl e)⟩⟩
 have HG2:=(HGp.out.mv hm hr).hid
 have HN2:=zH hn
 clear cN hr hn hm HGp
 obtain⟨av0,ac0,af0⟩:=(HG2.out.B (N3,102,2) (by simp)).1.cell 0 (show 0 < 2 by omega)
 have HG3:=zH (HG2.out.set (N:=N3) (T:=102) (n:=2) (by simp) 0 (.string x2) rfl)
 go_upto_region 3 with fail
 obtain⟨W3,eW3⟩:∃ W,w2.setCell ⟨N3,0,none⟩ (.string x2)=W:=⟨_,rfl⟩
 rw [eW3] at HG3 ⊢
 clear eW3 ac0 af0 HG2
 have cT:=take_p HG3.out.R Zr
 go_wp2_with fail
 refine cT.mono ?_
 rintro e w4 (⟨_,ts4,rfl,⟨tk4,rfl⟩,hr,hn,hm⟩ | ⟨f,rfl,hf,hm⟩)
 rotate_left
 ·exact⟨rfl,.inr ⟨f,rfl,by rw [dSlot,← HN1.out,← HN2.out,hf],HG3.out.M.trans hm (fun _ e=>.inl e)⟩⟩
 have HG4:=(HG3.out.mv hm hr).hid
 have HN4:=zH hn
 clear cT hr hn hm HG3
 generalize Value.agg (tkA tk4)=D4
 obtain⟨cs,hc1,hc2,hc3⟩:=(HG4.out.B (N3,102,2) (by simp)).1
 obtain⟨old,ho1,ho2,ho3⟩:=(HG4.out.B (w§,102,2) (by simp)).1
 have HC:=zH hc1
 have HO:=zH ho1
 have HF:=zH (HG4.out.row (N:=w§) (T:=102) (n:=2) (by simp) cs hc2 hc3)
 have HSZ1:Hid (cs.size=2∧old.size=2∧cs.all (·.oneCell')=true):=⟨hc2,ho2,hc3⟩
 clear hc1 hc2 hc3 ho1 ho2 ho3
 go_wp2_with (first | (refine wpList_load_row rfl 102 (.tmp 3) rfl N3 rfl 102 cs (0,0) _ HC.out Tryz.underlying102 rfl (by rw [HSZ1.out.1]; exact size102) ?_) | (refine wpList_store_row rfl 102 (.tmp 2) (.tmp 13) rfl w§ cs rfl rfl 102 old HO.out (by rw [HSZ1.out.1]; exact size102) (by rw [HSZ1.out.1,HSZ1.out.2.1]) HSZ1.out.2.2 ?_))
 exact bodyPost_ret (results_cell_row rfl _ _ w§ 102 cs (0,0) _ rfl HF.out.2 Tryz.underlying102 rfl (by rw [HSZ1.out.1]; exact size102)) rfl (.inl ⟨_,ts4,rfl,⟨cs,rfl,HSZ1.out.1,HSZ1.out.2.2⟩,HF.out.1.R,by rw [dSlot,← HN1.out,← HN2.out,← HN4.out],HF.out.1.M⟩)
theorem size64:(Tryz.prog.info? 64).map (·.size)=some 8:=by kernel_rfl
theorem inf64:(Tryz.prog.info? 64).map (fun i=>(i.zero,i.size,i.bytes))=some (some (.agg zA7),8,72):=by kernel_rfl
theorem ty_fnd (x:ByteArray):(tyX x≠0) ↔ 0≤fnd x [Ze,Zg,Zf,Zh,ZB,ZD] 0:=by
 have e0:(eqX x [105,110,116]=true)=(x=Ze):=eqX_iff x #[105,110,116]
 have e1:(eqX x [113,116,121]=true)=(x=Zg):=eqX_iff x #[113,116,121]
 have e2:(eqX x [112,114,105,99,101]=true)=(x=Zf):=eqX_iff x #[112,114,105,99,101]
 have e3:(eqX x [116,105,109,101]=true)=(x=Zh):=eqX_iff x #[116,105,109,101]
 have e4:(eqX x [98,111,111,108]=true)=(x=ZB):=eqX_iff x #[98,111,111,108]
 have e5:(eqX x [115,105,100,101]=true)=(x=ZD):=eqX_iff x #[115,105,100,101]
 simp only [tyX,fnd,e0,e1,e2,e3,e4,e5]
 by_cases h0:x=Ze
 ·simp only [if_pos h0]; decide
 simp only [if_neg h0]
 by_cases h1:x=Zg
 ·simp only [if_pos h1]; decide
 simp only [if_neg h1]
 by_cases h2:x=Zf
 ·simp only [if_pos h2]; decide
 simp only [if_neg h2]
 by_cases h3:x=Zh
 ·simp only [if_pos h3]; decide
 simp only [if_neg h3]
 by_cases h4:x=ZB
 ·simp only [if_pos h4]; decide
 simp only [if_neg h4]
 by_cases h5:x=ZD
 ·simp only [if_pos h5]; decide
 simp only [if_neg h5]
 decide
theorem typeName_p {w:World}{b G:Nat}{fa:Int}{fe:Value}{ts:List Tk}(h:Rp w b G fa fe ts):Calls zG 106 #[zP b] w (OutV (fun v=>∃ k,v=zU k) b G fa fe w (dTy (nf ts))):=by
 cases ts with
 | nil =>
  obtain⟨⟨a,c,h1⟩,h2⟩:=h
  have cL:=look_no h1
  clear h1 h2
  go_enter Tryz.func106,Tryz.ntmps106
  go_wp2_with fail
  refine cL.mono ?_
  rintro e w1 ⟨rfl,hb⟩
  exact⟨rfl,.inr ⟨.lex,rfl,rfl,Mv.ofBelow hb⟩⟩
 | cons t ts =>
  have HH:=zH h
  obtain⟨⟨a,c,h1⟩,h2⟩:=h
  have cL:=look_ok h1
  clear h1 h2
  obtain⟨v,ev⟩:∃ v,tyX t.x=v:=⟨_,rfl⟩
  have hi:=ty_fnd t.x
  rw [ev] at hi
  by_cases c:v=0
  ·have HD:Hid (dTy (nf (t :: ts))=.error (.tok 130 t.p)):=if_neg (fun q=>absurd c (hi.2 q))
   subst c
   go_enter Tryz.func106,Tryz.ntmps106
   go_wp2_with fail
   refine cL.mono ?_
   rintro e w1 ⟨rfl,hb⟩
   have cY:=typeOf_any t w1
   rw [ev] at cY
   have HB:=zH hb
   clear cL hb ev hi
   go_wp2_with fail
   refine cY.mono ?_
   rintro e w2 ⟨rfl,hb⟩
   have HB2:=zH (B2 HB.out hb)
   obtain⟨a2,c2,h1⟩:=(HH.out.on HB2.out).1
   have cN:=need_tok h1 130
   clear cY hb h1
   go_wp2_with fail
   refine cN.mono ?_
   rintro e w3 ⟨rfl,hb⟩
   exact⟨rfl,.inr ⟨_,rfl,HD.out,Mv.ofBelow (B2 HB2.out hb)⟩⟩
  ·have HD:Hid (dTy (nf (t :: ts))=nf ts):=if_pos (hi.1 c)
   have c2:(v != 0)=true:=bne_iff_ne.2 c
   go_enter Tryz.func106,Tryz.ntmps106
   go_wp2_with fail
   refine cL.mono ?_
   rintro e w1 ⟨rfl,hb⟩
   have cY:=typeOf_any t w1
   rw [ev] at cY
   have HB:=zH hb
   clear cL hb ev hi
   go_wp2_with fail
   refine cY.mono ?_
   rintro e w2 ⟨rfl,hb⟩
   have HB2:=zH (B2 HB.out hb)
   have cS:=step_p (HH.out.on HB2.out)
   have cN:=need_ok w2 b 130
   clear cY hb
   go_wp2_with (go_at_call 72; refine cN.mono ?_; rintro e w3 ⟨rfl,e4⟩; obtain rfl:=e4.symm)
   refine cS.mono ?_
   rintro e w3 ⟨rfl,hr,hm⟩
   have HR3:Hid (Rp w3 b G fa fe ts∧Mv w w3 (fun k=>k=b)):=⟨hr,(Mv.ofBelow HB2.out).trans hm (fun _ e=>.inl e)⟩
   clear cS hr hm
   go_wp2_with fail
   go_ret
   exact .inl ⟨_,ts,rfl,⟨v,rfl⟩,HR3.out.1,HD.out.symm,HR3.out.2⟩
theorem gLit_s (t:Tk) (ts:List Tk):gLit (t :: ts)=if (valT t).1≠0 then .ok (.mk ⟨1,0,(valT t).1,(valT t).2,0,gE,t.p⟩ [],ts) else .error (.tok 130 t.p):=by
 by_cases e:(valT t).1=0
 ·simp [gLit,gLook,gNeed,bind,Except.bind,e]
 ·simp [gLit,gLook,gNeed,gStep,bind,Except.bind,e]
theorem nd_one (m:Nd):m.vals.size=8∧m.vals.all (·.oneCell')=true:=by
 obtain⟨⟨k,o,ty,n,f,x,p⟩,a,c,ks⟩:=m
 refine⟨rfl,?_⟩
 simp only [Nd.vals,Nd.h,Nd.a,Nd.c,Nd.ks,hdA]
 simp [Value.oneCell']
theorem GP.node {w:World}{b G:Nat}{fa:Int}{fe:Value}{V:World}{bs:List (Nat × Nat × Nat)}{ts:List Tk}(h:GP w b G fa fe V bs ts) {N T n:Nat}(hp:(N,T,n) ∈ bs) (o:Nat) (m:Nd) :
  GP w b G fa fe ((((((((V.setCell ⟨N,o,none⟩ (zU m.h.k)).setCell ⟨N,o+1,none⟩ (zU m.h.o)).setCell ⟨N,o+2,none⟩ (zU m.h.t)).setCell ⟨N,o+3,none⟩ (zI m.h.n)).setCell ⟨N,o+4,none⟩ (zU m.h.f)).setCell ⟨N,o+5,none⟩ (.string m.h.x)).setCell ⟨N,o+6,none⟩ (.slice m.a m.ks.length m.c)).setCell ⟨N,o+7,none⟩ (zI m.h.p)) bs ts :=
 (((((((h.set hp _ _ rfl).set hp _ _ rfl).set hp _ _ rfl).set hp _ _ rfl).set hp _ _ rfl).set hp _ _ rfl).set hp _ _ rfl).set hp _ _ rfl
def NdV (v:Value):Prop:=∃ m:Nd,v=.agg m.vals
theorem lit_p {w:World}{b G:Nat}{fa:Int}{fe:Value}{ts:List Tk}(h:Rp w b G fa fe ts):Calls zG 130 #[zP b] w (OutV NdV b G fa fe w (dLit (nf ts))):=by
 obtain⟨⟨a,c,h1⟩,h2⟩:=h
 cases ts with
 | nil=>exact (lit_no h1).mono fun e w' ho=>.inr ⟨.lex,ho.1,rfl,ho.2⟩
 | cons t ts =>
  refine (lit_ok h1 (h2 t (by simp))).mono ?_
  intro e w' ho
  rw [gLit_s] at ho
  show OutV _ b G fa fe w (if (valT t).1≠0 then nf ts else .error (.tok 130 t.p)) e w'
  by_cases c:(valT t).1≠0
  ·rw [if_pos c] at ho ⊢
   obtain⟨⟨m,o1,_⟩,o2,o3⟩:=ho
   exact .inl ⟨_,ts,o1,⟨m,rfl⟩,⟨o2,fun u hu=>h2 u (by simp [hu])⟩,rfl,o3⟩
  ·rw [if_neg c] at ho ⊢
   obtain⟨o1,o2⟩:=ho
   exact .inr ⟨_,o1,rfl,o2⟩
theorem expr_p {w:World}{b G:Nat}{fa:Int}{fe:Value}{ts:List Tk}(h:Rp w b G fa fe ts):Calls zG 46 #[zP b] w (OutV NdV b G fa fe w (dEx (nf ts))):=by
 obtain⟨⟨a,c,h1⟩,h2⟩:=h
 refine (exprT_any h1 h2).mono ?_
 intro e w' ho
 have e1:dEx (nf ts)=stOf (exprT ts):=congrArg stOf (rd_nf exprT_nil ts)
 rw [e1]
 cases hr:exprT ts with
 | error f =>
  rw [hr] at ho
  exact .inr ⟨f,ho.1,rfl,ho.2⟩
 | ok q =>
  obtain⟨t,r⟩:=q
  rw [hr] at ho
  obtain⟨⟨m,o1,_⟩,o2,o3⟩:=ho
  exact .inl ⟨_,r,o1,⟨m,rfl⟩,⟨o2,fun u hu=>h2 u ((exF_sub 26 0).1 _ _ _ hr u hu)⟩,rfl,o3⟩
theorem initial_p {w:World}{b G:Nat}{fa:Int}{fe:Value}{ts:List Tk}(h:Rp w b G fa fe ts):Calls zG 107 #[zP b] w (OutV NdV b G fa fe w (dLit (dMin (nf ts)))):=by
 have HG0:=(GP.new h zA7 64 8 rfl (by simp [Value.oneCell'])).hid
 clear h
 obtain⟨W0,eW0⟩:∃ W,w.alloc (.cells zA7 64)=W:=⟨_,rfl⟩
 rw [eW0] at HG0
 have HEW:Hid (w.alloc (.cells zA7 64)=W0):=eW0
 clear eW0
 have cI:=is_p HG0.out.R Zc
 obtain⟨q,eq⟩:∃ q,dIs Zc (nf ts)=q:=⟨_,rfl⟩
 have HQ:Hid (dIs Zc (nf ts)=q):=eq
 rw [eq] at cI
 clear eq
 go_enter Tryz.func107,Tryz.ntmps107
 go_wp2_with fail
 try rw [HEW.out]
 refine cI.mono ?_
 rintro e w1 (⟨rfl,hne,hb⟩ | ⟨rfl,rfl,hb⟩)
 rotate_left
 ·exact⟨rfl,.inr ⟨.lex,rfl,rfl,HG0.out.M.trans (Mv.ofBelow hb) (fun _ e=>.inl e)⟩⟩
 have HG1:=(HG0.out.on hb).hid
 have HNE:Hid (ts≠[]):=hne
 clear cI hb HG0 HEW hne
 cases q with
 | false =>
  have HDM:Hid (dMin (nf ts)=nf ts):=by show (if _ then _ else _)=_; rw [HQ.out]; rfl
  have cL:=lit_p HG1.out.R
  go_wp2_with fail
  refine cL.mono ?_
  rintro e w2 (⟨_,ts2,rfl,⟨m2,rfl⟩,hr,hn,hm⟩ | ⟨f,rfl,hf,hm⟩)
  rotate_left
  ·exact⟨rfl,.inr ⟨f,rfl,by rw [HDM.out]; exact hf,HG1.out.M.trans hm (fun _ e=>.inl e)⟩⟩
  obtain⟨hc2,hc3⟩:=nd_one m2
  obtain⟨cs,ecs⟩:∃ cs,m2.vals=cs:=⟨_,rfl⟩
  have HMV:Hid (m2.vals=cs):=ecs
  rw [ecs] at hc2 hc3
  rw [ecs]
  clear ecs
  have HG2:=(HG1.out.mv hm hr).hid
  have HN2:Hid (nf ts2=dLit (nf ts)):=hn
  clear cL hr hn hm HG1
  obtain⟨old,ho1,ho2,ho3⟩:=(HG2.out.B (w§,64,8) (by simp)).1
  have HO:Hid (w2.heap[w§]? = some (.cells old 64 (0,0))):=ho1
  have HF:Hid (GP w b G fa fe (w2.setRow w§ cs) _ ts2∧(w2.setRow w§ cs).heap[w§]? = some (.cells cs 64 (0,0))):=HG2.out.row (N:=w§) (T:=64) (n:=8) (by simp) cs hc2 hc3
  have HSZ1:Hid (cs.size=8∧old.size=8∧cs.all (·.oneCell')=true):=⟨hc2,ho2,hc3⟩
  clear hc2 hc3 ho1 ho2 ho3 HG2
  go_wp2_with (refine wpList_store_row rfl 64 (.tmp 2) (.tmp 8) rfl w§ cs rfl rfl 64 old HO.out (by rw [HSZ1.out.1]; exact size64) (by rw [HSZ1.out.1,HSZ1.out.2.1]) HSZ1.out.2.2 ?_)
  exact bodyPost_ret (results_cell_row rfl _ _ w§ 64 cs (0,0) _ rfl HF.out.2 Tryz.underlying64 rfl (by rw [HSZ1.out.1]; exact size64)) rfl (.inl ⟨_,ts2,rfl,⟨m2,by rw [HMV.out]⟩,HF.out.1.R,by rw [HDM.out]; exact HN2.out,HF.out.1.M⟩)
 | true =>
  obtain⟨t,ts0,e0⟩:∃ t r,ts=t :: r:=by
   cases ts with
   | nil=>exact absurd rfl HNE.out
   | cons t r=>exact⟨t,r,rfl⟩
  subst e0
  have HDM:Hid (dMin (nf (t :: ts0))=dNum (nf ts0)):=by show (if _ then _ else _)=_; rw [HQ.out]; rfl
  have cS:=step_p HG1.out.R
  go_wp2_with fail
  refine cS.mono ?_
  rintro e w2 ⟨rfl,hr,hm⟩
  have HG2:=(HG1.out.mv hm hr).hid
  have hf4:=fun v=>field82_4 t v
  clear cS hr hm HG1
  cases ts0 with
  | nil =>
   obtain⟨a2,c2,h1⟩:=HG2.out.R.1
   have cL:=look_no h1
   clear h1
   go_wp2_with fail
   refine cL.mono ?_
   rintro e w3 ⟨rfl,hb⟩
   exact⟨rfl,.inr ⟨.lex,rfl,by rw [HDM.out]; rfl,HG2.out.M.trans (Mv.ofBelow hb) (fun _ e=>.inl e)⟩⟩
  | cons u us =>
   obtain⟨a2,c2,h1⟩:=HG2.out.R.1
   have cL:=look_ok h1
   have hf0:=fun v=>field82_0 u v
   clear h1
   go_wp2_with fail
   refine cL.mono ?_
   rintro e w3 ⟨rfl,hb⟩
   have HG3:=(HG2.out.on hb).hid
   clear cL hb HG2
   by_cases hk:u.k=3
   ·have hk2:(u.k == 3)=true:=by simpa using hk
    have HDN : Hid (dNum (nf (u :: us)) = nf (u :: us)) := if_pos hk
    have cN:=need_ok w3 b 130
    have cT:=lit_p HG3.out.R
    go_wp2_with (go_at_call 72; refine cN.mono ?_; rintro e w4 ⟨rfl,e4⟩; obtain rfl:=e4.symm)
    refine cT.mono ?_
    rintro e w4 (⟨_,ts4,rfl,⟨m4,rfl⟩,hr,hn,hm⟩ | ⟨f,rfl,hf,hm⟩)
    rotate_left
    ·exact⟨rfl,.inr ⟨f,rfl,by rw [HDM.out,HDN.out]; exact hf,HG3.out.M.trans hm (fun _ e=>.inl e)⟩⟩
    obtain⟨hc2,hc3⟩:=nd_one m4
    obtain⟨cs,ecs⟩:∃ cs,m4.vals=cs:=⟨_,rfl⟩
    rw [ecs] at hc2 hc3
    rw [ecs]
    clear ecs
    have HG4:=((HG3.out.mv hm hr).on (Bn w4 (.cells cs 64))).hid
    have HN4:Hid (nf ts4=dLit (nf (u :: us))):=hn
    have HC4:Hid (cs.size=8):=hc2
    clear cT hr hn hm HG3 cN hc2 hc3
    obtain⟨old,ho1,ho2,ho3⟩:=(HG4.out.B (w§,64,8) (by simp)).1
    have HO:Hid ((w4.alloc (.cells cs 64)).heap[w§]? = some (.cells old 64 (0,0))∧old.size=8):=⟨ho1,ho2⟩
    obtain⟨ns,ens⟩:∃ c:Array Value,#[zU 5,zU 1,zU 0,zI 0,zU 0,.string ⟨#[]⟩,.slice (some ⟨w4§,0,none⟩) 1 1,zI t.p]=c:=⟨_,rfl⟩
    have hns1:ns.size=8:=by rw [← ens]; rfl
    have hns2:ns.all (·.oneCell')=true:=by rw [← ens]; simp [Value.oneCell']
    have HF:Hid (GP w b G fa fe ((w4.alloc (.cells cs 64)).setRow w§ ns) _ ts4∧((w4.alloc (.cells cs 64)).setRow w§ ns).heap[w§]? = some (.cells ns 64 (0,0))):=HG4.out.row (N:=w§) (T:=64) (n:=8) (by simp) ns hns1 hns2
    clear ho1 ho2 ho3 HG4
    go_wp2_with (first | (refine wpList_slice1 rfl 62 64 (.tmp 19) rfl cs rfl 8 _ Tryz.underlying62 72 inf64 rfl HC4.out (by decide) (by decide) ?_) | (refine wpList_store_row rfl 64 (.tmp 2) (.tmp 22) rfl w§ ns rfl (by first | rfl | exact congrArg Value.agg ens) 64 old HO.out.1 (by rw [hns1]; exact size64) (by rw [hns1,HO.out.2]) hns2 ?_))
    exact bodyPost_ret (results_cell_row rfl _ _ w§ 64 ns (0,0) _ rfl HF.out.2 Tryz.underlying64 rfl (by rw [hns1]; exact size64)) rfl (.inl ⟨_,ts4,rfl,⟨Nd.mk ⟨5,1,0,0,0,⟨#[]⟩,t.p⟩ (some ⟨w4§,0,none⟩) 1 [nd0],congrArg Value.agg ens.symm⟩,HF.out.1.R,by rw [HDM.out,HDN.out]; exact HN4.out,HF.out.1.M⟩)
   ·have hk2:(u.k == 3)=false:=by simpa using hk
    have HDN:Hid (dNum (nf (u :: us))=.error (.tok 130 u.p)):=if_neg hk
    obtain⟨a3,c3,h1⟩:=HG3.out.R.1
    have cN:=need_tok h1 130
    clear h1
    go_wp2_with fail
    refine cN.mono ?_
    rintro e w4 ⟨rfl,hb⟩
    exact⟨rfl,.inr ⟨_,rfl,by rw [HDM.out,HDN.out]; rfl,HG3.out.M.trans (Mv.ofBelow hb) (fun _ e=>.inl e)⟩⟩
theorem reg_p {w:World}{b G:Nat}{fa:Int}{fe:Value}{ts:List Tk}(h:Rp w b G fa fe ts):Calls zG 67 #[zP b] w (OutV (Cells 11) b G fa fe w (dReg (nf ts))):=by
 have HG0:=(GP.new h zA3 100 11 rfl (by simp [Value.oneCell'])).hid
 clear h
 obtain⟨W0,eW0⟩:∃ W,w.alloc (.cells zA3 100)=W:=⟨_,rfl⟩
 rw [eW0] at HG0
 have HEW:Hid (w.alloc (.cells zA3 100)=W0):=eW0
 clear eW0
 go_enter Tryz.func67,Tryz.ntmps67
 have cT:=take_p HG0.out.R Zu
 go_wp2_with fail
 try rw [HEW.out]
 refine cT.mono ?_
 rintro e w1 (⟨_,ts1,rfl,⟨tk1,rfl⟩,hr,hn,hm⟩ | ⟨f,rfl,hf,hm⟩)
 rotate_left
 ·exact⟨rfl,.inr ⟨f,rfl,by rw [dReg,hf]; rfl,HG0.out.M.trans hm (fun _ e=>.inl e)⟩⟩
 have HG1:=(HG0.out.mv hm hr).hid
 have HN1:Hid (nf ts1=dTake Zu (nf ts)):=hn
 clear cT hr hn hm HG0
 clear HEW
 have hf4:=fun v=>field82_4 tk1 v
 have HGp:=(HG1.out.push #[.string ⟨#[]⟩,zU 0,zU 0,zU 0,zU 0,zI 0,zU 0,.string ⟨#[]⟩,.slice none 0 0,zI 0,zI tk1.p] 100 11 rfl (by simp [Value.oneCell'])).hid
 go_upto_region 2 with fail
 obtain⟨N3,eN3⟩:∃ q,w1§=q:=⟨_,rfl⟩
 obtain⟨W1,eW1⟩:∃ W,w1.alloc (.cells #[.string ⟨#[]⟩,zU 0,zU 0,zU 0,zU 0,zI 0,zU 0,.string ⟨#[]⟩,.slice none 0 0,zI 0,zI tk1.p] 100)=W:=⟨_,rfl⟩
 rw [eW1] at HGp ⊢
 rw [eN3] at HGp ⊢
 clear eW1 eN3 hf4 HG1
 generalize Value.agg (tkA tk1)=D1
 have cN:=name_p HGp.out.R
 go_wp2_with fail
 refine cN.mono ?_
 rintro e w2 (⟨_,ts2,rfl,⟨x2,rfl⟩,hr,hn,hm⟩ | ⟨f,rfl,hf,hm⟩)
 rotate_left
 ·exact⟨rfl,.inr ⟨f,rfl,by rw [dReg,← HN1.out,hf]; rfl,HGp.out.M.trans hm (fun _ e=>.inl e)⟩⟩
 have HG2:=(HGp.out.mv hm hr).hid
 have HN2:Hid (nf ts2=dName (nf ts1)):=hn
 clear cN hr hn hm HGp
 obtain⟨av0,ac0,af0⟩:=(HG2.out.B (N3,100,11) (by simp)).1.cell 0 (show 0 < 11 by omega)
 have HG3:Hid (GP w b G fa fe (w2.setCell ⟨N3,0,none⟩ (.string x2)) _ ts2):=HG2.out.set (N:=N3) (T:=100) (n:=11) (by simp) 0 (.string x2) rfl
 go_upto_region 3 with fail
 obtain⟨W3,eW3⟩:∃ Y,w2.setCell ⟨N3,0,none⟩ (.string x2)=Y:=⟨_,rfl⟩
 rw [eW3] at HG3 ⊢
 clear eW3 ac0 af0 HG2
 have cY:=typeName_p HG3.out.R
 go_wp2_with fail
 refine cY.mono ?_
 rintro e w4 (⟨_,ts4,rfl,⟨y4,rfl⟩,hr,hn,hm⟩ | ⟨f,rfl,hf,hm⟩)
 rotate_left
 ·exact⟨rfl,.inr ⟨f,rfl,by rw [dReg,← HN1.out,← HN2.out,hf]; rfl,HG3.out.M.trans hm (fun _ e=>.inl e)⟩⟩
 have HG4:=(HG3.out.mv hm hr).hid
 have HN4:Hid (nf ts4=dTy (nf ts2)):=hn
 clear cY hr hn hm HG3
 obtain⟨av1,ac1,af1⟩:=(HG4.out.B (N3,100,11) (by simp)).1.cell 1 (show 1 < 11 by omega)
 have HG5:Hid (GP w b G fa fe (w4.setCell ⟨N3,1,none⟩ (zU y4)) _ ts4):=HG4.out.set (N:=N3) (T:=100) (n:=11) (by simp) 1 (zU y4) rfl
 go_upto_region 4 with fail
 obtain⟨W5,eW5⟩:∃ Y,w4.setCell ⟨N3,1,none⟩ (zU y4)=Y:=⟨_,rfl⟩
 rw [eW5] at HG5 ⊢
 clear eW5 ac1 af1 HG4
 have cT:=take_p HG5.out.R Zv
 go_wp2_with fail
 refine cT.mono ?_
 rintro e w6 (⟨_,ts6,rfl,⟨tk6,rfl⟩,hr,hn,hm⟩ | ⟨f,rfl,hf,hm⟩)
 rotate_left
 ·exact⟨rfl,.inr ⟨f,rfl,by rw [dReg,← HN1.out,← HN2.out,← HN4.out,hf]; rfl,HG5.out.M.trans hm (fun _ e=>.inl e)⟩⟩
 have HG6:=(HG5.out.mv hm hr).hid
 have HN6:Hid (nf ts6=dTake Zv (nf ts4)):=hn
 clear cT hr hn hm HG5
 generalize Value.agg (tkA tk6)=D6
 have cI:=initial_p HG6.out.R
 go_wp2_with fail
 refine cI.mono ?_
 rintro e w7 (⟨_,ts7,rfl,⟨⟨⟨k2,o2,ty2,n2,f2,x2,p2⟩,am2,cm2,ks2⟩,rfl⟩,hr,hn,hm⟩ | ⟨f,rfl,hf,hm⟩)
 rotate_left
 ·exact⟨rfl,.inr ⟨f,rfl,by rw [dReg,← HN1.out,← HN2.out,← HN4.out,← HN6.out,hf]; rfl,HG6.out.M.trans hm (fun _ e=>.inl e)⟩⟩
 simp only [Nd.vals,Nd.h,Nd.a,Nd.c,Nd.ks,hdA]
 have HG7:=(HG6.out.mv hm hr).hid
 have HN7:Hid (nf ts7=dLit (dMin (nf ts6))):=hn
 clear cI hr hn hm HG6
 obtain⟨av2,ac2,af2⟩:=(HG7.out.B (N3,100,11) (by simp)).1.cell 2 (show 2 < 11 by omega)
 obtain⟨av3,ac3,af3⟩:=(HG7.out.B (N3,100,11) (by simp)).1.cell 3 (show 3 < 11 by omega)
 obtain⟨av4,ac4,af4⟩:=(HG7.out.B (N3,100,11) (by simp)).1.cell 4 (show 4 < 11 by omega)
 obtain⟨av5,ac5,af5⟩:=(HG7.out.B (N3,100,11) (by simp)).1.cell 5 (show 5 < 11 by omega)
 obtain⟨av6,ac6,af6⟩:=(HG7.out.B (N3,100,11) (by simp)).1.cell 6 (show 6 < 11 by omega)
 obtain⟨av7,ac7,af7⟩:=(HG7.out.B (N3,100,11) (by simp)).1.cell 7 (show 7 < 11 by omega)
 obtain⟨av8,ac8,af8⟩:=(HG7.out.B (N3,100,11) (by simp)).1.cell 8 (show 8 < 11 by omega)
 obtain⟨av9,ac9,af9⟩:=(HG7.out.B (N3,100,11) (by simp)).1.cell 9 (show 9 < 11 by omega)
 have HG8:Hid (GP w b G fa fe ((((((((w7.setCell ⟨N3,2,none⟩ (zU k2)).setCell ⟨N3,3,none⟩ (zU o2)).setCell ⟨N3,4,none⟩ (zU ty2)).setCell ⟨N3,5,none⟩ (zI n2)).setCell ⟨N3,6,none⟩ (zU f2)).setCell ⟨N3,7,none⟩ (.string x2)).setCell ⟨N3,8,none⟩ (.slice am2 ks2.length cm2)).setCell ⟨N3,9,none⟩ (zI p2)) _ ts7):=HG7.out.node (N:=N3) (T:=100) (n:=11) (by simp) 2 (Nd.mk ⟨k2,o2,ty2,n2,f2,x2,p2⟩ am2 cm2 ks2)
 go_upto_region 6 with fail
 obtain⟨W8,eW8⟩:∃ Y,((((((((w7.setCell ⟨N3,2,none⟩ (zU k2)).setCell ⟨N3,3,none⟩ (zU o2)).setCell ⟨N3,4,none⟩ (zU ty2)).setCell ⟨N3,5,none⟩ (zI n2)).setCell ⟨N3,6,none⟩ (zU f2)).setCell ⟨N3,7,none⟩ (.string x2)).setCell ⟨N3,8,none⟩ (.slice am2 ks2.length cm2)).setCell ⟨N3,9,none⟩ (zI p2))=Y:=⟨_,rfl⟩
 rw [eW8] at HG8 ⊢
 clear eW8 ac2 af2 ac3 af3 ac4 af4 ac5 af5 ac6 af6 ac7 af7 ac8 af8 ac9 af9 HG7
 generalize Value.agg (zN k2 o2 ty2 n2 f2 x2 am2 ks2 cm2 p2)=Dg8
 have cT:=take_p HG8.out.R Zr
 go_wp2_with fail
 refine cT.mono ?_
 rintro e w9 (⟨_,ts9,rfl,⟨tk9,rfl⟩,hr,hn,hm⟩ | ⟨f,rfl,hf,hm⟩)
 rotate_left
 ·exact⟨rfl,.inr ⟨f,rfl,by rw [dReg,← HN1.out,← HN2.out,← HN4.out,← HN6.out,← HN7.out,hf],HG8.out.M.trans hm (fun _ e=>.inl e)⟩⟩
 have HG9:=(HG8.out.mv hm hr).hid
 have HN9:Hid (nf ts9=dTake Zr (nf ts7)):=hn
 clear cT hr hn hm HG8
 generalize Value.agg (tkA tk9)=D9
 obtain⟨cs,hc1,hc2,hc3⟩:=(HG9.out.B (N3,100,11) (by simp)).1
 obtain⟨old,ho1,ho2,ho3⟩:=(HG9.out.B (w§,100,11) (by simp)).1
 have HC:Hid (w9.heap[N3]? = some (.cells cs 100 (0,0))):=hc1
 have HO:Hid (w9.heap[w§]? = some (.cells old 100 (0,0))):=ho1
 have HF:Hid (GP w b G fa fe (w9.setRow w§ cs) _ ts9∧(w9.setRow w§ cs).heap[w§]? = some (.cells cs 100 (0,0))):=HG9.out.row (N:=w§) (T:=100) (n:=11) (by simp) cs hc2 hc3
 have HSZ1:Hid (cs.size=11∧old.size=11∧cs.all (·.oneCell')=true):=⟨hc2,ho2,hc3⟩
 clear hc1 hc2 hc3 ho1 ho2 ho3
 go_wp2_with (first | (refine wpList_load_row rfl 100 (.tmp 3) rfl N3 rfl 100 cs (0,0) _ HC.out Tryz.underlying100 rfl (by rw [HSZ1.out.1]; exact size100) ?_) | (refine wpList_store_row rfl 100 (.tmp 2) (.tmp 21) rfl w§ cs rfl rfl 100 old HO.out (by rw [HSZ1.out.1]; exact size100) (by rw [HSZ1.out.1,HSZ1.out.2.1]) HSZ1.out.2.2 ?_))
 exact bodyPost_ret (results_cell_row rfl _ _ w§ 100 cs (0,0) _ rfl HF.out.2 Tryz.underlying100 rfl (by rw [HSZ1.out.1]; exact size100)) rfl (.inl ⟨_,ts9,rfl,⟨cs,rfl,HSZ1.out.1,HSZ1.out.2.2⟩,HF.out.1.R,by rw [dReg,← HN1.out,← HN2.out,← HN4.out,← HN6.out,← HN7.out,← HN9.out],HF.out.1.M⟩)
def doX (x:ByteArray):Int :=
 if eqX x [115,117,98,109,105,116]=true then 1 else if eqX x [97,109,101,110,100]=true then 2 else if eqX x [99,97,110,99,101,108]=true then 3 else if eqX x [115,101,116]=true then 4 else if eqX x [103,111,116,111]=true then 5 else if eqX x [104,97,108,116]=true then 6 else 0
def ordX (x:ByteArray):Int :=
 if eqX x [108,105,109,105,116]=true then 1 else if eqX x [105,111,99]=true then 3 else if eqX x [102,111,107]=true then 4 else if eqX x [112,111,115,116]=true then 5 else 0
theorem doOf_any (t:Tk) (w:World):Calls zG 149 #[.agg (tkA t)] w fun e w'=>e=.returned (zU (doX t.x))∧Below w§ w w':=by
 unfold tkA
 unfold doX eqX
 go_enter Tryz.func149,Tryz.ntmps149
 go_wp2_with fail
 all_goals (go_ret; exact⟨by simp [*],Bn _ _⟩)
theorem orderOf_any (t:Tk) (w:World):Calls zG 178 #[.agg (tkA t)] w fun e w'=>e=.returned (zU (ordX t.x))∧Below w§ w w':=by
 unfold tkA
 unfold ordX eqX
 go_enter Tryz.func178,Tryz.ntmps178
 go_wp2_with fail
 all_goals (go_ret; exact⟨by simp [*],Bn _ _⟩)
theorem ord_fnd (x:ByteArray):(ordX x≠0) ↔ 0≤fnd x [ZH,ZG,ZF,ZJ] 0:=by
 have e0:(eqX x [108,105,109,105,116]=true)=(x=ZH):=eqX_iff x #[108,105,109,105,116]
 have e1:(eqX x [105,111,99]=true)=(x=ZG):=eqX_iff x #[105,111,99]
 have e2:(eqX x [102,111,107]=true)=(x=ZF):=eqX_iff x #[102,111,107]
 have e3:(eqX x [112,111,115,116]=true)=(x=ZJ):=eqX_iff x #[112,111,115,116]
 simp only [ordX,fnd,e0,e1,e2,e3]
 by_cases h0:x=ZH
 ·simp only [if_pos h0]; decide
 simp only [if_neg h0]
 by_cases h1:x=ZG
 ·simp only [if_pos h1]; decide
 simp only [if_neg h1]
 by_cases h2:x=ZF
 ·simp only [if_pos h2]; decide
 simp only [if_neg h2]
 by_cases h3:x=ZJ
 ·simp only [if_pos h3]; decide
 simp only [if_neg h3]
 decide
theorem order_p {w:World}{b G:Nat}{fa:Int}{fe:Value}{ts:List Tk}(h:Rp w b G fa fe ts):Calls zG 171 #[zP b] w (OutV (fun v=>∃ k,v=zU k) b G fa fe w (dOrd (nf ts))):=by
 cases ts with
 | nil =>
  obtain⟨⟨a,c,h1⟩,h2⟩:=h
  have cL:=look_no h1
  clear h1 h2
  go_enter Tryz.func171,Tryz.ntmps171
  go_wp2_with fail
  refine cL.mono ?_
  rintro e w1 ⟨rfl,hb⟩
  exact⟨rfl,.inr ⟨.lex,rfl,rfl,Mv.ofBelow hb⟩⟩
 | cons t ts =>
  have HH:=zH h
  obtain⟨⟨a,c,h1⟩,h2⟩:=h
  have cL:=look_ok h1
  clear h1 h2
  obtain⟨v,ev⟩:∃ v,ordX t.x=v:=⟨_,rfl⟩
  have hi:=ord_fnd t.x
  rw [ev] at hi
  by_cases c:v=0
  ·have HD:Hid (dOrd (nf (t :: ts))=.error (.tok 130 t.p)):=by show (if 0≤fnd t.x [ZH,ZG,ZF,ZJ] 0 then nf ts else .error (.tok 130 t.p))=_; exact if_neg (fun q=>absurd c (hi.2 q))
   subst c
   go_enter Tryz.func171,Tryz.ntmps171
   go_wp2_with fail
   refine cL.mono ?_
   rintro e w1 ⟨rfl,hb⟩
   have cY:=orderOf_any t w1
   rw [ev] at cY
   have HB:=zH hb
   clear cL hb ev hi
   go_wp2_with fail
   refine cY.mono ?_
   rintro e w2 ⟨rfl,hb⟩
   have HB2:=zH (B2 HB.out hb)
   obtain⟨a2,c2,h1⟩:=(HH.out.on HB2.out).1
   have cN:=need_tok h1 130
   clear cY hb h1
   go_wp2_with fail
   refine cN.mono ?_
   rintro e w3 ⟨rfl,hb⟩
   exact⟨rfl,.inr ⟨_,rfl,HD.out,Mv.ofBelow (B2 HB2.out hb)⟩⟩
  ·have HD:Hid (dOrd (nf (t :: ts))=nf ts):=by show (if 0≤fnd t.x [ZH,ZG,ZF,ZJ] 0 then nf ts else .error (.tok 130 t.p))=_; exact if_pos (hi.1 c)
   have c2:(v != 0)=true:=bne_iff_ne.2 c
   go_enter Tryz.func171,Tryz.ntmps171
   go_wp2_with fail
   refine cL.mono ?_
   rintro e w1 ⟨rfl,hb⟩
   have cY:=orderOf_any t w1
   rw [ev] at cY
   have HB:=zH hb
   clear cL hb ev hi
   go_wp2_with fail
   refine cY.mono ?_
   rintro e w2 ⟨rfl,hb⟩
   have HB2:=zH (B2 HB.out hb)
   have cS:=step_p (HH.out.on HB2.out)
   have cN:=need_ok w2 b 130
   clear cY hb
   go_wp2_with (go_at_call 72; refine cN.mono ?_; rintro e w3 ⟨rfl,e4⟩; obtain rfl:=e4.symm)
   refine cS.mono ?_
   rintro e w3 ⟨rfl,hr,hm⟩
   have HR3:Hid (Rp w3 b G fa fe ts∧Mv w w3 (fun k=>k=b)):=⟨hr,(Mv.ofBelow HB2.out).trans hm (fun _ e=>.inl e)⟩
   clear cS hr hm
   go_wp2_with fail
   go_ret
   exact .inl ⟨_,ts,rfl,⟨v,rfl⟩,HR3.out.1,HD.out.symm,HR3.out.2⟩
structure GD (w:World) (b G:Nat) (fa:Int) (fe:Value) (D:Nat) (V:World) (ts:List Tk):Prop where
 M:Mv w V (fun k=>k=b∨k=D)
 S:Shp V D 110 36
 R:Rp V b G fa fe ts
 wb:b < w§
 wg:G < w§
 wd:D < w§
 nb:b≠D
 ng:G≠D
theorem GD.hid {w:World}{b G:Nat}{fa:Int}{fe:Value}{D:Nat}{V:World}{ts:List Tk}(h:GD w b G fa fe D V ts):Hid (GD w b G fa fe D V ts):=h
theorem GD.mv {w:World}{b G:Nat}{fa:Int}{fe:Value}{D:Nat}{V:World}{ts:List Tk}{V':World}{ts':List Tk}(h:GD w b G fa fe D V ts) (hm:Mv V V' (fun k=>k=b)) (hs:Rp V' b G fa fe ts'):GD w b G fa fe D V' ts' :=
 ⟨h.M.trans hm (fun _ e=>.inl (.inl e)),h.S.blk (hm.block _ h.S.lt (fun e=>h.nb e.symm)),hs,h.wb,h.wg,h.wd,h.nb,h.ng⟩
theorem GD.on {w:World}{b G:Nat}{fa:Int}{fe:Value}{D:Nat}{V:World}{ts:List Tk}{V':World}(h:GD w b G fa fe D V ts) (k:Below V§ V V'):GD w b G fa fe D V' ts:=h.mv (Mv.ofBelow k) (h.R.on k)
theorem GD.set {w:World}{b G:Nat}{fa:Int}{fe:Value}{D:Nat}{V:World}{ts:List Tk}(h:GD w b G fa fe D V ts) (i:Nat) (v:Value) (hv:v.oneCell'=true):GD w b G fa fe D (V.setCell ⟨D,i,none⟩ v) ts :=
 ⟨h.M.setCell (a:=⟨D,i,none⟩) (.inl (.inr rfl)) v,h.S.set i v hv,h.R.off (Below.heap_setCell _ _ _ _ h.nb) (Below.heap_setCell _ _ _ _ h.ng) (by simp [World.setCell]),h.wb,h.wg,h.wd,h.nb,h.ng⟩
theorem GD.node {w:World}{b G:Nat}{fa:Int}{fe:Value}{D:Nat}{V:World}{ts:List Tk}(h:GD w b G fa fe D V ts) (o:Nat) (m:Nd) :
  GD w b G fa fe D ((((((((V.setCell ⟨D,o,none⟩ (zU m.h.k)).setCell ⟨D,o+1,none⟩ (zU m.h.o)).setCell ⟨D,o+2,none⟩ (zU m.h.t)).setCell ⟨D,o+3,none⟩ (zI m.h.n)).setCell ⟨D,o+4,none⟩ (zU m.h.f)).setCell ⟨D,o+5,none⟩ (.string m.h.x)).setCell ⟨D,o+6,none⟩ (.slice m.a m.ks.length m.c)).setCell ⟨D,o+7,none⟩ (zI m.h.p)) ts :=
 (((((((h.set _ _ rfl).set _ _ rfl).set _ _ rfl).set _ _ rfl).set _ _ rfl).set _ _ rfl).set _ _ rfl).set _ _ rfl
def OutDo (D b G:Nat) (fa:Int) (fe:Value) (w:World) (s':St) (e:Ending) (w':World):Prop :=
 (∃ ts',e=.returned (.tuple #[])∧Rp w' b G fa fe ts'∧nf ts'=s'∧Shp w' D 110 36∧Mv w w' (fun k=>k=b∨k=D))∨(∃ f,e=pan (ftV fa fe f)∧s'=.error f∧Mv w w' (fun k=>k=b∨k=D))
theorem set_p {w:World}{b G:Nat}{fa:Int}{fe:Value}{ts:List Tk}{D:Nat}(h:Rp w b G fa fe ts) (hS:Shp w D 110 36) (hD:b≠D∧G≠D):Calls zG 152 #[zP b,zP D] w (OutDo D b G fa fe w (dEx (dTake Zv (dName (nf ts))))):=by
 have HG0:=(show GD w b G fa fe D w ts from ⟨Mv.refl _ _,hS,h,h.lt.1,h.lt.2,hS.lt,hD.1,hD.2⟩).hid
 clear h hS hD
 go_enter Tryz.func152,Tryz.ntmps152
 have cC:=name_p HG0.out.R
 go_wp2_with fail
 refine cC.mono ?_
 rintro e w1 (⟨_,ts1,rfl,⟨x1,rfl⟩,hr,hn,hm⟩ | ⟨f,rfl,hf,hm⟩)
 rotate_left
 ·exact⟨rfl,.inr ⟨f,rfl,by rw [hf]; rfl,HG0.out.M.trans hm (fun _ e=>.inl (.inl e))⟩⟩
 have HG1:=(HG0.out.mv hm hr).hid
 have HN1:Hid (nf ts1=dName (nf ts)):=hn
 clear cC hr hn hm HG0
 obtain⟨av2,ac2,af2⟩:=HG1.out.S.cell 2 (show 2 < 36 by omega)
 have HG2:Hid (GD w b G fa fe D (w1.setCell ⟨D,2,none⟩ (.string x1)) ts1):=HG1.out.set 2 (.string x1) rfl
 go_upto_region 1 with fail
 obtain⟨W2,eW2⟩:∃ Y,w1.setCell ⟨D,2,none⟩ (.string x1)=Y:=⟨_,rfl⟩
 rw [eW2] at HG2
 try rw [eW2]
 clear eW2 ac2 af2 HG1
 have cC:=take_p HG2.out.R Zv
 go_wp2_with fail
 refine cC.mono ?_
 rintro e w3 (⟨_,ts3,rfl,⟨tk3,rfl⟩,hr,hn,hm⟩ | ⟨f,rfl,hf,hm⟩)
 rotate_left
 ·exact⟨rfl,.inr ⟨f,rfl,by rw [← HN1.out,hf]; rfl,HG2.out.M.trans hm (fun _ e=>.inl (.inl e))⟩⟩
 have HG3:=(HG2.out.mv hm hr).hid
 have HN3:Hid (nf ts3=dTake Zv (nf ts1)):=hn
 clear cC hr hn hm HG2
 generalize Value.agg (tkA tk3)=D3
 have cC:=expr_p HG3.out.R
 go_wp2_with fail
 refine cC.mono ?_
 rintro e w4 (⟨_,ts4,rfl,⟨⟨⟨k2,o2,ty2,n2,f2,x2,p2⟩,am2,cm2,ks2⟩,rfl⟩,hr,hn,hm⟩ | ⟨f,rfl,hf,hm⟩)
 rotate_left
 ·exact⟨rfl,.inr ⟨f,rfl,by rw [← HN1.out,← HN3.out,hf],HG3.out.M.trans hm (fun _ e=>.inl (.inl e))⟩⟩
 simp only [Nd.vals,Nd.h,Nd.a,Nd.c,Nd.ks,hdA]
 have HG4:=(HG3.out.mv hm hr).hid
 have HN4:Hid (nf ts4=dEx (nf ts3)):=hn
 clear cC hr hn hm HG3
 obtain⟨av27,ac27,af27⟩:=HG4.out.S.cell 27 (show 27 < 36 by omega)
 obtain⟨av28,ac28,af28⟩:=HG4.out.S.cell 28 (show 28 < 36 by omega)
 obtain⟨av29,ac29,af29⟩:=HG4.out.S.cell 29 (show 29 < 36 by omega)
 obtain⟨av30,ac30,af30⟩:=HG4.out.S.cell 30 (show 30 < 36 by omega)
 obtain⟨av31,ac31,af31⟩:=HG4.out.S.cell 31 (show 31 < 36 by omega)
 obtain⟨av32,ac32,af32⟩:=HG4.out.S.cell 32 (show 32 < 36 by omega)
 obtain⟨av33,ac33,af33⟩:=HG4.out.S.cell 33 (show 33 < 36 by omega)
 obtain⟨av34,ac34,af34⟩:=HG4.out.S.cell 34 (show 34 < 36 by omega)
 have HG5:Hid (GD w b G fa fe D ((((((((w4.setCell ⟨D,27,none⟩ (zU k2)).setCell ⟨D,28,none⟩ (zU o2)).setCell ⟨D,29,none⟩ (zU ty2)).setCell ⟨D,30,none⟩ (zI n2)).setCell ⟨D,31,none⟩ (zU f2)).setCell ⟨D,32,none⟩ (.string x2)).setCell ⟨D,33,none⟩ (.slice am2 ks2.length cm2)).setCell ⟨D,34,none⟩ (zI p2)) ts4):=HG4.out.node 27 (Nd.mk ⟨k2,o2,ty2,n2,f2,x2,p2⟩ am2 cm2 ks2)
 go_wp2_with fail
 obtain⟨W5,eW5⟩:∃ Y,((((((((w4.setCell ⟨D,27,none⟩ (zU k2)).setCell ⟨D,28,none⟩ (zU o2)).setCell ⟨D,29,none⟩ (zU ty2)).setCell ⟨D,30,none⟩ (zI n2)).setCell ⟨D,31,none⟩ (zU f2)).setCell ⟨D,32,none⟩ (.string x2)).setCell ⟨D,33,none⟩ (.slice am2 ks2.length cm2)).setCell ⟨D,34,none⟩ (zI p2))=Y:=⟨_,rfl⟩
 rw [eW5] at HG5
 try rw [eW5]
 clear eW5 ac27 af27 ac28 af28 ac29 af29 ac30 af30 ac31 af31 ac32 af32 ac33 af33 ac34 af34 HG4
 try generalize Value.agg (zN k2 o2 ty2 n2 f2 x2 am2 ks2 cm2 p2)=Dg5
 go_end0
 exact .inl ⟨ts4,rfl,HG5.out.R,by rw [← HN1.out,← HN3.out]; exact HN4.out,HG5.out.S,HG5.out.M⟩
theorem amend_p {w:World}{b G:Nat}{fa:Int}{fe:Value}{ts:List Tk}{D:Nat}(h:Rp w b G fa fe ts) (hS:Shp w D 110 36) (hD:b≠D∧G≠D):Calls zG 151 #[zP b,zP D] w (OutDo D b G fa fe w (dEx (dTake Zi (dEx (dTake ZS (dName (nf ts))))))):=by
 have HG0:=(show GD w b G fa fe D w ts from ⟨Mv.refl _ _,hS,h,h.lt.1,h.lt.2,hS.lt,hD.1,hD.2⟩).hid
 clear h hS hD
 go_enter Tryz.func151,Tryz.ntmps151
 have cC:=name_p HG0.out.R
 go_wp2_with fail
 refine cC.mono ?_
 rintro e w1 (⟨_,ts1,rfl,⟨x1,rfl⟩,hr,hn,hm⟩ | ⟨f,rfl,hf,hm⟩)
 rotate_left
 ·exact⟨rfl,.inr ⟨f,rfl,by rw [hf]; rfl,HG0.out.M.trans hm (fun _ e=>.inl (.inl e))⟩⟩
 have HG1:=(HG0.out.mv hm hr).hid
 have HN1:Hid (nf ts1=dName (nf ts)):=hn
 clear cC hr hn hm HG0
 obtain⟨av2,ac2,af2⟩:=HG1.out.S.cell 2 (show 2 < 36 by omega)
 have HG2:Hid (GD w b G fa fe D (w1.setCell ⟨D,2,none⟩ (.string x1)) ts1):=HG1.out.set 2 (.string x1) rfl
 go_upto_region 1 with fail
 obtain⟨W2,eW2⟩:∃ Y,w1.setCell ⟨D,2,none⟩ (.string x1)=Y:=⟨_,rfl⟩
 rw [eW2] at HG2
 try rw [eW2]
 clear eW2 ac2 af2 HG1
 have cC:=take_p HG2.out.R ZS
 go_wp2_with fail
 refine cC.mono ?_
 rintro e w3 (⟨_,ts3,rfl,⟨tk3,rfl⟩,hr,hn,hm⟩ | ⟨f,rfl,hf,hm⟩)
 rotate_left
 ·exact⟨rfl,.inr ⟨f,rfl,by rw [← HN1.out,hf]; rfl,HG2.out.M.trans hm (fun _ e=>.inl (.inl e))⟩⟩
 have HG3:=(HG2.out.mv hm hr).hid
 have HN3:Hid (nf ts3=dTake ZS (nf ts1)):=hn
 clear cC hr hn hm HG2
 generalize Value.agg (tkA tk3)=D3
 have cC:=expr_p HG3.out.R
 go_wp2_with fail
 refine cC.mono ?_
 rintro e w4 (⟨_,ts4,rfl,⟨⟨⟨k2,o2,ty2,n2,f2,x2,p2⟩,am2,cm2,ks2⟩,rfl⟩,hr,hn,hm⟩ | ⟨f,rfl,hf,hm⟩)
 rotate_left
 ·exact⟨rfl,.inr ⟨f,rfl,by rw [← HN1.out,← HN3.out,hf]; rfl,HG3.out.M.trans hm (fun _ e=>.inl (.inl e))⟩⟩
 simp only [Nd.vals,Nd.h,Nd.a,Nd.c,Nd.ks,hdA]
 have HG4:=(HG3.out.mv hm hr).hid
 have HN4:Hid (nf ts4=dEx (nf ts3)):=hn
 clear cC hr hn hm HG3
 obtain⟨av11,ac11,af11⟩:=HG4.out.S.cell 11 (show 11 < 36 by omega)
 obtain⟨av12,ac12,af12⟩:=HG4.out.S.cell 12 (show 12 < 36 by omega)
 obtain⟨av13,ac13,af13⟩:=HG4.out.S.cell 13 (show 13 < 36 by omega)
 obtain⟨av14,ac14,af14⟩:=HG4.out.S.cell 14 (show 14 < 36 by omega)
 obtain⟨av15,ac15,af15⟩:=HG4.out.S.cell 15 (show 15 < 36 by omega)
 obtain⟨av16,ac16,af16⟩:=HG4.out.S.cell 16 (show 16 < 36 by omega)
 obtain⟨av17,ac17,af17⟩:=HG4.out.S.cell 17 (show 17 < 36 by omega)
 obtain⟨av18,ac18,af18⟩:=HG4.out.S.cell 18 (show 18 < 36 by omega)
 have HG5:Hid (GD w b G fa fe D ((((((((w4.setCell ⟨D,11,none⟩ (zU k2)).setCell ⟨D,12,none⟩ (zU o2)).setCell ⟨D,13,none⟩ (zU ty2)).setCell ⟨D,14,none⟩ (zI n2)).setCell ⟨D,15,none⟩ (zU f2)).setCell ⟨D,16,none⟩ (.string x2)).setCell ⟨D,17,none⟩ (.slice am2 ks2.length cm2)).setCell ⟨D,18,none⟩ (zI p2)) ts4):=HG4.out.node 11 (Nd.mk ⟨k2,o2,ty2,n2,f2,x2,p2⟩ am2 cm2 ks2)
 go_upto_region 3 with fail
 obtain⟨W5,eW5⟩:∃ Y,((((((((w4.setCell ⟨D,11,none⟩ (zU k2)).setCell ⟨D,12,none⟩ (zU o2)).setCell ⟨D,13,none⟩ (zU ty2)).setCell ⟨D,14,none⟩ (zI n2)).setCell ⟨D,15,none⟩ (zU f2)).setCell ⟨D,16,none⟩ (.string x2)).setCell ⟨D,17,none⟩ (.slice am2 ks2.length cm2)).setCell ⟨D,18,none⟩ (zI p2))=Y:=⟨_,rfl⟩
 rw [eW5] at HG5
 try rw [eW5]
 clear eW5 ac11 af11 ac12 af12 ac13 af13 ac14 af14 ac15 af15 ac16 af16 ac17 af17 ac18 af18 HG4
 try generalize Value.agg (zN k2 o2 ty2 n2 f2 x2 am2 ks2 cm2 p2)=Dg5
 have cC:=take_p HG5.out.R Zi
 go_wp2_with fail
 refine cC.mono ?_
 rintro e w6 (⟨_,ts6,rfl,⟨tk6,rfl⟩,hr,hn,hm⟩ | ⟨f,rfl,hf,hm⟩)
 rotate_left
 ·exact⟨rfl,.inr ⟨f,rfl,by rw [← HN1.out,← HN3.out,← HN4.out,hf]; rfl,HG5.out.M.trans hm (fun _ e=>.inl (.inl e))⟩⟩
 have HG6:=(HG5.out.mv hm hr).hid
 have HN6:Hid (nf ts6=dTake Zi (nf ts4)):=hn
 clear cC hr hn hm HG5
 generalize Value.agg (tkA tk6)=D6
 have cC:=expr_p HG6.out.R
 go_wp2_with fail
 refine cC.mono ?_
 rintro e w7 (⟨_,ts7,rfl,⟨⟨⟨k3,o3,ty3,n3,f3,x3,p3⟩,am3,cm3,ks3⟩,rfl⟩,hr,hn,hm⟩ | ⟨f,rfl,hf,hm⟩)
 rotate_left
 ·exact⟨rfl,.inr ⟨f,rfl,by rw [← HN1.out,← HN3.out,← HN4.out,← HN6.out,hf],HG6.out.M.trans hm (fun _ e=>.inl (.inl e))⟩⟩
 simp only [Nd.vals,Nd.h,Nd.a,Nd.c,Nd.ks,hdA]
 have HG7:=(HG6.out.mv hm hr).hid
 have HN7:Hid (nf ts7=dEx (nf ts6)):=hn
 clear cC hr hn hm HG6
 obtain⟨av19,ac19,af19⟩:=HG7.out.S.cell 19 (show 19 < 36 by omega)
 obtain⟨av20,ac20,af20⟩:=HG7.out.S.cell 20 (show 20 < 36 by omega)
 obtain⟨av21,ac21,af21⟩:=HG7.out.S.cell 21 (show 21 < 36 by omega)
 obtain⟨av22,ac22,af22⟩:=HG7.out.S.cell 22 (show 22 < 36 by omega)
 obtain⟨av23,ac23,af23⟩:=HG7.out.S.cell 23 (show 23 < 36 by omega)
 obtain⟨av24,ac24,af24⟩:=HG7.out.S.cell 24 (show 24 < 36 by omega)
 obtain⟨av25,ac25,af25⟩:=HG7.out.S.cell 25 (show 25 < 36 by omega)
 obtain⟨av26,ac26,af26⟩:=HG7.out.S.cell 26 (show 26 < 36 by omega)
 have HG8:Hid (GD w b G fa fe D ((((((((w7.setCell ⟨D,19,none⟩ (zU k3)).setCell ⟨D,20,none⟩ (zU o3)).setCell ⟨D,21,none⟩ (zU ty3)).setCell ⟨D,22,none⟩ (zI n3)).setCell ⟨D,23,none⟩ (zU f3)).setCell ⟨D,24,none⟩ (.string x3)).setCell ⟨D,25,none⟩ (.slice am3 ks3.length cm3)).setCell ⟨D,26,none⟩ (zI p3)) ts7):=HG7.out.node 19 (Nd.mk ⟨k3,o3,ty3,n3,f3,x3,p3⟩ am3 cm3 ks3)
 go_wp2_with fail
 obtain⟨W8,eW8⟩:∃ Y,((((((((w7.setCell ⟨D,19,none⟩ (zU k3)).setCell ⟨D,20,none⟩ (zU o3)).setCell ⟨D,21,none⟩ (zU ty3)).setCell ⟨D,22,none⟩ (zI n3)).setCell ⟨D,23,none⟩ (zU f3)).setCell ⟨D,24,none⟩ (.string x3)).setCell ⟨D,25,none⟩ (.slice am3 ks3.length cm3)).setCell ⟨D,26,none⟩ (zI p3))=Y:=⟨_,rfl⟩
 rw [eW8] at HG8
 try rw [eW8]
 clear eW8 ac19 af19 ac20 af20 ac21 af21 ac22 af22 ac23 af23 ac24 af24 ac25 af25 ac26 af26 HG7
 try generalize Value.agg (zN k3 o3 ty3 n3 f3 x3 am3 ks3 cm3 p3)=Dg8
 go_end0
 exact .inl ⟨ts7,rfl,HG8.out.R,by rw [← HN1.out,← HN3.out,← HN4.out,← HN6.out]; exact HN7.out,HG8.out.S,HG8.out.M⟩
end Go.Proofs.YtkfabnchhjfjjaaGreatDoor
