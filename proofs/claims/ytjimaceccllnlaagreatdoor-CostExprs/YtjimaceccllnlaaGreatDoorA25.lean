import Derived.Test.YtjimaceccllnlaaGreatDoorA0
import Derived.Test.YtjimaceccllnlaaGreatDoorA24
import Derived.Test.YtjimaceccllnlaaGreatDoorA4
import Derived.Test.YtjimaceccllnlaaGreatDoorA1
import Derived.Laws.Closers25
namespace Go.Proofs.YtjimaceccllnlaaGreatDoor
set_option maxRecDepth 100000
open Go.RowKit
set_option linter.unusedVariables false
set_option linter.unusedSimpArgs false
theorem sum_le:∀ (l:List Nd), (∀ k ∈ l, wgt k≤2 * size k)→(l.map wgt).sum≤2 * sizes l
 | [], _ => by simp [sizes]
 | k :: l, h => by
  have h1:=h k (by simp)
  have h2:=sum_le l fun x hx => h x (by simp [hx])
  simp only [List.map_cons, List.sum_cons, sizes]
  omega
theorem wgt_le:∀ m:Nd, formB m=true→wgt m≤2 * size m:=by
 refine Nd.ind fun h a c ks ih hf => ?_
 simp only [formB, oneH, Bool.and_eq_true] at hf
 have hs:∀ k ∈ ks, wgt k≤2 * size k:=fun k hk => ih k hk (formsB_mem ks hf.2 k hk)
 by_cases h9:h.k=9
 ·obtain ⟨x, rfl⟩:=len1 (fit_9 hf.1.2 h9)
  have:=hs x (by simp)
  simp [wgt, h9, wgts, size, sizes]
  omega
 by_cases h7:h.k=7
 ·obtain ⟨x, y, z, rfl⟩:=len3 (fit_7 hf.1.2 h7)
  have h1:=hs x (by simp)
  have h2:=hs y (by simp)
  have h3:=hs z (by simp)
  simp [wgt, h7, wgts, size, sizes, mxs]
  omega
 ·have:=sum_le ks hs
  simp only [wgt, h9, h7, if_false, wgts_map, size]
  omega
theorem weight_any (m:Nd) (w:World) (hl:Lies w m) (hf:formB m=true) (hz:size m≤1000000000000):Calls zG 32 #[.agg m.vals] w fun e w' => e=.returned (zI (wgt m))∧Below w§ w w':=weight_of (wgC_all m hf) w hl (by have:=wgt_le m hf; omega)
def exW (m:Nd):Nat:=if formB m=true then wgt m else 0
theorem cexpr_any (m:Nd) (w:World) (hl:Lies w m) (hz:size m≤1000000000000) (ht:Tab w):Calls zG 12 #[.agg m.vals] w fun e w' => e=.returned (zI (exW m))∧Below w§ w w':=by
 have hb1:=Bn w (.cells zNd m.h m.a m.ks.length m.c 28)
 have hn1:=Hn w (.cells zNd m.h m.a m.ks.length m.c 28)
 obtain ⟨W1, e1⟩:∃ W, w.alloc (.cells zNd m.h m.a m.ks.length m.c 28)=W:=⟨_, rfl⟩
 have E1:Hid (w.alloc (.cells zNd m.h m.a m.ks.length m.c 28)=W1):=e1
 rw [e1] at hb1 hn1
 have HB1:Hid (Below w§ w W1):=hb1
 have HN1:Hid (W1.heap[w§]?=some (.cells zNd m.h m.a m.ks.length m.c 28 (0, 0))):=hn1
 have HL:Hid (Lies w m∧size m≤1000000000000):=⟨hl, hz⟩
 have c0:W1.cell? ⟨w§, 0, none⟩=some (zU m.h.k):=Co hn1 0
 have c1:W1.cell? ⟨w§, 1, none⟩=some (zU m.h.o):=Co hn1 1
 have c2:W1.cell? ⟨w§, 2, none⟩=some (zU m.h.t):=Co hn1 2
 have c3:W1.cell? ⟨w§, 3, none⟩=some (zI m.h.n):=Co hn1 3
 have c4:W1.cell? ⟨w§, 4, none⟩=some (zU m.h.f):=Co hn1 4
 have c5:W1.cell? ⟨w§, 5, none⟩=some (.string m.h.x):=Co hn1 5
 have c6:W1.cell? ⟨w§, 6, none⟩=some (.slice m.a m.ks.length m.c):=Co hn1 6
 have c7:W1.cell? ⟨w§, 7, none⟩=some (zI m.h.p):=Co hn1 7
 have cC:Calls zG 31 #[.agg zNd m.h m.a m.ks.length m.c] W1 fun e w' => e=.returned (zI (cE m))∧Below W1§ W1 w':=checkExpr_any m W1 (hl.on hb1) hz (ht.on hb1)
 obtain ⟨E, eE⟩:∃ E, cE m=E:=⟨_, rfl⟩
 have HE:Hid (cE m=E):=eE
 rw [eE] at cC
 clear hb1 hn1 e1 hl hz ht eE
 show Calls zG 12 #[.agg zNd m.h m.a m.ks.length m.c] w _
 go_enter Tryz.func12, Tryz.ntmps12
 go_upto_region 1 with fail
 rw [E1.out]
 clear E1
 go_wp2_with fail
 refine cC.mono ?_
 rintro e w2 ⟨rfl, hb2⟩
 have HB2:Hid (Below w§ w w2):=below2 HB1.out hb2
 have g:=(hb2.block _ (Array.getElem?_eq_some_iff.1 HN1.out).1).trans HN1.out
 clear cC hb2 c0 c1 c2 c3 c4 c5 c6 c7
 cases hf:formB m with
 | true =>
  have hE:(E == 120)=false:=by have h:=HE.out; unfold cE at h; rw [if_pos hf] at h; rw [← h]; split <;> rfl
  have HX:Hid (exW m=wgt m):=if_pos hf
  have d0:w2.cell? ⟨w§, 0, none⟩=some (zU m.h.k):=Co g 0
  have d1:w2.cell? ⟨w§, 1, none⟩=some (zU m.h.o):=Co g 1
  have d2:w2.cell? ⟨w§, 2, none⟩=some (zU m.h.t):=Co g 2
  have d3:w2.cell? ⟨w§, 3, none⟩=some (zI m.h.n):=Co g 3
  have d4:w2.cell? ⟨w§, 4, none⟩=some (zU m.h.f):=Co g 4
  have d5:w2.cell? ⟨w§, 5, none⟩=some (.string m.h.x):=Co g 5
  have d6:w2.cell? ⟨w§, 6, none⟩=some (.slice m.a m.ks.length m.c):=Co g 6
  have d7:w2.cell? ⟨w§, 7, none⟩=some (zI m.h.p):=Co g 7
  have cW:Calls zG 32 #[.agg zNd m.h m.a m.ks.length m.c] w2 fun e w' => e=.returned (zI (wgt m))∧Below w2§ w2 w':=weight_any m w2 (HL.out.1.on HB2.out) hf HL.out.2
  clear g hf HE
  go_wp2_with fail
  refine cW.mono ?_
  rintro e w3 ⟨rfl, hb3⟩
  have HB3:Hid (Below w§ w w3):=below2 HB2.out hb3
  clear cW hb3
  go_wp2_with fail
  go_ret
  exact ⟨by rw [HX.out]; rfl, HB3.out⟩
 | false =>
  have hE:(E == 120)=true:=by have h:=HE.out; unfold cE at h; rw [if_neg (by rw [hf]; decide)] at h; rw [← h]; rfl
  have HX:Hid (exW m=0):=if_neg (by rw [hf]; decide)
  clear g hf HE
  go_wp2_with fail
  go_ret
  exact ⟨by rw [HX.out]; rfl, HB2.out⟩
set_option maxHeartbeats 4000000
mutual
/-- How many nodes and bytes of names. -/
def wt:Nd→Nat
 | .mk h _ _ ks => 1 + h.x.size + wts ks
def wts:List Nd→Nat
 | [] => 0
 | k :: ks => wt k + wts ks
end
theorem size_wt:∀ m, size m≤wt m:=by
 refine Nd.ind fun h a c ks ih => ?_
 have:∀ l:List Nd, (∀ k ∈ l, size k≤wt k)→sizes l≤wts l:=by
  intro l
  induction l with
  | nil => intro _; exact Nat.le_refl _
  | cons k l ihl => intro hl; simp only [sizes, wts]; have h1:=hl k (by simp); have h2:=ihl fun x hx => hl x (by simp [hx]); omega
 simp only [size, wt]
 have:=this ks ih
 omega
def Wgh (m:Nd) (n:Int) (r:Int):Prop:=n≤r∧r≤4611686018427387904∧(r≤1048576→r=n + wt m)
theorem weigh_any:∀ (m:Nd) (w:World) (n d:Int), Lies w m→0≤n→n≤1048577→0≤d→d≤60001→Calls zG 30 #[.agg m.vals, zI n, zI d] w fun e w' => (∃ r, e=.returned (zI r)∧Wgh m n r)∧Below w§ w w':=by
 refine Nd.ind fun h a c ks ih w n d hl h1 h2 h3 h4 => ?_
 have HI:Hid (∀ k ∈ ks, ∀ (w:World) (n d:Int), Lies w k→0≤n→n≤1048577→0≤d→d≤60001→Calls zG 30 #[.agg k.vals, zI n, zI d] w fun e w' => (∃ r, e=.returned (zI r)∧Wgh k n r)∧Below w§ w w'):=ih
 have HL:=hl.hid
 have hx:=hl.rg.x1
 simp only [Nd.h] at hx
 show Calls zG 30 #[.agg zNd h a ks.length c, zI n, zI d] w _
 have HD:Hid (0≤d∧d≤60001∧0≤n∧n≤1048577∧(h.x.size:Int)≤140737488355328):=⟨h3, h4, h1, h2, by omega⟩
 have g1:-9223372036854775808≤n + 1:=by omega
 have g2:n + 1≤9223372036854775807:=by omega
 have g3:-9223372036854775808≤n + 1 + (h.x.size:Int):=by omega
 have g4:n + 1 + (h.x.size:Int)≤9223372036854775807:=by omega
 have HN0:Hid (NdH (w.alloc (.cells zNd h a ks.length c 28)) w§ (.mk h a c ks)):=Hn w _
 have HW:Hid ((wt (.mk h a c ks):Int)=1 + h.x.size + wts ks):=by show _=_; simp only [wt]; omega
 clear ih hl hx h1 h2 h3 h4
 by_cases hd:d > 60000
 ·go_enter Tryz.func30, Tryz.ntmps30
  go_wp2_with fail
  go_ret
  exact ⟨⟨_, rfl, by have:=HD.out; omega, by decide, fun hh => absurd hh (by decide)⟩, Bn _ _⟩
 ·have g5:d + 1≤9223372036854775807:=by have:=HD.out; omega
  have g6:-9223372036854775808≤d + 1:=by have:=HD.out; omega
  go_enter Tryz.func30, Tryz.ntmps30
  go_wp2_with fail
  go_loopw [1, 7] (fun v t wr => ∃ (i:Nat) (z:Int), i≤ks.length∧t=zI i∧v=zI z∧Below (w.alloc (.cells zNd h a ks.length c 28))§ (w.alloc (.cells zNd h a ks.length c 28)) wr∧Hid (n≤z∧z≤4611686018427387904∧(z≤1048576→z + wts (ks.drop i)=n + wt (.mk h a c ks)))) (fun _ t _ => ks.length - (intOf t).toNat)
  case atStart => exact ⟨0, n + 1 + (h.x.size:Int), by omega, rfl, rfl, Below.refl _ _, by have:=HD.out; omega, by have:=HD.out; omega, fun _ => by rw [HW.out, List.drop_zero]; omega⟩
  case round =>
   obtain ⟨i, z, hi, rfl, rfl, hbr, HR⟩:=hrel
   have HBR:Hid (Below w§ w wr):=below2 (Bn _ _) hbr
   have HBr:Hid (Below (w.alloc (.cells zNd h a ks.length c 28))§ (w.alloc (.cells zNd h a ks.length c 28)) wr):=hbr
   have hN:NdH wr w§ (.mk h a c ks):=HN0.out.on hbr
   have q6:wr.cell? ⟨w§, 6, none⟩=some (.slice a ks.length c):=Co hN 6
   clear hbr hN
   by_cases hlt:i < ks.length
   ·have hlt':(i:Int) < (ks.length:Int):=by omega
    by_cases hz:z≤1048576
    ·obtain ⟨b, o, e1, hat⟩:=(HL.out.on HBR.out).kid i hlt
     have e2:a=some ⟨b, o, none⟩:=e1
     clear e1
     have hk1:NdAt wr b (o + i * 8) ks[i]:=hat
     clear hat
     have cI:=HI.out ks[i] (nth_mem hlt) wr z (d + 1) ((HL.out.sub _ (nth_mem hlt)).on HBR.out) (by have h1:=HR.out; have h2:=HD.out; omega) (by omega) (by have:=HD.out; omega) (by omega)
     have HW2:Hid (wts (ks.drop i)=wt ks[i] + wts (ks.drop (i + 1))):=by show _=_; rw [drop_nth hlt]; rfl
     have hmx:(i:Int) + 1≤9223372036854775807:=by
      have h1:=HL.out.max
      have h2:=HL.out.cap
      simp only [Nd.ks, Nd.c] at h1 h2
      omega
     obtain ⟨k, ek⟩:∃ k, ks[i]=k:=⟨_, rfl⟩
     rw [ek] at hk1 cI HW2
     subst e2
     obtain ⟨y0, y1, y2, y3, y4, y5, y6, y7⟩:=hk1
     have cI:Calls zG 30 #[.agg zNd k.h k.a k.ks.length k.c, zI z, zI (d + 1)] wr fun e w' => (∃ r, e=.returned (zI r)∧Wgh k z r)∧Below wr§ wr w':=cI
     clear ek
     go_wp2_with fail
     refine cI.mono ?_
     rintro e w5 ⟨⟨r, rfl, hr1, hr2, hr3⟩, hb5⟩
     have HB5:Hid (Below (w.alloc (.cells zNd h (some ⟨b, o, none⟩) ks.length c 28))§ (w.alloc (.cells zNd h (some ⟨b, o, none⟩) ks.length c 28)) w5):=below2 HBr.out hb5
     have HX:Hid (n≤r∧r≤4611686018427387904∧(r≤1048576→r + wts (ks.drop (i + 1))=n + wt (.mk h (some ⟨b, o, none⟩) c ks))):=by
      have h1:=HR.out
      have h2:=HW2.out
      exact ⟨by omega, hr2, fun hh => by have e1:=hr3 hh; have e2:=h1.2.2 hz; omega⟩
     clear hb5 cI hr1 hr2 hr3 y0 y1 y2 y3 y4 y5 y6 y7 q6
     go_wp2_with fail
     exact ⟨⟨i + 1, r, hlt, rfl, rfl, HB5.out, HX.out⟩, by simp only [intOf]; omega⟩
    ·go_wp2_with fail
     go_ret
     exact ⟨⟨_, rfl, HR.out.1, HR.out.2.1, fun hh => absurd hh (by omega)⟩, HBR.out⟩
   ·obtain rfl:i=ks.length:=by omega
    have hnot:¬ (ks.length:Int) < (ks.length:Int):=by omega
    go_wp2_with fail
    go_ret
    exact ⟨⟨_, rfl, HR.out.1, HR.out.2.1, fun hh => by have:=HR.out.2.2 hh; rw [List.drop_length] at this; simpa [wts] using this⟩, HBR.out⟩
theorem far_any (m:Nd) (w:World) (hl:Lies w m):Calls zG 10 #[.agg m.vals] w fun e w' => (∃ b, e=.returned (.bool b)∧(b=false→wt m≤1048576))∧Below w§ w w':=by
 have c:=weigh_any m (w.alloc (.cells m.vals 28)) 0 0 (hl.on (Bn w _)) (by decide) (by decide) (by decide) (by decide)
 clear hl
 unfold Nd.vals hdA at c ⊢
 go_enter Tryz.func10, Tryz.ntmps10
 go_wp2_with fail
 refine c.mono ?_
 rintro e w1 ⟨⟨r, rfl, hr1, hr2, hr3⟩, hb⟩
 have HB:Hid (Below w§ w w1):=(Bn _ _).trans (hb.mono (by simp))
 have HR:Hid (r≤1048576→r=0 + wt m):=hr3
 clear hb hr3 c
 go_wp2_with fail
 go_ret
 refine ⟨⟨_, rfl, fun hh => ?_⟩, HB.out⟩
 have:r≤1048576:=by simpa using hh
 have:=HR.out this
 omega
theorem letter_any (c:UInt8) (w:World):Calls zG 117 #[zU (c.toNat:Int)] w fun e w'=>e=.returned (.bool (letB c))∧w'=w:=by
 go_enter Tryz.func117,Tryz.ntmps117
 go_wp2
 all_goals go_ret
 all_goals refine⟨retB ?_,rfl⟩
 all_goals unfold letB
 ·have h:97≤c.toNat:=by omega
  by_cases h2:c.toNat≤122
  ·rw [decide_eq_true (show (c.toNat:Int)≤122 by omega),decide_eq_true ⟨h,h2⟩]
  ·rw [decide_eq_false (show ¬ (c.toNat:Int)≤122 by omega),decide_eq_false (fun k=>h2 k.2)]
 ·rw [decide_eq_false (by omega)]
theorem digit_any (c:UInt8) (w:World):Calls zG 150 #[zU (c.toNat:Int)] w fun e w'=>e=.returned (.bool (digB c))∧w'=w:=by
 go_enter Tryz.func150,Tryz.ntmps150
 go_wp2
 all_goals go_ret
 all_goals refine⟨retB ?_,rfl⟩
 all_goals unfold digB
 ·have h:48≤c.toNat:=by omega
  by_cases h2:c.toNat≤57
  ·rw [decide_eq_true (show (c.toNat:Int)≤57 by omega),decide_eq_true ⟨h,h2⟩]
  ·rw [decide_eq_false (show ¬ (c.toNat:Int)≤57 by omega),decide_eq_false (fun k=>h2 k.2)]
 ·rw [decide_eq_false (by omega)]
theorem letter_b {c:UInt8}{b:Bool}(h:letB c=b) (w:World):Calls zG 117 #[zU (c.toNat:Int)] w fun e w'=>e=.returned (.bool b)∧w'=w:=h ▸ letter_any c w
theorem digit_b {c:UInt8}{b:Bool}(h:digB c=b) (w:World):Calls zG 150 #[zU (c.toNat:Int)] w fun e w'=>e=.returned (.bool b)∧w'=w:=h ▸ digit_any c w
theorem goes_any (c:UInt8) (w:World):Calls zG 118 #[zU (c.toNat:Int)] w fun e w'=>e=.returned (.bool (goB c))∧w'=w:=by
 cases b1:letB c
 ·cases b2:digB c
  ·have hg:goB c=((c.toNat:Int) == 95):=by
    unfold goB
    rw [b1,b2]
    by_cases h:c.toNat=95
    ·rw [h]; rfl
    ·have h':((c.toNat:Int) == 95)=false:=beq_false_of_ne (by omega)
     rw [h']; simp [h]
   go_enter Tryz.func118,Tryz.ntmps118
   go_wp2_with (first | (go_at_call 117; refine (letter_b b1 _).mono ?_; rintro _ v ⟨rfl,e⟩; obtain rfl:=e.symm) | (go_at_call 150; refine (digit_b b2 _).mono ?_; rintro _ v ⟨rfl,e⟩; obtain rfl:=e.symm))
   all_goals go_ret
   all_goals exact⟨by rw [hg]; rfl,rfl⟩
  ·have hg:goB c=true:=by unfold goB; rw [b1,b2]; rfl
   go_enter Tryz.func118,Tryz.ntmps118
   go_wp2_with (first | (go_at_call 117; refine (letter_b b1 _).mono ?_; rintro _ v ⟨rfl,e⟩; obtain rfl:=e.symm) | (go_at_call 150; refine (digit_b b2 _).mono ?_; rintro _ v ⟨rfl,e⟩; obtain rfl:=e.symm))
   all_goals go_ret
   all_goals exact⟨by rw [hg]; rfl,rfl⟩
 ·have hg:goB c=true:=by unfold goB; rw [b1]; rfl
  go_enter Tryz.func118,Tryz.ntmps118
  go_wp2_with (go_at_call 117; refine (letter_b b1 _).mono ?_; rintro _ v ⟨rfl,e⟩; obtain rfl:=e.symm)
  all_goals go_ret
  all_goals exact⟨by rw [hg]; rfl,rfl⟩
theorem goes_b {c:UInt8}{b:Bool}(h:goB c=b) (w:World):Calls zG 118 #[zU (c.toNat:Int)] w fun e w'=>e=.returned (.bool b)∧w'=w:=h ▸ goes_any c w
theorem words_any (w:World):Calls zG 149 #[] w fun e w'=>e=.returned (.slice (some ⟨w§,0,none⟩) 41 41)∧w'=w.alloc (.cells wordsV 9):=by
 go_enter Tryz.func149,Tryz.ntmps149
 go_wp2
 go_ret
 exact⟨rfl,rfl⟩
theorem word_any (s:ByteArray) (w:World):Calls zG 116 #[.string s] w fun e w'=>e=.returned (.bool (isW s))∧Below w§ w w':=by
 have hc:=words_cell w
 have hB:=Bn w (.cells wordsV 9)
 go_enter Tryz.func116,Tryz.ntmps116
 go_wp2_with fail
 refine (words_any _).mono ?_
 rintro _ v ⟨rfl,e⟩
 rw [← e] at hc hB
 have HC:=zH hc
 clear hc e
 go_wp2_with fail
 go_loop [4] (fun t=>∃ i:Nat,i≤41∧t=zI i∧Hid (∀ j,j < i→¬ wd j=s)) (fun t=>41 - (intOf t).toNat)
 case atStart=>exact⟨0,by omega,rfl,fun j hj=>by omega⟩
 case round =>
  obtain⟨i,hi,rfl,HR⟩:=hrel
  by_cases hlt:i < 41
  ·have hlt':(i:Int) < 41:=by omega
   have hcell:=HC.out i hlt
   obtain⟨x,ex⟩:∃ x,wd i=x:=⟨_,rfl⟩
   rw [ex] at hcell
   by_cases he:x=s
   ·have hw:=isW_yes hlt (ex.trans he)
    subst he
    go_wp2
    go_ret
    exact⟨by first | rfl | exact retB hw.symm,hB⟩
   ·have hne:=seq_ne he
    have hn:Hid (∀ j,j < i+1→¬ wd j=s):=fun j hj=>by
     by_cases e:j=i
     ·subst e; rw [ex]; exact he
     ·exact HR.out j (by omega)
    clear he ex
    go_wp2
    exact⟨⟨i+1,by omega,by go_num,hn⟩,by simp only [intOf]; omega⟩
  ·obtain rfl:i=41:=by omega
   have hw:=isW_no HR.out
   go_wp2
   go_ret
   exact⟨by first | rfl | exact retB hw.symm,hB⟩
theorem rname_any (s:ByteArray) (hs:s.size≤140737488355328) (w:World):Calls zG 73 #[.string s] w fun e w'=>e=.returned (.bool (nameB s))∧Below w§ w w':=by
 have cW:=word_any s w
 cases hW:isW s
 ·rw [hW] at cW
  by_cases h1:1≤s.size
  ·by_cases h2:s.size≤16
   ·have hr:=rest_at s 0 (by omega)
    obtain⟨c,hc⟩:∃ c,s[0]=c:=⟨_,rfl⟩
    rw [hc] at hr
    have h1':¬ (s.size:Int) < 1:=by omega
    have h2':¬ (s.size:Int) > 16:=by omega
    have h3':(0:Int) < (s.size:Int):=by omega
    have h3:0 < s.size:=by omega
    cases hl:letB c
    ·have K:Hid (nameB s=false):=by show _=_; unfold nameB; rw [hr]; simp [hdB,hl]
     clear hr
     go_enter Tryz.func73,Tryz.ntmps73
     go_wp2_with (first | (go_at_call 116; refine cW.mono ?_; rintro _ v ⟨rfl,bb⟩) | (go_at_call 117; refine (letter_b hl _).mono ?_; rintro _ v2 ⟨rfl,e⟩; obtain rfl:=e.symm))
     go_ret
     exact⟨retB K.out.symm,bb⟩
    ·have HK:Hid (nameB s=decide (lead goB (rest s 0)=s.size)):=by show _=_; unfold nameB; rw [hW]; simp [hr,hdB,hl,h1,h2]
     clear hr
     go_enter Tryz.func73,Tryz.ntmps73
     go_wp2_with (first | (go_at_call 116; refine cW.mono ?_; rintro _ v ⟨rfl,bb⟩) | (go_at_call 117; refine (letter_b hl _).mono ?_; rintro _ v2 ⟨rfl,e⟩; obtain rfl:=e.symm))
     go_loop [4] (fun t=>∃ i:Nat,i≤s.size∧t=zI i∧Hid (lead goB (rest s 0)=i+lead goB (rest s i))) (fun t=>s.size - (intOf t).toNat)
     case atStart=>exact⟨0,Nat.zero_le _,rfl,by show _=_; omega⟩
     case round =>
      obtain⟨i,hi,rfl,HR⟩:=hrel
      by_cases hlt:i < s.size
      ·have hlt':(i:Int) < (s.size:Int):=by omega
       have hr:=rest_at s i hlt
       obtain⟨d,hd⟩:∃ d,s[i]=d:=⟨_,rfl⟩
       rw [hd] at hr
       cases hg:goB d
       ·have K:Hid (nameB s=false):=by
         show _=_
         rw [HK.out,HR.out,hr,lead,if_neg (by rw [hg]; decide)]
         exact decide_eq_false (by omega)
        clear hr HR HK
        go_wp2_with (go_at_call 118; refine (goes_b hg _).mono ?_; rintro _ v2 ⟨rfl,e⟩; obtain rfl:=e.symm)
        go_ret
        exact⟨retB K.out.symm,bb⟩
       ·have hs2:Hid (lead goB (rest s 0)=(i+1)+lead goB (rest s (i+1))):=by
         show _=_
         rw [HR.out,hr,lead,if_pos hg]; omega
        clear hr HR
        go_wp2_with (go_at_call 118; refine (goes_b hg _).mono ?_; rintro _ v2 ⟨rfl,e⟩; obtain rfl:=e.symm)
        exact⟨⟨i+1,by omega,by go_num,hs2⟩,by simp only [intOf]; omega⟩
      ·have hie:i=s.size:=by omega
       subst hie
       have K:Hid (nameB s=true):=by
        show _=_
        have:rest s s.size=[]:=by
         apply List.eq_nil_of_length_eq_zero
         rw [rest_len]; omega
        rw [HK.out,HR.out,this]
        exact decide_eq_true rfl
       have hlt':¬ (s.size:Int) < (s.size:Int):=by omega
       clear HR HK
       go_wp2
       go_ret
       exact⟨retB K.out.symm,bb⟩
   ·have K:Hid (nameB s=false):=by show _=_; unfold nameB; simp [h2]
    have h1':¬ (s.size:Int) < 1:=by omega
    have h2':(s.size:Int) > 16:=by omega
    go_enter Tryz.func73,Tryz.ntmps73
    go_wp2_with (first | (go_at_call 116; refine cW.mono ?_; rintro _ v ⟨rfl,bb⟩))
    go_ret
    exact⟨retB K.out.symm,bb⟩
  ·have K:Hid (nameB s=false):=by show _=_; unfold nameB; simp [h1]
   have h1':(s.size:Int) < 1:=by omega
   go_enter Tryz.func73,Tryz.ntmps73
   go_wp2_with (first | (go_at_call 116; refine cW.mono ?_; rintro _ v ⟨rfl,bb⟩))
   go_ret
   exact⟨retB K.out.symm,bb⟩
 ·rw [hW] at cW
  have K:Hid (nameB s=false):=by show _=_; unfold nameB; rw [hW]; rfl
  go_enter Tryz.func73,Tryz.ntmps73
  go_wp2_with (first | (go_at_call 116; refine cW.mono ?_; rintro _ v ⟨rfl,bb⟩))
  go_ret
  exact⟨retB K.out.symm,bb⟩
theorem empt (x:ByteArray):x.toList.isEmpty=decide (x=⟨#[]⟩):=(decide_eq_emptyBytes x).symm
def zB (o t n f:Int) (x:ByteArray):Bool:=(o == 0) && ((t == 0) && ((n == 0) && ((f == 0) && x.toList.isEmpty)))
theorem zero_any (k o t n f:Int) (x:ByteArray) (a:Option Addr) (l c:Nat) (p:Int) (w:World):Calls zG 74 #[.agg #[zU k, zU o, zU t, zI n, zU f, .string x, .slice a l c, zI p]] w fun e w' => e=.returned (.bool (zB o t n f x))∧Below w§ w w':=by
 cases h1:(o == 0) with
 | false =>
  have HE:Hid (zB o t n f x=false):=by show _=_; simp [zB, h1]
  go_enter Tryz.func74, Tryz.ntmps74
  go_wp2_with fail
  go_ret
  exact ⟨by rw [HE.out]; rfl, Bn _ _⟩
 | true =>
  cases h2:(t == 0) with
  | false =>
   have HE:Hid (zB o t n f x=false):=by show _=_; simp [zB, h1, h2]
   go_enter Tryz.func74, Tryz.ntmps74
   go_wp2_with fail
   go_ret
   exact ⟨by rw [HE.out]; rfl, Bn _ _⟩
  | true =>
   cases h3:(n == 0) with
   | false =>
    have HE:Hid (zB o t n f x=false):=by show _=_; simp [zB, h1, h2, h3]
    go_enter Tryz.func74, Tryz.ntmps74
    go_wp2_with fail
    go_ret
    exact ⟨by rw [HE.out]; rfl, Bn _ _⟩
   | true =>
    cases h4:(f == 0) with
    | false =>
     have HE:Hid (zB o t n f x=false):=by show _=_; simp [zB, h1, h2, h3, h4]
     go_enter Tryz.func74, Tryz.ntmps74
     go_wp2_with fail
     go_ret
     exact ⟨by rw [HE.out]; rfl, Bn _ _⟩
    | true =>
     cases h5:(x.toList.isEmpty) with
     | false =>
      have HE:Hid (zB o t n f x=false):=by show _=_; simp [zB, h1, h2, h3, h4, h5]
      go_enter Tryz.func74, Tryz.ntmps74
      go_wp2_with fail
      go_ret
      exact ⟨by rw [HE.out]; rfl, Bn _ _⟩
     | true =>
      have HE:Hid (zB o t n f x=true):=by show _=_; simp [zB, h1, h2, h3, h4, h5]
      go_enter Tryz.func74, Tryz.ntmps74
      go_wp2_with fail
      go_ret
      exact ⟨by rw [HE.out]; rfl, Bn _ _⟩
theorem litB_eq (t n:Int):litB t n=if t == 1 then decide (0≤n) else if t == 2 then decide (0≤n) else if t == 3 then decide (0≤n) else if t == 4 then decide (0≤n) else if t == 5 then ((n == 0) || (n == 1)) else if t == 6 then ((n == 1) || (n == 2)) else false:=by
 unfold litB numB
 by_cases h1:t=1
 ·subst h1; simp
 by_cases h2:t=2
 ·subst h2; simp
 by_cases h3:t=3
 ·subst h3; simp
 by_cases h4:t=4
 ·subst h4; simp
 by_cases h5:t=5
 ·subst h5; simp; rw [Bool.eq_iff_iff]; simp; omega
 by_cases h6:t=6
 ·subst h6; simp; rw [Bool.eq_iff_iff]; simp; omega
 simp [h1, h2, h3, h4, h5, h6]
 omega
set_option maxHeartbeats 8000000
def liR (o t n f:Int) (x:ByteArray) (l:Nat):Bool:=litB t n && (zB o 0 0 f x && ((l:Int) == 0))
theorem liR_eq (o t n f:Int) (x:ByteArray) (l:Nat):liR o t n f x l=((if t == 1 then decide (0≤n) else if t == 2 then decide (0≤n) else if t == 3 then decide (0≤n) else if t == 4 then decide (0≤n) else if t == 5 then ((n == 0) || (n == 1)) else if t == 6 then ((n == 1) || (n == 2)) else false) && (zB o 0 0 f x && ((l:Int) == 0))):=by unfold liR; rw [litB_eq]
theorem literal_any (k o t n f:Int) (x:ByteArray) (a:Option Addr) (l c:Nat) (p:Int) (w:World):Calls zG 72 #[.agg #[zU k, zU o, zU t, zI n, zU f, .string x, .slice a l c, zI p]] w fun e w' => e=.returned (.bool (liR o t n f x l))∧Below w§ w w':=by
 cases t1:(t == 1) with
 | false =>
  cases t2:(t == 2) with
  | false =>
   cases t3:(t == 3) with
   | false =>
    cases t4:(t == 4) with
    | false =>
     cases t5:(t == 5) with
     | false =>
      cases t6:(t == 6) with
      | false =>
       have HE:Hid (liR o t n f x l=false):=by show _=_; rw [liR_eq]; simp [t1, t2, t3, t4, t5, t6]
       go_enter Tryz.func72, Tryz.ntmps72
       go_wp2_with fail
       go_ret
       exact ⟨by rw [HE.out]; rfl, Bn _ _⟩
      | true =>
       cases m1:(n == 1) with
       | false =>
        cases m2:(n == 2) with
        | false =>
         have HE:Hid (liR o t n f x l=false):=by show _=_; rw [liR_eq]; simp [t1, t2, t3, t4, t5, t6, m1, m2]
         go_enter Tryz.func72, Tryz.ntmps72
         go_wp2_with fail
         go_ret
         exact ⟨by rw [HE.out]; rfl, Bn _ _⟩
        | true =>
         go_enter Tryz.func72, Tryz.ntmps72
         go_wp2_with fail
         refine (zero_any _ _ _ _ _ _ _ _ _ _ _).mono ?_
         rintro e w5 ⟨rfl, hb5⟩
         have HB5:Hid (Below w§ w w5):=below2 (Bn _ _) hb5
         have g6:w5.cell? ⟨w§, 6, none⟩=some (.slice a l c):=Co ((hb5.block _ (Array.getElem?_eq_some_iff.1 (Hn _ _)).1).trans (Hn _ _)) 6
         clear hb5
         cases hz:(zB o 0 0 f x) with
         | false =>
          have HE:Hid (liR o t n f x l=false):=by show _=_; rw [liR_eq]; simp [t1, t2, t3, t4, t5, t6, m1, m2, hz]
          go_wp2_with fail
          go_ret
          exact ⟨by rw [HE.out]; rfl, HB5.out⟩
         | true =>
          cases hl:((l:Int) == 0) with
          | false =>
           have HE:Hid (liR o t n f x l=false):=by show _=_; rw [liR_eq]; simp [t1, t2, t3, t4, t5, t6, m1, m2, hz, hl]
           go_wp2_with fail
           go_ret
           exact ⟨by rw [HE.out]; rfl, HB5.out⟩
          | true =>
           have HE:Hid (liR o t n f x l=true):=by show _=_; rw [liR_eq]; simp [t1, t2, t3, t4, t5, t6, m1, m2, hz, hl]
           go_wp2_with fail
           go_ret
           exact ⟨by rw [HE.out]; rfl, HB5.out⟩
       | true =>
        go_enter Tryz.func72, Tryz.ntmps72
        go_wp2_with fail
        refine (zero_any _ _ _ _ _ _ _ _ _ _ _).mono ?_
        rintro e w5 ⟨rfl, hb5⟩
        have HB5:Hid (Below w§ w w5):=below2 (Bn _ _) hb5
        have g6:w5.cell? ⟨w§, 6, none⟩=some (.slice a l c):=Co ((hb5.block _ (Array.getElem?_eq_some_iff.1 (Hn _ _)).1).trans (Hn _ _)) 6
        clear hb5
        cases hz:(zB o 0 0 f x) with
        | false =>
         have HE:Hid (liR o t n f x l=false):=by show _=_; rw [liR_eq]; simp [t1, t2, t3, t4, t5, t6, m1, hz]
         go_wp2_with fail
         go_ret
         exact ⟨by rw [HE.out]; rfl, HB5.out⟩
        | true =>
         cases hl:((l:Int) == 0) with
         | false =>
          have HE:Hid (liR o t n f x l=false):=by show _=_; rw [liR_eq]; simp [t1, t2, t3, t4, t5, t6, m1, hz, hl]
          go_wp2_with fail
          go_ret
          exact ⟨by rw [HE.out]; rfl, HB5.out⟩
         | true =>
          have HE:Hid (liR o t n f x l=true):=by show _=_; rw [liR_eq]; simp [t1, t2, t3, t4, t5, t6, m1, hz, hl]
          go_wp2_with fail
          go_ret
          exact ⟨by rw [HE.out]; rfl, HB5.out⟩
     | true =>
      cases m0:(n == 0) with
      | false =>
       cases m1:(n == 1) with
       | false =>
        have HE:Hid (liR o t n f x l=false):=by show _=_; rw [liR_eq]; simp [t1, t2, t3, t4, t5, m0, m1]
        go_enter Tryz.func72, Tryz.ntmps72
        go_wp2_with fail
        go_ret
        exact ⟨by rw [HE.out]; rfl, Bn _ _⟩
       | true =>
        go_enter Tryz.func72, Tryz.ntmps72
        go_wp2_with fail
        refine (zero_any _ _ _ _ _ _ _ _ _ _ _).mono ?_
        rintro e w5 ⟨rfl, hb5⟩
        have HB5:Hid (Below w§ w w5):=below2 (Bn _ _) hb5
        have g6:w5.cell? ⟨w§, 6, none⟩=some (.slice a l c):=Co ((hb5.block _ (Array.getElem?_eq_some_iff.1 (Hn _ _)).1).trans (Hn _ _)) 6
        clear hb5
        cases hz:(zB o 0 0 f x) with
        | false =>
         have HE:Hid (liR o t n f x l=false):=by show _=_; rw [liR_eq]; simp [t1, t2, t3, t4, t5, m0, m1, hz]
         go_wp2_with fail
         go_ret
         exact ⟨by rw [HE.out]; rfl, HB5.out⟩
        | true =>
         cases hl:((l:Int) == 0) with
         | false =>
          have HE:Hid (liR o t n f x l=false):=by show _=_; rw [liR_eq]; simp [t1, t2, t3, t4, t5, m0, m1, hz, hl]
          go_wp2_with fail
          go_ret
          exact ⟨by rw [HE.out]; rfl, HB5.out⟩
         | true =>
          have HE:Hid (liR o t n f x l=true):=by show _=_; rw [liR_eq]; simp [t1, t2, t3, t4, t5, m0, m1, hz, hl]
          go_wp2_with fail
          go_ret
          exact ⟨by rw [HE.out]; rfl, HB5.out⟩
      | true =>
       go_enter Tryz.func72, Tryz.ntmps72
       go_wp2_with fail
       refine (zero_any _ _ _ _ _ _ _ _ _ _ _).mono ?_
       rintro e w5 ⟨rfl, hb5⟩
       have HB5:Hid (Below w§ w w5):=below2 (Bn _ _) hb5
       have g6:w5.cell? ⟨w§, 6, none⟩=some (.slice a l c):=Co ((hb5.block _ (Array.getElem?_eq_some_iff.1 (Hn _ _)).1).trans (Hn _ _)) 6
       clear hb5
       cases hz:(zB o 0 0 f x) with
       | false =>
        have HE:Hid (liR o t n f x l=false):=by show _=_; rw [liR_eq]; simp [t1, t2, t3, t4, t5, m0, hz]
        go_wp2_with fail
        go_ret
        exact ⟨by rw [HE.out]; rfl, HB5.out⟩
       | true =>
        cases hl:((l:Int) == 0) with
        | false =>
         have HE:Hid (liR o t n f x l=false):=by show _=_; rw [liR_eq]; simp [t1, t2, t3, t4, t5, m0, hz, hl]
         go_wp2_with fail
         go_ret
         exact ⟨by rw [HE.out]; rfl, HB5.out⟩
        | true =>
         have HE:Hid (liR o t n f x l=true):=by show _=_; rw [liR_eq]; simp [t1, t2, t3, t4, t5, m0, hz, hl]
         go_wp2_with fail
         go_ret
         exact ⟨by rw [HE.out]; rfl, HB5.out⟩
    | true =>
     cases n4:(decide (0≤n)) with
     | false =>
      have HE:Hid (liR o t n f x l=false):=by show _=_; rw [liR_eq]; simp [t1, t2, t3, t4, n4]
      go_enter Tryz.func72, Tryz.ntmps72
      go_wp2_with fail
      go_ret
      exact ⟨by rw [HE.out]; rfl, Bn _ _⟩
     | true =>
      go_enter Tryz.func72, Tryz.ntmps72
      go_wp2_with fail
      refine (zero_any _ _ _ _ _ _ _ _ _ _ _).mono ?_
      rintro e w5 ⟨rfl, hb5⟩
      have HB5:Hid (Below w§ w w5):=below2 (Bn _ _) hb5
      have g6:w5.cell? ⟨w§, 6, none⟩=some (.slice a l c):=Co ((hb5.block _ (Array.getElem?_eq_some_iff.1 (Hn _ _)).1).trans (Hn _ _)) 6
      clear hb5
      cases hz:(zB o 0 0 f x) with
      | false =>
       have HE:Hid (liR o t n f x l=false):=by show _=_; rw [liR_eq]; simp [t1, t2, t3, t4, n4, hz]
       go_wp2_with fail
       go_ret
       exact ⟨by rw [HE.out]; rfl, HB5.out⟩
      | true =>
       cases hl:((l:Int) == 0) with
       | false =>
        have HE:Hid (liR o t n f x l=false):=by show _=_; rw [liR_eq]; simp [t1, t2, t3, t4, n4, hz, hl]
        go_wp2_with fail
        go_ret
        exact ⟨by rw [HE.out]; rfl, HB5.out⟩
       | true =>
        have HE:Hid (liR o t n f x l=true):=by show _=_; rw [liR_eq]; simp [t1, t2, t3, t4, n4, hz, hl]
        go_wp2_with fail
        go_ret
        exact ⟨by rw [HE.out]; rfl, HB5.out⟩
   | true =>
    cases n3:(decide (0≤n)) with
    | false =>
     have HE:Hid (liR o t n f x l=false):=by show _=_; rw [liR_eq]; simp [t1, t2, t3, n3]
     go_enter Tryz.func72, Tryz.ntmps72
     go_wp2_with fail
     go_ret
     exact ⟨by rw [HE.out]; rfl, Bn _ _⟩
    | true =>
     go_enter Tryz.func72, Tryz.ntmps72
     go_wp2_with fail
     refine (zero_any _ _ _ _ _ _ _ _ _ _ _).mono ?_
     rintro e w5 ⟨rfl, hb5⟩
     have HB5:Hid (Below w§ w w5):=below2 (Bn _ _) hb5
     have g6:w5.cell? ⟨w§, 6, none⟩=some (.slice a l c):=Co ((hb5.block _ (Array.getElem?_eq_some_iff.1 (Hn _ _)).1).trans (Hn _ _)) 6
     clear hb5
     cases hz:(zB o 0 0 f x) with
     | false =>
      have HE:Hid (liR o t n f x l=false):=by show _=_; rw [liR_eq]; simp [t1, t2, t3, n3, hz]
      go_wp2_with fail
      go_ret
      exact ⟨by rw [HE.out]; rfl, HB5.out⟩
     | true =>
      cases hl:((l:Int) == 0) with
      | false =>
       have HE:Hid (liR o t n f x l=false):=by show _=_; rw [liR_eq]; simp [t1, t2, t3, n3, hz, hl]
       go_wp2_with fail
       go_ret
       exact ⟨by rw [HE.out]; rfl, HB5.out⟩
      | true =>
       have HE:Hid (liR o t n f x l=true):=by show _=_; rw [liR_eq]; simp [t1, t2, t3, n3, hz, hl]
       go_wp2_with fail
       go_ret
       exact ⟨by rw [HE.out]; rfl, HB5.out⟩
  | true =>
   cases n2:(decide (0≤n)) with
   | false =>
    have HE:Hid (liR o t n f x l=false):=by show _=_; rw [liR_eq]; simp [t1, t2, n2]
    go_enter Tryz.func72, Tryz.ntmps72
    go_wp2_with fail
    go_ret
    exact ⟨by rw [HE.out]; rfl, Bn _ _⟩
   | true =>
    go_enter Tryz.func72, Tryz.ntmps72
    go_wp2_with fail
    refine (zero_any _ _ _ _ _ _ _ _ _ _ _).mono ?_
    rintro e w5 ⟨rfl, hb5⟩
    have HB5:Hid (Below w§ w w5):=below2 (Bn _ _) hb5
    have g6:w5.cell? ⟨w§, 6, none⟩=some (.slice a l c):=Co ((hb5.block _ (Array.getElem?_eq_some_iff.1 (Hn _ _)).1).trans (Hn _ _)) 6
    clear hb5
    cases hz:(zB o 0 0 f x) with
    | false =>
     have HE:Hid (liR o t n f x l=false):=by show _=_; rw [liR_eq]; simp [t1, t2, n2, hz]
     go_wp2_with fail
     go_ret
     exact ⟨by rw [HE.out]; rfl, HB5.out⟩
    | true =>
     cases hl:((l:Int) == 0) with
     | false =>
      have HE:Hid (liR o t n f x l=false):=by show _=_; rw [liR_eq]; simp [t1, t2, n2, hz, hl]
      go_wp2_with fail
      go_ret
      exact ⟨by rw [HE.out]; rfl, HB5.out⟩
     | true =>
      have HE:Hid (liR o t n f x l=true):=by show _=_; rw [liR_eq]; simp [t1, t2, n2, hz, hl]
      go_wp2_with fail
      go_ret
      exact ⟨by rw [HE.out]; rfl, HB5.out⟩
 | true =>
  cases n1:(decide (0≤n)) with
  | false =>
   have HE:Hid (liR o t n f x l=false):=by show _=_; rw [liR_eq]; simp [t1, n1]
   go_enter Tryz.func72, Tryz.ntmps72
   go_wp2_with fail
   go_ret
   exact ⟨by rw [HE.out]; rfl, Bn _ _⟩
  | true =>
   go_enter Tryz.func72, Tryz.ntmps72
   go_wp2_with fail
   refine (zero_any _ _ _ _ _ _ _ _ _ _ _).mono ?_
   rintro e w5 ⟨rfl, hb5⟩
   have HB5:Hid (Below w§ w w5):=below2 (Bn _ _) hb5
   have g6:w5.cell? ⟨w§, 6, none⟩=some (.slice a l c):=Co ((hb5.block _ (Array.getElem?_eq_some_iff.1 (Hn _ _)).1).trans (Hn _ _)) 6
   clear hb5
   cases hz:(zB o 0 0 f x) with
   | false =>
    have HE:Hid (liR o t n f x l=false):=by show _=_; rw [liR_eq]; simp [t1, n1, hz]
    go_wp2_with fail
    go_ret
    exact ⟨by rw [HE.out]; rfl, HB5.out⟩
   | true =>
    cases hl:((l:Int) == 0) with
    | false =>
     have HE:Hid (liR o t n f x l=false):=by show _=_; rw [liR_eq]; simp [t1, n1, hz, hl]
     go_wp2_with fail
     go_ret
     exact ⟨by rw [HE.out]; rfl, HB5.out⟩
    | true =>
     have HE:Hid (liR o t n f x l=true):=by show _=_; rw [liR_eq]; simp [t1, n1, hz, hl]
     go_wp2_with fail
     go_ret
     exact ⟨by rw [HE.out]; rfl, HB5.out⟩
end Go.Proofs.YtjimaceccllnlaaGreatDoor
