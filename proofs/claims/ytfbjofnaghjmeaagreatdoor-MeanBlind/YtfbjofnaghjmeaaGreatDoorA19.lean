import Derived.Test.YtfbjofnaghjmeaaGreatDoorA0
import Derived.Test.YtfbjofnaghjmeaaGreatDoorA18
namespace Go.Proofs.YtfbjofnaghjmeaaGreatDoor
set_option maxHeartbeats 8000000
set_option maxRecDepth 100000
open Go.RowKit
set_option linter.unusedVariables false
set_option linter.unusedSimpArgs false
def ndO (d:DoM):Bool:=decide (d.k=1)
def ndN (d:DoM):Bool:=if d.k=1 then !d.x.toList.isEmpty else decide (2≤d.k∧d.k≤5)
def ndS (d:DoM):Bool:=decide (d.k=1)
def ndQ (d:DoM):Bool:=decide (d.k=1∨d.k=2)
def ndP (d:DoM):Bool:=if d.k=1 then d.o != 2 else decide (d.k=2)
def ndV (d:DoM):Bool:=decide (d.k=4)
theorem nb_any (d:DoM) (w:yW):Calls zG 233 #[.agg d.vals] w fun e w'=>e=.returned (.agg #[.bool (ndO d),.bool (ndN d),.bool (ndS d),.bool (ndQ d),.bool (ndP d),.bool (ndV d)])∧yD w w':=by
 by_cases h1:d.k=1
 ·have:=nb_sub d w _ _ h1 rfl rfl
  simp only [ndO,ndN,ndS,ndQ,ndP,ndV,h1,if_true,decide_true,true_or,show ¬ (1:Int)=4 by decide,decide_false]
  exact this
 by_cases h2:d.k=2
 ·have:=nb_amd d w h2
  simp [ndO,ndN,ndS,ndQ,ndP,ndV,h2]
  exact this
 by_cases h3:d.k=3
 ·have:=nb_can d w h3
  simp [ndO,ndN,ndS,ndQ,ndP,ndV,h3]
  exact this
 by_cases h4:d.k=4
 ·have:=nb_set d w h4
  simp [ndO,ndN,ndS,ndQ,ndP,ndV,h4]
  exact this
 by_cases h5:d.k=5
 ·have:=nb_got d w h5
  simp [ndO,ndN,ndS,ndQ,ndP,ndV,h5]
  exact this
 ·have:=nb_not d w h1 h2 h3 h4 h5
  have hn:¬ (2≤d.k∧d.k≤5):=by omega
  simp only [ndO,ndN,ndS,ndQ,ndP,ndV,h1,h2,h4,hn,if_false,decide_false,or_self]
  exact this
def doE (d:DoM):Int:=fs (okE (decide (1≤d.k∧d.k≤6))) (fs (if ndO d=true then okE (decide (1≤d.o∧d.o≤5)) else okE (decide (d.o=0))) (fs (if ndN d=true then namE d.x else okE (d.x.toList.isEmpty)) (fs (partE d.sd (ndS d)) (fs (partE d.qt (ndQ d)) (fs (partE d.pr (ndP d)) (partE d.vl (ndV d)))))))
def DoZ (d:DoM):Prop:=size d.sd≤1000000000000∧size d.qt≤1000000000000∧size d.pr≤1000000000000∧size d.vl≤1000000000000
theorem do_sd (d:DoM):∀ j,j < 8→d.vals[3+j]? = d.sd.vals.toList[j]?:=fun j hj=>by
 match j,hj with
 | 0,_=>rfl
 | 1,_=>rfl
 | 2,_=>rfl
 | 3,_=>rfl
 | 4,_=>rfl
 | 5,_=>rfl
 | 6,_=>rfl
 | 7,_=>rfl
theorem do_qt (d:DoM):∀ j,j < 8→d.vals[11+j]? = d.qt.vals.toList[j]?:=fun j hj=>by
 match j,hj with
 | 0,_=>rfl
 | 1,_=>rfl
 | 2,_=>rfl
 | 3,_=>rfl
 | 4,_=>rfl
 | 5,_=>rfl
 | 6,_=>rfl
 | 7,_=>rfl
theorem do_pr (d:DoM):∀ j,j < 8→d.vals[19+j]? = d.pr.vals.toList[j]?:=fun j hj=>by
 match j,hj with
 | 0,_=>rfl
 | 1,_=>rfl
 | 2,_=>rfl
 | 3,_=>rfl
 | 4,_=>rfl
 | 5,_=>rfl
 | 6,_=>rfl
 | 7,_=>rfl
theorem do_vl (d:DoM):∀ j,j < 8→d.vals[27+j]? = d.vl.vals.toList[j]?:=fun j hj=>by
 match j,hj with
 | 0,_=>rfl
 | 1,_=>rfl
 | 2,_=>rfl
 | 3,_=>rfl
 | 4,_=>rfl
 | 5,_=>rfl
 | 6,_=>rfl
 | 7,_=>rfl
theorem do_tt (d:DoM) (w:yW) (hl:DoL w d) (hz:DoZ d) (ht:Tab w) (hO:ndO d=true) (hN:ndN d=true):Gives 222 #[.agg d.vals] w (doE d):=by
 have hb0:=below_new w (.cells d.vals 121)
 have hn0:=heap_new w (.cells d.vals 121)
 have HH:Hid (DoL w d∧Tab w∧DoZ d):=⟨hl,ht,hz⟩
 have HN0:Hid ((w.alloc (.cells d.vals 121)).heap[w§]? = (zC d.vals 121)):=hn0
 have HB0:Hid (yD w (w.alloc (.cells d.vals 121))):=hb0
 have q0:(w.alloc (.cells d.vals 121)).cell? w§¢0=some (zU d.k):=cell_of hn0 0
 have c0:=wU_any 232 d.k 1 6 (w.alloc (.cells d.vals 121)) (by simp)
 have cn:=fun v=>nb_any d v
 obtain⟨E,eE⟩:∃ E,doE d=E:=⟨_,rfl⟩
 have HE:Hid (doE d=E):=eE
 rw [eE]
 unfold doE at HE
 rw [hO,hN] at HE
 rw [hO,hN] at cn
 obtain⟨B1,eB1⟩:∃ B,decide (1≤d.k∧d.k≤6)=B:=⟨_,rfl⟩
 rw [eB1] at c0 HE
 rw [if_pos rfl] at HE
 obtain⟨B2,eB2⟩:∃ B,decide (1≤d.o∧d.o≤5)=B:=⟨_,rfl⟩
 rw [eB2] at HE
 have cO:=fun v=>wU_any 234 d.o 1 5 v (by simp)
 simp only [eB2] at cO
 rw [if_pos rfl] at HE
 obtain⟨bs,ebs⟩:∃ q,ndS d=q:=⟨_,rfl⟩
 obtain⟨bq,ebq⟩:∃ q,ndQ d=q:=⟨_,rfl⟩
 obtain⟨bp,ebp⟩:∃ q,ndP d=q:=⟨_,rfl⟩
 obtain⟨bv,ebv⟩:∃ q,ndV d=q:=⟨_,rfl⟩
 rw [ebs,ebq,ebp,ebv] at HE
 simp only [ebs,ebq,ebp,ebv] at cn
 clear hl ht hz eE hb0 hn0 hO hN eB1 ebs ebq ebp ebv
 clear eB2
 unfold Gives
 go_enter Tryz.func222,Tryz.ntmps222
 go_wp2_with fail
 refine c0.mono ?_
 rintro e w0 ⟨rfl,e0⟩
 obtain rfl:=e0.symm
 have c1:=(need_gives B1 (w.alloc (.cells d.vals 121))).two
 clear c0 e0
 rcases c1 with ⟨h1,c1⟩ | ⟨h1,c1⟩
 ·go_wp2_with fail
  refine c1.mono ?_
  rintro e w1 ⟨rfl,hb⟩
  have HB1:Hid (yD w w1):=below2 HB0.out hb
  have hd1:=(hb.block _ (zJ HN0.out).1).trans HN0.out
  have HD1:Hid (w1.heap[w§]? = (zC d.vals 121)):=hd1
  have cn1:=cn w1
  clear c1 hb hd1 q0 HN0 HB0
  go_wp2_with (refine wpList_load_row rfl 121 (.tmp 1) rfl w§ rfl 121 d.vals (0,0) _ HD1.out Tryz.underlying121 rfl size110' ?_)
  refine cn1.mono ?_
  rintro e wm ⟨rfl,hb⟩
  have hdm:=(hb.block _ (zJ HD1.out).1).trans HD1.out
  have hbn:=below_new wm (.cells #[.bool true,.bool true,.bool bs,.bool bq,.bool bp,.bool bv] 301)
  have HDM:Hid ((wm.alloc (.cells #[.bool true,.bool true,.bool bs,.bool bq,.bool bp,.bool bv] 301)).heap[w§]? = (zC d.vals 121)):=(hbn.block _ (zJ hdm).1).trans hdm
  have HNM:Hid ((wm.alloc (.cells #[.bool true,.bool true,.bool bs,.bool bq,.bool bp,.bool bv] 301)).heap[wm§]? = (zC #[.bool true,.bool true,.bool bs,.bool bq,.bool bp,.bool bv] 301)):=heap_new _ _
  have HBM:Hid (yD w (wm.alloc (.cells #[.bool true,.bool true,.bool bs,.bool bq,.bool bp,.bool bv] 301))):=below2 (below2 HB1.out hb) hbn
  clear cn1 cn hb hdm hbn HD1 HB1
  go_upto_region 3 with fail
  obtain⟨NM,eNM⟩:∃ q,wm§=q:=⟨_,rfl⟩
  obtain⟨WM,eWM⟩:∃ W,wm.alloc (.cells #[.bool true,.bool true,.bool bs,.bool bq,.bool bp,.bool bv] 301)=W:=⟨_,rfl⟩
  rw [eWM,eNM] at HNM
  rw [eWM] at HDM HBM
  rw [eWM,eNM]
  clear eWM eNM
  have m0:WM.cell? NM¢0=some (.bool true):=cell_of HNM.out 0
  have p1:WM.cell? w§¢1=some (zU d.o):=cell_of HDM.out 1
  have cO1:=cO WM
  go_wp2_with fail
  refine cO1.mono ?_
  rintro e w0' ⟨rfl,e0⟩
  obtain rfl:=e0.symm
  clear cO1 e0 cO
  have c2:=(need_gives B2 WM).two
  rcases c2 with ⟨h2,c2⟩ | ⟨h2,c2⟩
  ·go_wp2_with fail
   refine c2.mono ?_
   rintro e w2 ⟨rfl,hb⟩
   have HB2:Hid (yD w w2):=below2 HBM.out hb
   have hdm:=(hb.block _ (zJ HDM.out).1).trans HDM.out
   have hnm:=(hb.block _ (zJ HNM.out).1).trans HNM.out
   have HD2:Hid (w2.heap[w§]? = (zC d.vals 121)):=hdm
   have HN2:Hid (w2.heap[NM]? = (zC #[.bool true,.bool true,.bool bs,.bool bq,.bool bp,.bool bv] 301)):=hnm
   have m1:w2.cell? NM¢1=some (.bool true):=cell_of hnm 1
   have p2:w2.cell? w§¢2=some (.string d.x):=cell_of hdm 2
   clear c2 hb hdm hnm m0 p1 HDM HNM HBM
   have c3:=(nm_gives (x:=d.x) HH.out.1.2.2.2.2.2.2.2 (HH.out.2.1.on HB2.out)).two
   rcases c3 with ⟨h3,c3⟩ | ⟨h3,c3⟩
   ·go_wp2_with fail
    refine c3.mono ?_
    rintro e w3 ⟨rfl,hb⟩
    have HB3:Hid (yD w w3):=below2 HB2.out hb
    have hdm:=(hb.block _ (zJ HD2.out).1).trans HD2.out
    have hnm:=(hb.block _ (zJ HN2.out).1).trans HN2.out
    have HD3:Hid (w3.heap[w§]? = (zC d.vals 121)):=hdm
    have HN3:Hid (w3.heap[NM]? = (zC #[.bool true,.bool true,.bool bs,.bool bq,.bool bp,.bool bv] 301)):=hnm
    have m2:w3.cell? NM¢2=some (.bool bs):=cell_of hnm 2
    clear c3 hb hdm hnm m1 p2 HD2 HN2
    have c4:=(part_gives d.sd bs w3 (HH.out.1.1.on HB3.out) HH.out.2.2.1 (HH.out.2.1.on HB3.out)).two
    rcases c4 with ⟨h4,c4⟩ | ⟨h4,c4⟩
    ·go_wp2_with (refine wpList_load_mid rfl 38 (.tmp 28) rfl w§ 3 rfl d.sd.vals.toList _ (nd_rng HD3.out 3 d.sd (do_sd d)) Tryz.underlying38 rfl (size38 d.sd) ?_; rw [toArr])
     refine c4.mono ?_
     rintro e w4 ⟨rfl,hb⟩
     have HB4:Hid (yD w w4):=below2 HB3.out hb
     have hdm:=(hb.block _ (zJ HD3.out).1).trans HD3.out
     have hnm:=(hb.block _ (zJ HN3.out).1).trans HN3.out
     have HD4:Hid (w4.heap[w§]? = (zC d.vals 121)):=hdm
     have HN4:Hid (w4.heap[NM]? = (zC #[.bool true,.bool true,.bool bs,.bool bq,.bool bp,.bool bv] 301)):=hnm
     have m3:w4.cell? NM¢3=some (.bool bq):=cell_of hnm 3
     clear c4 hb hdm hnm m2 HD3 HN3
     have c5:=(part_gives d.qt bq w4 (HH.out.1.2.1.on HB4.out) HH.out.2.2.2.1 (HH.out.2.1.on HB4.out)).two
     rcases c5 with ⟨h5,c5⟩ | ⟨h5,c5⟩
     ·go_wp2_with (refine wpList_load_mid rfl 38 (.tmp 33) rfl w§ 11 rfl d.qt.vals.toList _ (nd_rng HD4.out 11 d.qt (do_qt d)) Tryz.underlying38 rfl (size38 d.qt) ?_; rw [toArr])
      refine c5.mono ?_
      rintro e w5 ⟨rfl,hb⟩
      have HB5:Hid (yD w w5):=below2 HB4.out hb
      have hdm:=(hb.block _ (zJ HD4.out).1).trans HD4.out
      have hnm:=(hb.block _ (zJ HN4.out).1).trans HN4.out
      have HD5:Hid (w5.heap[w§]? = (zC d.vals 121)):=hdm
      have HN5:Hid (w5.heap[NM]? = (zC #[.bool true,.bool true,.bool bs,.bool bq,.bool bp,.bool bv] 301)):=hnm
      have m4:w5.cell? NM¢4=some (.bool bp):=cell_of hnm 4
      clear c5 hb hdm hnm m3 HD4 HN4
      have c6:=(part_gives d.pr bp w5 (HH.out.1.2.2.1.on HB5.out) HH.out.2.2.2.2.1 (HH.out.2.1.on HB5.out)).two
      rcases c6 with ⟨h6,c6⟩ | ⟨h6,c6⟩
      ·go_wp2_with (refine wpList_load_mid rfl 38 (.tmp 38) rfl w§ 19 rfl d.pr.vals.toList _ (nd_rng HD5.out 19 d.pr (do_pr d)) Tryz.underlying38 rfl (size38 d.pr) ?_; rw [toArr])
       refine c6.mono ?_
       rintro e w6 ⟨rfl,hb⟩
       have HB6:Hid (yD w w6):=below2 HB5.out hb
       have hdm:=(hb.block _ (zJ HD5.out).1).trans HD5.out
       have hnm:=(hb.block _ (zJ HN5.out).1).trans HN5.out
       have HD6:Hid (w6.heap[w§]? = (zC d.vals 121)):=hdm
       have HN6:Hid (w6.heap[NM]? = (zC #[.bool true,.bool true,.bool bs,.bool bq,.bool bp,.bool bv] 301)):=hnm
       have m5:w6.cell? NM¢5=some (.bool bv):=cell_of hnm 5
       clear c6 hb hdm hnm m4 HD5 HN5
       have c7:=(part_gives d.vl bv w6 (HH.out.1.2.2.2.1.on HB6.out) HH.out.2.2.2.2.2 (HH.out.2.1.on HB6.out)).two
       rcases c7 with ⟨h7,c7⟩ | ⟨h7,c7⟩
       ·go_wp2_with (refine wpList_load_mid rfl 38 (.tmp 43) rfl w§ 27 rfl d.vl.vals.toList _ (nd_rng HD6.out 27 d.vl (do_vl d)) Tryz.underlying38 rfl (size38 d.vl) ?_; rw [toArr])
        refine c7.mono ?_
        rintro e w7 ⟨rfl,hb⟩
        have HB7:Hid (yD w w7):=below2 HB6.out hb
        clear c7 hb
        go_wp2_with fail
        go_end0
        exact⟨.inl ⟨by rw [← HE.out,fs_z h1,fs_z h2,fs_z h3,fs_z h4,fs_z h5,fs_z h6]; exact h7,rfl⟩,HB7.out⟩
       ·go_wp2_with (refine wpList_load_mid rfl 38 (.tmp 43) rfl w§ 27 rfl d.vl.vals.toList _ (nd_rng HD6.out 27 d.vl (do_vl d)) Tryz.underlying38 rfl (size38 d.vl) ?_; rw [toArr])
        refine c7.mono ?_
        rintro e wf ⟨rfl,hb⟩
        have hE:E=partE d.vl bv:=by rw [← HE.out,fs_z h1,fs_z h2,fs_z h3,fs_z h4,fs_z h5,fs_z h6]
        exact⟨rfl,.inr ⟨by rw [hE]; exact h7,by rw [hE]⟩,below2 HB6.out hb⟩
      ·go_wp2_with (refine wpList_load_mid rfl 38 (.tmp 38) rfl w§ 19 rfl d.pr.vals.toList _ (nd_rng HD5.out 19 d.pr (do_pr d)) Tryz.underlying38 rfl (size38 d.pr) ?_; rw [toArr])
       refine c6.mono ?_
       rintro e wf ⟨rfl,hb⟩
       have hE:E=partE d.pr bp:=by rw [← HE.out,fs_z h1,fs_z h2,fs_z h3,fs_z h4,fs_z h5,fs_n h6]
       exact⟨rfl,.inr ⟨by rw [hE]; exact h6,by rw [hE]⟩,below2 HB5.out hb⟩
     ·go_wp2_with (refine wpList_load_mid rfl 38 (.tmp 33) rfl w§ 11 rfl d.qt.vals.toList _ (nd_rng HD4.out 11 d.qt (do_qt d)) Tryz.underlying38 rfl (size38 d.qt) ?_; rw [toArr])
      refine c5.mono ?_
      rintro e wf ⟨rfl,hb⟩
      have hE:E=partE d.qt bq:=by rw [← HE.out,fs_z h1,fs_z h2,fs_z h3,fs_z h4,fs_n h5]
      exact⟨rfl,.inr ⟨by rw [hE]; exact h5,by rw [hE]⟩,below2 HB4.out hb⟩
    ·go_wp2_with (refine wpList_load_mid rfl 38 (.tmp 28) rfl w§ 3 rfl d.sd.vals.toList _ (nd_rng HD3.out 3 d.sd (do_sd d)) Tryz.underlying38 rfl (size38 d.sd) ?_; rw [toArr])
     refine c4.mono ?_
     rintro e wf ⟨rfl,hb⟩
     have hE:E=partE d.sd bs:=by rw [← HE.out,fs_z h1,fs_z h2,fs_z h3,fs_n h4]
     exact⟨rfl,.inr ⟨by rw [hE]; exact h4,by rw [hE]⟩,below2 HB3.out hb⟩
   ·go_wp2_with fail
    refine c3.mono ?_
    rintro e wf ⟨rfl,hb⟩
    have hE:E=(namE d.x):=by rw [← HE.out,fs_z h1,fs_z h2,fs_n h3]
    exact⟨rfl,.inr ⟨by rw [hE]; exact h3,by rw [hE]⟩,below2 HB2.out hb⟩
  ·go_wp2_with fail
   refine c2.mono ?_
   rintro e wf ⟨rfl,hb⟩
   have hE:E=okE B2:=by rw [← HE.out,fs_z h1,fs_n h2]
   exact⟨rfl,.inr ⟨by rw [hE]; exact h2,by rw [hE]⟩,below2 HBM.out hb⟩
 ·go_wp2_with fail
  refine c1.mono ?_
  rintro e wf ⟨rfl,hb⟩
  have hE:E=okE B1:=by rw [← HE.out,fs_n h1]
  exact⟨rfl,.inr ⟨by rw [hE]; exact h1,by rw [hE]⟩,below2 HB0.out hb⟩
theorem do_tf (d:DoM) (w:yW) (hl:DoL w d) (hz:DoZ d) (ht:Tab w) (hO:ndO d=true) (hN:ndN d=false):Gives 222 #[.agg d.vals] w (doE d):=by
 have hb0:=below_new w (.cells d.vals 121)
 have hn0:=heap_new w (.cells d.vals 121)
 have HH:Hid (DoL w d∧Tab w∧DoZ d):=⟨hl,ht,hz⟩
 have HN0:Hid ((w.alloc (.cells d.vals 121)).heap[w§]? = (zC d.vals 121)):=hn0
 have HB0:Hid (yD w (w.alloc (.cells d.vals 121))):=hb0
 have q0:(w.alloc (.cells d.vals 121)).cell? w§¢0=some (zU d.k):=cell_of hn0 0
 have c0:=wU_any 232 d.k 1 6 (w.alloc (.cells d.vals 121)) (by simp)
 have cn:=fun v=>nb_any d v
 obtain⟨E,eE⟩:∃ E,doE d=E:=⟨_,rfl⟩
 have HE:Hid (doE d=E):=eE
 rw [eE]
 unfold doE at HE
 rw [hO,hN] at HE
 rw [hO,hN] at cn
 obtain⟨B1,eB1⟩:∃ B,decide (1≤d.k∧d.k≤6)=B:=⟨_,rfl⟩
 rw [eB1] at c0 HE
 rw [if_pos rfl] at HE
 obtain⟨B2,eB2⟩:∃ B,decide (1≤d.o∧d.o≤5)=B:=⟨_,rfl⟩
 rw [eB2] at HE
 have cO:=fun v=>wU_any 234 d.o 1 5 v (by simp)
 simp only [eB2] at cO
 rw [if_neg (by decide)] at HE
 obtain⟨B3,eB3⟩:∃ B,d.x.toList.isEmpty=B:=⟨_,rfl⟩
 rw [eB3] at HE
 obtain⟨bs,ebs⟩:∃ q,ndS d=q:=⟨_,rfl⟩
 obtain⟨bq,ebq⟩:∃ q,ndQ d=q:=⟨_,rfl⟩
 obtain⟨bp,ebp⟩:∃ q,ndP d=q:=⟨_,rfl⟩
 obtain⟨bv,ebv⟩:∃ q,ndV d=q:=⟨_,rfl⟩
 rw [ebs,ebq,ebp,ebv] at HE
 simp only [ebs,ebq,ebp,ebv] at cn
 clear hl ht hz eE hb0 hn0 hO hN eB1 ebs ebq ebp ebv
 clear eB2
 unfold Gives
 go_enter Tryz.func222,Tryz.ntmps222
 go_wp2_with fail
 refine c0.mono ?_
 rintro e w0 ⟨rfl,e0⟩
 obtain rfl:=e0.symm
 have c1:=(need_gives B1 (w.alloc (.cells d.vals 121))).two
 clear c0 e0
 rcases c1 with ⟨h1,c1⟩ | ⟨h1,c1⟩
 ·go_wp2_with fail
  refine c1.mono ?_
  rintro e w1 ⟨rfl,hb⟩
  have HB1:Hid (yD w w1):=below2 HB0.out hb
  have hd1:=(hb.block _ (zJ HN0.out).1).trans HN0.out
  have HD1:Hid (w1.heap[w§]? = (zC d.vals 121)):=hd1
  have cn1:=cn w1
  clear c1 hb hd1 q0 HN0 HB0
  go_wp2_with (refine wpList_load_row rfl 121 (.tmp 1) rfl w§ rfl 121 d.vals (0,0) _ HD1.out Tryz.underlying121 rfl size110' ?_)
  refine cn1.mono ?_
  rintro e wm ⟨rfl,hb⟩
  have hdm:=(hb.block _ (zJ HD1.out).1).trans HD1.out
  have hbn:=below_new wm (.cells #[.bool true,.bool false,.bool bs,.bool bq,.bool bp,.bool bv] 301)
  have HDM:Hid ((wm.alloc (.cells #[.bool true,.bool false,.bool bs,.bool bq,.bool bp,.bool bv] 301)).heap[w§]? = (zC d.vals 121)):=(hbn.block _ (zJ hdm).1).trans hdm
  have HNM:Hid ((wm.alloc (.cells #[.bool true,.bool false,.bool bs,.bool bq,.bool bp,.bool bv] 301)).heap[wm§]? = (zC #[.bool true,.bool false,.bool bs,.bool bq,.bool bp,.bool bv] 301)):=heap_new _ _
  have HBM:Hid (yD w (wm.alloc (.cells #[.bool true,.bool false,.bool bs,.bool bq,.bool bp,.bool bv] 301))):=below2 (below2 HB1.out hb) hbn
  clear cn1 cn hb hdm hbn HD1 HB1
  go_upto_region 3 with fail
  obtain⟨NM,eNM⟩:∃ q,wm§=q:=⟨_,rfl⟩
  obtain⟨WM,eWM⟩:∃ W,wm.alloc (.cells #[.bool true,.bool false,.bool bs,.bool bq,.bool bp,.bool bv] 301)=W:=⟨_,rfl⟩
  rw [eWM,eNM] at HNM
  rw [eWM] at HDM HBM
  rw [eWM,eNM]
  clear eWM eNM
  have m0:WM.cell? NM¢0=some (.bool true):=cell_of HNM.out 0
  have p1:WM.cell? w§¢1=some (zU d.o):=cell_of HDM.out 1
  have cO1:=cO WM
  go_wp2_with fail
  refine cO1.mono ?_
  rintro e w0' ⟨rfl,e0⟩
  obtain rfl:=e0.symm
  clear cO1 e0 cO
  have c2:=(need_gives B2 WM).two
  rcases c2 with ⟨h2,c2⟩ | ⟨h2,c2⟩
  ·go_wp2_with fail
   refine c2.mono ?_
   rintro e w2 ⟨rfl,hb⟩
   have HB2:Hid (yD w w2):=below2 HBM.out hb
   have hdm:=(hb.block _ (zJ HDM.out).1).trans HDM.out
   have hnm:=(hb.block _ (zJ HNM.out).1).trans HNM.out
   have HD2:Hid (w2.heap[w§]? = (zC d.vals 121)):=hdm
   have HN2:Hid (w2.heap[NM]? = (zC #[.bool true,.bool false,.bool bs,.bool bq,.bool bp,.bool bv] 301)):=hnm
   have m1:w2.cell? NM¢1=some (.bool false):=cell_of hnm 1
   have p2:w2.cell? w§¢2=some (.string d.x):=cell_of hdm 2
   clear c2 hb hdm hnm m0 p1 HDM HNM HBM
   have c3:=(need_gives B3 w2).two
   rcases c3 with ⟨h3,c3⟩ | ⟨h3,c3⟩
   ·go_wp2_with fail
    refine c3.mono ?_
    rintro e w3 ⟨rfl,hb⟩
    have HB3:Hid (yD w w3):=below2 HB2.out hb
    have hdm:=(hb.block _ (zJ HD2.out).1).trans HD2.out
    have hnm:=(hb.block _ (zJ HN2.out).1).trans HN2.out
    have HD3:Hid (w3.heap[w§]? = (zC d.vals 121)):=hdm
    have HN3:Hid (w3.heap[NM]? = (zC #[.bool true,.bool false,.bool bs,.bool bq,.bool bp,.bool bv] 301)):=hnm
    have m2:w3.cell? NM¢2=some (.bool bs):=cell_of hnm 2
    clear c3 hb hdm hnm m1 p2 HD2 HN2
    have c4:=(part_gives d.sd bs w3 (HH.out.1.1.on HB3.out) HH.out.2.2.1 (HH.out.2.1.on HB3.out)).two
    rcases c4 with ⟨h4,c4⟩ | ⟨h4,c4⟩
    ·go_wp2_with (refine wpList_load_mid rfl 38 (.tmp 28) rfl w§ 3 rfl d.sd.vals.toList _ (nd_rng HD3.out 3 d.sd (do_sd d)) Tryz.underlying38 rfl (size38 d.sd) ?_; rw [toArr])
     refine c4.mono ?_
     rintro e w4 ⟨rfl,hb⟩
     have HB4:Hid (yD w w4):=below2 HB3.out hb
     have hdm:=(hb.block _ (zJ HD3.out).1).trans HD3.out
     have hnm:=(hb.block _ (zJ HN3.out).1).trans HN3.out
     have HD4:Hid (w4.heap[w§]? = (zC d.vals 121)):=hdm
     have HN4:Hid (w4.heap[NM]? = (zC #[.bool true,.bool false,.bool bs,.bool bq,.bool bp,.bool bv] 301)):=hnm
     have m3:w4.cell? NM¢3=some (.bool bq):=cell_of hnm 3
     clear c4 hb hdm hnm m2 HD3 HN3
     have c5:=(part_gives d.qt bq w4 (HH.out.1.2.1.on HB4.out) HH.out.2.2.2.1 (HH.out.2.1.on HB4.out)).two
     rcases c5 with ⟨h5,c5⟩ | ⟨h5,c5⟩
     ·go_wp2_with (refine wpList_load_mid rfl 38 (.tmp 33) rfl w§ 11 rfl d.qt.vals.toList _ (nd_rng HD4.out 11 d.qt (do_qt d)) Tryz.underlying38 rfl (size38 d.qt) ?_; rw [toArr])
      refine c5.mono ?_
      rintro e w5 ⟨rfl,hb⟩
      have HB5:Hid (yD w w5):=below2 HB4.out hb
      have hdm:=(hb.block _ (zJ HD4.out).1).trans HD4.out
      have hnm:=(hb.block _ (zJ HN4.out).1).trans HN4.out
      have HD5:Hid (w5.heap[w§]? = (zC d.vals 121)):=hdm
      have HN5:Hid (w5.heap[NM]? = (zC #[.bool true,.bool false,.bool bs,.bool bq,.bool bp,.bool bv] 301)):=hnm
      have m4:w5.cell? NM¢4=some (.bool bp):=cell_of hnm 4
      clear c5 hb hdm hnm m3 HD4 HN4
      have c6:=(part_gives d.pr bp w5 (HH.out.1.2.2.1.on HB5.out) HH.out.2.2.2.2.1 (HH.out.2.1.on HB5.out)).two
      rcases c6 with ⟨h6,c6⟩ | ⟨h6,c6⟩
      ·go_wp2_with (refine wpList_load_mid rfl 38 (.tmp 38) rfl w§ 19 rfl d.pr.vals.toList _ (nd_rng HD5.out 19 d.pr (do_pr d)) Tryz.underlying38 rfl (size38 d.pr) ?_; rw [toArr])
       refine c6.mono ?_
       rintro e w6 ⟨rfl,hb⟩
       have HB6:Hid (yD w w6):=below2 HB5.out hb
       have hdm:=(hb.block _ (zJ HD5.out).1).trans HD5.out
       have hnm:=(hb.block _ (zJ HN5.out).1).trans HN5.out
       have HD6:Hid (w6.heap[w§]? = (zC d.vals 121)):=hdm
       have HN6:Hid (w6.heap[NM]? = (zC #[.bool true,.bool false,.bool bs,.bool bq,.bool bp,.bool bv] 301)):=hnm
       have m5:w6.cell? NM¢5=some (.bool bv):=cell_of hnm 5
       clear c6 hb hdm hnm m4 HD5 HN5
       have c7:=(part_gives d.vl bv w6 (HH.out.1.2.2.2.1.on HB6.out) HH.out.2.2.2.2.2 (HH.out.2.1.on HB6.out)).two
       rcases c7 with ⟨h7,c7⟩ | ⟨h7,c7⟩
       ·go_wp2_with (refine wpList_load_mid rfl 38 (.tmp 43) rfl w§ 27 rfl d.vl.vals.toList _ (nd_rng HD6.out 27 d.vl (do_vl d)) Tryz.underlying38 rfl (size38 d.vl) ?_; rw [toArr])
        refine c7.mono ?_
        rintro e w7 ⟨rfl,hb⟩
        have HB7:Hid (yD w w7):=below2 HB6.out hb
        clear c7 hb
        go_wp2_with fail
        go_end0
        exact⟨.inl ⟨by rw [← HE.out,fs_z h1,fs_z h2,fs_z h3,fs_z h4,fs_z h5,fs_z h6]; exact h7,rfl⟩,HB7.out⟩
       ·go_wp2_with (refine wpList_load_mid rfl 38 (.tmp 43) rfl w§ 27 rfl d.vl.vals.toList _ (nd_rng HD6.out 27 d.vl (do_vl d)) Tryz.underlying38 rfl (size38 d.vl) ?_; rw [toArr])
        refine c7.mono ?_
        rintro e wf ⟨rfl,hb⟩
        have hE:E=partE d.vl bv:=by rw [← HE.out,fs_z h1,fs_z h2,fs_z h3,fs_z h4,fs_z h5,fs_z h6]
        exact⟨rfl,.inr ⟨by rw [hE]; exact h7,by rw [hE]⟩,below2 HB6.out hb⟩
      ·go_wp2_with (refine wpList_load_mid rfl 38 (.tmp 38) rfl w§ 19 rfl d.pr.vals.toList _ (nd_rng HD5.out 19 d.pr (do_pr d)) Tryz.underlying38 rfl (size38 d.pr) ?_; rw [toArr])
       refine c6.mono ?_
       rintro e wf ⟨rfl,hb⟩
       have hE:E=partE d.pr bp:=by rw [← HE.out,fs_z h1,fs_z h2,fs_z h3,fs_z h4,fs_z h5,fs_n h6]
       exact⟨rfl,.inr ⟨by rw [hE]; exact h6,by rw [hE]⟩,below2 HB5.out hb⟩
     ·go_wp2_with (refine wpList_load_mid rfl 38 (.tmp 33) rfl w§ 11 rfl d.qt.vals.toList _ (nd_rng HD4.out 11 d.qt (do_qt d)) Tryz.underlying38 rfl (size38 d.qt) ?_; rw [toArr])
      refine c5.mono ?_
      rintro e wf ⟨rfl,hb⟩
      have hE:E=partE d.qt bq:=by rw [← HE.out,fs_z h1,fs_z h2,fs_z h3,fs_z h4,fs_n h5]
      exact⟨rfl,.inr ⟨by rw [hE]; exact h5,by rw [hE]⟩,below2 HB4.out hb⟩
    ·go_wp2_with (refine wpList_load_mid rfl 38 (.tmp 28) rfl w§ 3 rfl d.sd.vals.toList _ (nd_rng HD3.out 3 d.sd (do_sd d)) Tryz.underlying38 rfl (size38 d.sd) ?_; rw [toArr])
     refine c4.mono ?_
     rintro e wf ⟨rfl,hb⟩
     have hE:E=partE d.sd bs:=by rw [← HE.out,fs_z h1,fs_z h2,fs_z h3,fs_n h4]
     exact⟨rfl,.inr ⟨by rw [hE]; exact h4,by rw [hE]⟩,below2 HB3.out hb⟩
   ·go_wp2_with fail
    refine c3.mono ?_
    rintro e wf ⟨rfl,hb⟩
    have hE:E=okE B3:=by rw [← HE.out,fs_z h1,fs_z h2,fs_n h3]
    exact⟨rfl,.inr ⟨by rw [hE]; exact h3,by rw [hE]⟩,below2 HB2.out hb⟩
  ·go_wp2_with fail
   refine c2.mono ?_
   rintro e wf ⟨rfl,hb⟩
   have hE:E=okE B2:=by rw [← HE.out,fs_z h1,fs_n h2]
   exact⟨rfl,.inr ⟨by rw [hE]; exact h2,by rw [hE]⟩,below2 HBM.out hb⟩
 ·go_wp2_with fail
  refine c1.mono ?_
  rintro e wf ⟨rfl,hb⟩
  have hE:E=okE B1:=by rw [← HE.out,fs_n h1]
  exact⟨rfl,.inr ⟨by rw [hE]; exact h1,by rw [hE]⟩,below2 HB0.out hb⟩
theorem do_ft (d:DoM) (w:yW) (hl:DoL w d) (hz:DoZ d) (ht:Tab w) (hO:ndO d=false) (hN:ndN d=true):Gives 222 #[.agg d.vals] w (doE d):=by
 have hb0:=below_new w (.cells d.vals 121)
 have hn0:=heap_new w (.cells d.vals 121)
 have HH:Hid (DoL w d∧Tab w∧DoZ d):=⟨hl,ht,hz⟩
 have HN0:Hid ((w.alloc (.cells d.vals 121)).heap[w§]? = (zC d.vals 121)):=hn0
 have HB0:Hid (yD w (w.alloc (.cells d.vals 121))):=hb0
 have q0:(w.alloc (.cells d.vals 121)).cell? w§¢0=some (zU d.k):=cell_of hn0 0
 have c0:=wU_any 232 d.k 1 6 (w.alloc (.cells d.vals 121)) (by simp)
 have cn:=fun v=>nb_any d v
 obtain⟨E,eE⟩:∃ E,doE d=E:=⟨_,rfl⟩
 have HE:Hid (doE d=E):=eE
 rw [eE]
 unfold doE at HE
 rw [hO,hN] at HE
 rw [hO,hN] at cn
 obtain⟨B1,eB1⟩:∃ B,decide (1≤d.k∧d.k≤6)=B:=⟨_,rfl⟩
 rw [eB1] at c0 HE
 rw [if_neg (by decide)] at HE
 obtain⟨B2,eB2⟩:∃ B,decide (d.o=0)=B:=⟨_,rfl⟩
 have eB2':(d.o == 0)=B2:=by rw [← eB2]; rfl
 rw [eB2] at HE
 rw [if_pos rfl] at HE
 obtain⟨bs,ebs⟩:∃ q,ndS d=q:=⟨_,rfl⟩
 obtain⟨bq,ebq⟩:∃ q,ndQ d=q:=⟨_,rfl⟩
 obtain⟨bp,ebp⟩:∃ q,ndP d=q:=⟨_,rfl⟩
 obtain⟨bv,ebv⟩:∃ q,ndV d=q:=⟨_,rfl⟩
 rw [ebs,ebq,ebp,ebv] at HE
 simp only [ebs,ebq,ebp,ebv] at cn
 clear hl ht hz eE hb0 hn0 hO hN eB1 ebs ebq ebp ebv
 clear eB2
 unfold Gives
 go_enter Tryz.func222,Tryz.ntmps222
 go_wp2_with fail
 refine c0.mono ?_
 rintro e w0 ⟨rfl,e0⟩
 obtain rfl:=e0.symm
 have c1:=(need_gives B1 (w.alloc (.cells d.vals 121))).two
 clear c0 e0
 rcases c1 with ⟨h1,c1⟩ | ⟨h1,c1⟩
 ·go_wp2_with fail
  refine c1.mono ?_
  rintro e w1 ⟨rfl,hb⟩
  have HB1:Hid (yD w w1):=below2 HB0.out hb
  have hd1:=(hb.block _ (zJ HN0.out).1).trans HN0.out
  have HD1:Hid (w1.heap[w§]? = (zC d.vals 121)):=hd1
  have cn1:=cn w1
  clear c1 hb hd1 q0 HN0 HB0
  go_wp2_with (refine wpList_load_row rfl 121 (.tmp 1) rfl w§ rfl 121 d.vals (0,0) _ HD1.out Tryz.underlying121 rfl size110' ?_)
  refine cn1.mono ?_
  rintro e wm ⟨rfl,hb⟩
  have hdm:=(hb.block _ (zJ HD1.out).1).trans HD1.out
  have hbn:=below_new wm (.cells #[.bool false,.bool true,.bool bs,.bool bq,.bool bp,.bool bv] 301)
  have HDM:Hid ((wm.alloc (.cells #[.bool false,.bool true,.bool bs,.bool bq,.bool bp,.bool bv] 301)).heap[w§]? = (zC d.vals 121)):=(hbn.block _ (zJ hdm).1).trans hdm
  have HNM:Hid ((wm.alloc (.cells #[.bool false,.bool true,.bool bs,.bool bq,.bool bp,.bool bv] 301)).heap[wm§]? = (zC #[.bool false,.bool true,.bool bs,.bool bq,.bool bp,.bool bv] 301)):=heap_new _ _
  have HBM:Hid (yD w (wm.alloc (.cells #[.bool false,.bool true,.bool bs,.bool bq,.bool bp,.bool bv] 301))):=below2 (below2 HB1.out hb) hbn
  clear cn1 cn hb hdm hbn HD1 HB1
  go_upto_region 3 with fail
  obtain⟨NM,eNM⟩:∃ q,wm§=q:=⟨_,rfl⟩
  obtain⟨WM,eWM⟩:∃ W,wm.alloc (.cells #[.bool false,.bool true,.bool bs,.bool bq,.bool bp,.bool bv] 301)=W:=⟨_,rfl⟩
  rw [eWM,eNM] at HNM
  rw [eWM] at HDM HBM
  rw [eWM,eNM]
  clear eWM eNM
  have m0:WM.cell? NM¢0=some (.bool false):=cell_of HNM.out 0
  have p1:WM.cell? w§¢1=some (zU d.o):=cell_of HDM.out 1
  have c2:=(need_gives B2 WM).two
  rcases c2 with ⟨h2,c2⟩ | ⟨h2,c2⟩
  ·go_wp2_with fail
   refine c2.mono ?_
   rintro e w2 ⟨rfl,hb⟩
   have HB2:Hid (yD w w2):=below2 HBM.out hb
   have hdm:=(hb.block _ (zJ HDM.out).1).trans HDM.out
   have hnm:=(hb.block _ (zJ HNM.out).1).trans HNM.out
   have HD2:Hid (w2.heap[w§]? = (zC d.vals 121)):=hdm
   have HN2:Hid (w2.heap[NM]? = (zC #[.bool false,.bool true,.bool bs,.bool bq,.bool bp,.bool bv] 301)):=hnm
   have m1:w2.cell? NM¢1=some (.bool true):=cell_of hnm 1
   have p2:w2.cell? w§¢2=some (.string d.x):=cell_of hdm 2
   clear c2 hb hdm hnm m0 p1 HDM HNM HBM
   have c3:=(nm_gives (x:=d.x) HH.out.1.2.2.2.2.2.2.2 (HH.out.2.1.on HB2.out)).two
   rcases c3 with ⟨h3,c3⟩ | ⟨h3,c3⟩
   ·go_wp2_with fail
    refine c3.mono ?_
    rintro e w3 ⟨rfl,hb⟩
    have HB3:Hid (yD w w3):=below2 HB2.out hb
    have hdm:=(hb.block _ (zJ HD2.out).1).trans HD2.out
    have hnm:=(hb.block _ (zJ HN2.out).1).trans HN2.out
    have HD3:Hid (w3.heap[w§]? = (zC d.vals 121)):=hdm
    have HN3:Hid (w3.heap[NM]? = (zC #[.bool false,.bool true,.bool bs,.bool bq,.bool bp,.bool bv] 301)):=hnm
    have m2:w3.cell? NM¢2=some (.bool bs):=cell_of hnm 2
    clear c3 hb hdm hnm m1 p2 HD2 HN2
    have c4:=(part_gives d.sd bs w3 (HH.out.1.1.on HB3.out) HH.out.2.2.1 (HH.out.2.1.on HB3.out)).two
    rcases c4 with ⟨h4,c4⟩ | ⟨h4,c4⟩
    ·go_wp2_with (refine wpList_load_mid rfl 38 (.tmp 28) rfl w§ 3 rfl d.sd.vals.toList _ (nd_rng HD3.out 3 d.sd (do_sd d)) Tryz.underlying38 rfl (size38 d.sd) ?_; rw [toArr])
     refine c4.mono ?_
     rintro e w4 ⟨rfl,hb⟩
     have HB4:Hid (yD w w4):=below2 HB3.out hb
     have hdm:=(hb.block _ (zJ HD3.out).1).trans HD3.out
     have hnm:=(hb.block _ (zJ HN3.out).1).trans HN3.out
     have HD4:Hid (w4.heap[w§]? = (zC d.vals 121)):=hdm
     have HN4:Hid (w4.heap[NM]? = (zC #[.bool false,.bool true,.bool bs,.bool bq,.bool bp,.bool bv] 301)):=hnm
     have m3:w4.cell? NM¢3=some (.bool bq):=cell_of hnm 3
     clear c4 hb hdm hnm m2 HD3 HN3
     have c5:=(part_gives d.qt bq w4 (HH.out.1.2.1.on HB4.out) HH.out.2.2.2.1 (HH.out.2.1.on HB4.out)).two
     rcases c5 with ⟨h5,c5⟩ | ⟨h5,c5⟩
     ·go_wp2_with (refine wpList_load_mid rfl 38 (.tmp 33) rfl w§ 11 rfl d.qt.vals.toList _ (nd_rng HD4.out 11 d.qt (do_qt d)) Tryz.underlying38 rfl (size38 d.qt) ?_; rw [toArr])
      refine c5.mono ?_
      rintro e w5 ⟨rfl,hb⟩
      have HB5:Hid (yD w w5):=below2 HB4.out hb
      have hdm:=(hb.block _ (zJ HD4.out).1).trans HD4.out
      have hnm:=(hb.block _ (zJ HN4.out).1).trans HN4.out
      have HD5:Hid (w5.heap[w§]? = (zC d.vals 121)):=hdm
      have HN5:Hid (w5.heap[NM]? = (zC #[.bool false,.bool true,.bool bs,.bool bq,.bool bp,.bool bv] 301)):=hnm
      have m4:w5.cell? NM¢4=some (.bool bp):=cell_of hnm 4
      clear c5 hb hdm hnm m3 HD4 HN4
      have c6:=(part_gives d.pr bp w5 (HH.out.1.2.2.1.on HB5.out) HH.out.2.2.2.2.1 (HH.out.2.1.on HB5.out)).two
      rcases c6 with ⟨h6,c6⟩ | ⟨h6,c6⟩
      ·go_wp2_with (refine wpList_load_mid rfl 38 (.tmp 38) rfl w§ 19 rfl d.pr.vals.toList _ (nd_rng HD5.out 19 d.pr (do_pr d)) Tryz.underlying38 rfl (size38 d.pr) ?_; rw [toArr])
       refine c6.mono ?_
       rintro e w6 ⟨rfl,hb⟩
       have HB6:Hid (yD w w6):=below2 HB5.out hb
       have hdm:=(hb.block _ (zJ HD5.out).1).trans HD5.out
       have hnm:=(hb.block _ (zJ HN5.out).1).trans HN5.out
       have HD6:Hid (w6.heap[w§]? = (zC d.vals 121)):=hdm
       have HN6:Hid (w6.heap[NM]? = (zC #[.bool false,.bool true,.bool bs,.bool bq,.bool bp,.bool bv] 301)):=hnm
       have m5:w6.cell? NM¢5=some (.bool bv):=cell_of hnm 5
       clear c6 hb hdm hnm m4 HD5 HN5
       have c7:=(part_gives d.vl bv w6 (HH.out.1.2.2.2.1.on HB6.out) HH.out.2.2.2.2.2 (HH.out.2.1.on HB6.out)).two
       rcases c7 with ⟨h7,c7⟩ | ⟨h7,c7⟩
       ·go_wp2_with (refine wpList_load_mid rfl 38 (.tmp 43) rfl w§ 27 rfl d.vl.vals.toList _ (nd_rng HD6.out 27 d.vl (do_vl d)) Tryz.underlying38 rfl (size38 d.vl) ?_; rw [toArr])
        refine c7.mono ?_
        rintro e w7 ⟨rfl,hb⟩
        have HB7:Hid (yD w w7):=below2 HB6.out hb
        clear c7 hb
        go_wp2_with fail
        go_end0
        exact⟨.inl ⟨by rw [← HE.out,fs_z h1,fs_z h2,fs_z h3,fs_z h4,fs_z h5,fs_z h6]; exact h7,rfl⟩,HB7.out⟩
       ·go_wp2_with (refine wpList_load_mid rfl 38 (.tmp 43) rfl w§ 27 rfl d.vl.vals.toList _ (nd_rng HD6.out 27 d.vl (do_vl d)) Tryz.underlying38 rfl (size38 d.vl) ?_; rw [toArr])
        refine c7.mono ?_
        rintro e wf ⟨rfl,hb⟩
        have hE:E=partE d.vl bv:=by rw [← HE.out,fs_z h1,fs_z h2,fs_z h3,fs_z h4,fs_z h5,fs_z h6]
        exact⟨rfl,.inr ⟨by rw [hE]; exact h7,by rw [hE]⟩,below2 HB6.out hb⟩
      ·go_wp2_with (refine wpList_load_mid rfl 38 (.tmp 38) rfl w§ 19 rfl d.pr.vals.toList _ (nd_rng HD5.out 19 d.pr (do_pr d)) Tryz.underlying38 rfl (size38 d.pr) ?_; rw [toArr])
       refine c6.mono ?_
       rintro e wf ⟨rfl,hb⟩
       have hE:E=partE d.pr bp:=by rw [← HE.out,fs_z h1,fs_z h2,fs_z h3,fs_z h4,fs_z h5,fs_n h6]
       exact⟨rfl,.inr ⟨by rw [hE]; exact h6,by rw [hE]⟩,below2 HB5.out hb⟩
     ·go_wp2_with (refine wpList_load_mid rfl 38 (.tmp 33) rfl w§ 11 rfl d.qt.vals.toList _ (nd_rng HD4.out 11 d.qt (do_qt d)) Tryz.underlying38 rfl (size38 d.qt) ?_; rw [toArr])
      refine c5.mono ?_
      rintro e wf ⟨rfl,hb⟩
      have hE:E=partE d.qt bq:=by rw [← HE.out,fs_z h1,fs_z h2,fs_z h3,fs_z h4,fs_n h5]
      exact⟨rfl,.inr ⟨by rw [hE]; exact h5,by rw [hE]⟩,below2 HB4.out hb⟩
    ·go_wp2_with (refine wpList_load_mid rfl 38 (.tmp 28) rfl w§ 3 rfl d.sd.vals.toList _ (nd_rng HD3.out 3 d.sd (do_sd d)) Tryz.underlying38 rfl (size38 d.sd) ?_; rw [toArr])
     refine c4.mono ?_
     rintro e wf ⟨rfl,hb⟩
     have hE:E=partE d.sd bs:=by rw [← HE.out,fs_z h1,fs_z h2,fs_z h3,fs_n h4]
     exact⟨rfl,.inr ⟨by rw [hE]; exact h4,by rw [hE]⟩,below2 HB3.out hb⟩
   ·go_wp2_with fail
    refine c3.mono ?_
    rintro e wf ⟨rfl,hb⟩
    have hE:E=(namE d.x):=by rw [← HE.out,fs_z h1,fs_z h2,fs_n h3]
    exact⟨rfl,.inr ⟨by rw [hE]; exact h3,by rw [hE]⟩,below2 HB2.out hb⟩
  ·go_wp2_with fail
   refine c2.mono ?_
   rintro e wf ⟨rfl,hb⟩
   have hE:E=okE B2:=by rw [← HE.out,fs_z h1,fs_n h2]
   exact⟨rfl,.inr ⟨by rw [hE]; exact h2,by rw [hE]⟩,below2 HBM.out hb⟩
 ·go_wp2_with fail
  refine c1.mono ?_
  rintro e wf ⟨rfl,hb⟩
  have hE:E=okE B1:=by rw [← HE.out,fs_n h1]
  exact⟨rfl,.inr ⟨by rw [hE]; exact h1,by rw [hE]⟩,below2 HB0.out hb⟩
theorem do_ff (d:DoM) (w:yW) (hl:DoL w d) (hz:DoZ d) (ht:Tab w) (hO:ndO d=false) (hN:ndN d=false):Gives 222 #[.agg d.vals] w (doE d):=by
 have hb0:=below_new w (.cells d.vals 121)
 have hn0:=heap_new w (.cells d.vals 121)
 have HH:Hid (DoL w d∧Tab w∧DoZ d):=⟨hl,ht,hz⟩
 have HN0:Hid ((w.alloc (.cells d.vals 121)).heap[w§]? = (zC d.vals 121)):=hn0
 have HB0:Hid (yD w (w.alloc (.cells d.vals 121))):=hb0
 have q0:(w.alloc (.cells d.vals 121)).cell? w§¢0=some (zU d.k):=cell_of hn0 0
 have c0:=wU_any 232 d.k 1 6 (w.alloc (.cells d.vals 121)) (by simp)
 have cn:=fun v=>nb_any d v
 obtain⟨E,eE⟩:∃ E,doE d=E:=⟨_,rfl⟩
 have HE:Hid (doE d=E):=eE
 rw [eE]
 unfold doE at HE
 rw [hO,hN] at HE
 rw [hO,hN] at cn
 obtain⟨B1,eB1⟩:∃ B,decide (1≤d.k∧d.k≤6)=B:=⟨_,rfl⟩
 rw [eB1] at c0 HE
 rw [if_neg (by decide)] at HE
 obtain⟨B2,eB2⟩:∃ B,decide (d.o=0)=B:=⟨_,rfl⟩
 have eB2':(d.o == 0)=B2:=by rw [← eB2]; rfl
 rw [eB2] at HE
 rw [if_neg (by decide)] at HE
 obtain⟨B3,eB3⟩:∃ B,d.x.toList.isEmpty=B:=⟨_,rfl⟩
 rw [eB3] at HE
 obtain⟨bs,ebs⟩:∃ q,ndS d=q:=⟨_,rfl⟩
 obtain⟨bq,ebq⟩:∃ q,ndQ d=q:=⟨_,rfl⟩
 obtain⟨bp,ebp⟩:∃ q,ndP d=q:=⟨_,rfl⟩
 obtain⟨bv,ebv⟩:∃ q,ndV d=q:=⟨_,rfl⟩
 rw [ebs,ebq,ebp,ebv] at HE
 simp only [ebs,ebq,ebp,ebv] at cn
 clear hl ht hz eE hb0 hn0 hO hN eB1 ebs ebq ebp ebv
 clear eB2
 unfold Gives
 go_enter Tryz.func222,Tryz.ntmps222
 go_wp2_with fail
 refine c0.mono ?_
 rintro e w0 ⟨rfl,e0⟩
 obtain rfl:=e0.symm
 have c1:=(need_gives B1 (w.alloc (.cells d.vals 121))).two
 clear c0 e0
 rcases c1 with ⟨h1,c1⟩ | ⟨h1,c1⟩
 ·go_wp2_with fail
  refine c1.mono ?_
  rintro e w1 ⟨rfl,hb⟩
  have HB1:Hid (yD w w1):=below2 HB0.out hb
  have hd1:=(hb.block _ (zJ HN0.out).1).trans HN0.out
  have HD1:Hid (w1.heap[w§]? = (zC d.vals 121)):=hd1
  have cn1:=cn w1
  clear c1 hb hd1 q0 HN0 HB0
  go_wp2_with (refine wpList_load_row rfl 121 (.tmp 1) rfl w§ rfl 121 d.vals (0,0) _ HD1.out Tryz.underlying121 rfl size110' ?_)
  refine cn1.mono ?_
  rintro e wm ⟨rfl,hb⟩
  have hdm:=(hb.block _ (zJ HD1.out).1).trans HD1.out
  have hbn:=below_new wm (.cells #[.bool false,.bool false,.bool bs,.bool bq,.bool bp,.bool bv] 301)
  have HDM:Hid ((wm.alloc (.cells #[.bool false,.bool false,.bool bs,.bool bq,.bool bp,.bool bv] 301)).heap[w§]? = (zC d.vals 121)):=(hbn.block _ (zJ hdm).1).trans hdm
  have HNM:Hid ((wm.alloc (.cells #[.bool false,.bool false,.bool bs,.bool bq,.bool bp,.bool bv] 301)).heap[wm§]? = (zC #[.bool false,.bool false,.bool bs,.bool bq,.bool bp,.bool bv] 301)):=heap_new _ _
  have HBM:Hid (yD w (wm.alloc (.cells #[.bool false,.bool false,.bool bs,.bool bq,.bool bp,.bool bv] 301))):=below2 (below2 HB1.out hb) hbn
  clear cn1 cn hb hdm hbn HD1 HB1
  go_upto_region 3 with fail
  obtain⟨NM,eNM⟩:∃ q,wm§=q:=⟨_,rfl⟩
  obtain⟨WM,eWM⟩:∃ W,wm.alloc (.cells #[.bool false,.bool false,.bool bs,.bool bq,.bool bp,.bool bv] 301)=W:=⟨_,rfl⟩
  rw [eWM,eNM] at HNM
  rw [eWM] at HDM HBM
  rw [eWM,eNM]
  clear eWM eNM
  have m0:WM.cell? NM¢0=some (.bool false):=cell_of HNM.out 0
  have p1:WM.cell? w§¢1=some (zU d.o):=cell_of HDM.out 1
  have c2:=(need_gives B2 WM).two
  rcases c2 with ⟨h2,c2⟩ | ⟨h2,c2⟩
  ·go_wp2_with fail
   refine c2.mono ?_
   rintro e w2 ⟨rfl,hb⟩
   have HB2:Hid (yD w w2):=below2 HBM.out hb
   have hdm:=(hb.block _ (zJ HDM.out).1).trans HDM.out
   have hnm:=(hb.block _ (zJ HNM.out).1).trans HNM.out
   have HD2:Hid (w2.heap[w§]? = (zC d.vals 121)):=hdm
   have HN2:Hid (w2.heap[NM]? = (zC #[.bool false,.bool false,.bool bs,.bool bq,.bool bp,.bool bv] 301)):=hnm
   have m1:w2.cell? NM¢1=some (.bool false):=cell_of hnm 1
   have p2:w2.cell? w§¢2=some (.string d.x):=cell_of hdm 2
   clear c2 hb hdm hnm m0 p1 HDM HNM HBM
   have c3:=(need_gives B3 w2).two
   rcases c3 with ⟨h3,c3⟩ | ⟨h3,c3⟩
   ·go_wp2_with fail
    refine c3.mono ?_
    rintro e w3 ⟨rfl,hb⟩
    have HB3:Hid (yD w w3):=below2 HB2.out hb
    have hdm:=(hb.block _ (zJ HD2.out).1).trans HD2.out
    have hnm:=(hb.block _ (zJ HN2.out).1).trans HN2.out
    have HD3:Hid (w3.heap[w§]? = (zC d.vals 121)):=hdm
    have HN3:Hid (w3.heap[NM]? = (zC #[.bool false,.bool false,.bool bs,.bool bq,.bool bp,.bool bv] 301)):=hnm
    have m2:w3.cell? NM¢2=some (.bool bs):=cell_of hnm 2
    clear c3 hb hdm hnm m1 p2 HD2 HN2
    have c4:=(part_gives d.sd bs w3 (HH.out.1.1.on HB3.out) HH.out.2.2.1 (HH.out.2.1.on HB3.out)).two
    rcases c4 with ⟨h4,c4⟩ | ⟨h4,c4⟩
    ·go_wp2_with (refine wpList_load_mid rfl 38 (.tmp 28) rfl w§ 3 rfl d.sd.vals.toList _ (nd_rng HD3.out 3 d.sd (do_sd d)) Tryz.underlying38 rfl (size38 d.sd) ?_; rw [toArr])
     refine c4.mono ?_
     rintro e w4 ⟨rfl,hb⟩
     have HB4:Hid (yD w w4):=below2 HB3.out hb
     have hdm:=(hb.block _ (zJ HD3.out).1).trans HD3.out
     have hnm:=(hb.block _ (zJ HN3.out).1).trans HN3.out
     have HD4:Hid (w4.heap[w§]? = (zC d.vals 121)):=hdm
     have HN4:Hid (w4.heap[NM]? = (zC #[.bool false,.bool false,.bool bs,.bool bq,.bool bp,.bool bv] 301)):=hnm
     have m3:w4.cell? NM¢3=some (.bool bq):=cell_of hnm 3
     clear c4 hb hdm hnm m2 HD3 HN3
     have c5:=(part_gives d.qt bq w4 (HH.out.1.2.1.on HB4.out) HH.out.2.2.2.1 (HH.out.2.1.on HB4.out)).two
     rcases c5 with ⟨h5,c5⟩ | ⟨h5,c5⟩
     ·go_wp2_with (refine wpList_load_mid rfl 38 (.tmp 33) rfl w§ 11 rfl d.qt.vals.toList _ (nd_rng HD4.out 11 d.qt (do_qt d)) Tryz.underlying38 rfl (size38 d.qt) ?_; rw [toArr])
      refine c5.mono ?_
      rintro e w5 ⟨rfl,hb⟩
      have HB5:Hid (yD w w5):=below2 HB4.out hb
      have hdm:=(hb.block _ (zJ HD4.out).1).trans HD4.out
      have hnm:=(hb.block _ (zJ HN4.out).1).trans HN4.out
      have HD5:Hid (w5.heap[w§]? = (zC d.vals 121)):=hdm
      have HN5:Hid (w5.heap[NM]? = (zC #[.bool false,.bool false,.bool bs,.bool bq,.bool bp,.bool bv] 301)):=hnm
      have m4:w5.cell? NM¢4=some (.bool bp):=cell_of hnm 4
      clear c5 hb hdm hnm m3 HD4 HN4
      have c6:=(part_gives d.pr bp w5 (HH.out.1.2.2.1.on HB5.out) HH.out.2.2.2.2.1 (HH.out.2.1.on HB5.out)).two
      rcases c6 with ⟨h6,c6⟩ | ⟨h6,c6⟩
      ·go_wp2_with (refine wpList_load_mid rfl 38 (.tmp 38) rfl w§ 19 rfl d.pr.vals.toList _ (nd_rng HD5.out 19 d.pr (do_pr d)) Tryz.underlying38 rfl (size38 d.pr) ?_; rw [toArr])
       refine c6.mono ?_
       rintro e w6 ⟨rfl,hb⟩
       have HB6:Hid (yD w w6):=below2 HB5.out hb
       have hdm:=(hb.block _ (zJ HD5.out).1).trans HD5.out
       have hnm:=(hb.block _ (zJ HN5.out).1).trans HN5.out
       have HD6:Hid (w6.heap[w§]? = (zC d.vals 121)):=hdm
       have HN6:Hid (w6.heap[NM]? = (zC #[.bool false,.bool false,.bool bs,.bool bq,.bool bp,.bool bv] 301)):=hnm
       have m5:w6.cell? NM¢5=some (.bool bv):=cell_of hnm 5
       clear c6 hb hdm hnm m4 HD5 HN5
       have c7:=(part_gives d.vl bv w6 (HH.out.1.2.2.2.1.on HB6.out) HH.out.2.2.2.2.2 (HH.out.2.1.on HB6.out)).two
       rcases c7 with ⟨h7,c7⟩ | ⟨h7,c7⟩
       ·go_wp2_with (refine wpList_load_mid rfl 38 (.tmp 43) rfl w§ 27 rfl d.vl.vals.toList _ (nd_rng HD6.out 27 d.vl (do_vl d)) Tryz.underlying38 rfl (size38 d.vl) ?_; rw [toArr])
        refine c7.mono ?_
        rintro e w7 ⟨rfl,hb⟩
        have HB7:Hid (yD w w7):=below2 HB6.out hb
        clear c7 hb
        go_wp2_with fail
        go_end0
        exact⟨.inl ⟨by rw [← HE.out,fs_z h1,fs_z h2,fs_z h3,fs_z h4,fs_z h5,fs_z h6]; exact h7,rfl⟩,HB7.out⟩
       ·go_wp2_with (refine wpList_load_mid rfl 38 (.tmp 43) rfl w§ 27 rfl d.vl.vals.toList _ (nd_rng HD6.out 27 d.vl (do_vl d)) Tryz.underlying38 rfl (size38 d.vl) ?_; rw [toArr])
        refine c7.mono ?_
        rintro e wf ⟨rfl,hb⟩
        have hE:E=partE d.vl bv:=by rw [← HE.out,fs_z h1,fs_z h2,fs_z h3,fs_z h4,fs_z h5,fs_z h6]
        exact⟨rfl,.inr ⟨by rw [hE]; exact h7,by rw [hE]⟩,below2 HB6.out hb⟩
      ·go_wp2_with (refine wpList_load_mid rfl 38 (.tmp 38) rfl w§ 19 rfl d.pr.vals.toList _ (nd_rng HD5.out 19 d.pr (do_pr d)) Tryz.underlying38 rfl (size38 d.pr) ?_; rw [toArr])
       refine c6.mono ?_
       rintro e wf ⟨rfl,hb⟩
       have hE:E=partE d.pr bp:=by rw [← HE.out,fs_z h1,fs_z h2,fs_z h3,fs_z h4,fs_z h5,fs_n h6]
       exact⟨rfl,.inr ⟨by rw [hE]; exact h6,by rw [hE]⟩,below2 HB5.out hb⟩
     ·go_wp2_with (refine wpList_load_mid rfl 38 (.tmp 33) rfl w§ 11 rfl d.qt.vals.toList _ (nd_rng HD4.out 11 d.qt (do_qt d)) Tryz.underlying38 rfl (size38 d.qt) ?_; rw [toArr])
      refine c5.mono ?_
      rintro e wf ⟨rfl,hb⟩
      have hE:E=partE d.qt bq:=by rw [← HE.out,fs_z h1,fs_z h2,fs_z h3,fs_z h4,fs_n h5]
      exact⟨rfl,.inr ⟨by rw [hE]; exact h5,by rw [hE]⟩,below2 HB4.out hb⟩
    ·go_wp2_with (refine wpList_load_mid rfl 38 (.tmp 28) rfl w§ 3 rfl d.sd.vals.toList _ (nd_rng HD3.out 3 d.sd (do_sd d)) Tryz.underlying38 rfl (size38 d.sd) ?_; rw [toArr])
     refine c4.mono ?_
     rintro e wf ⟨rfl,hb⟩
     have hE:E=partE d.sd bs:=by rw [← HE.out,fs_z h1,fs_z h2,fs_z h3,fs_n h4]
     exact⟨rfl,.inr ⟨by rw [hE]; exact h4,by rw [hE]⟩,below2 HB3.out hb⟩
   ·go_wp2_with fail
    refine c3.mono ?_
    rintro e wf ⟨rfl,hb⟩
    have hE:E=okE B3:=by rw [← HE.out,fs_z h1,fs_z h2,fs_n h3]
    exact⟨rfl,.inr ⟨by rw [hE]; exact h3,by rw [hE]⟩,below2 HB2.out hb⟩
  ·go_wp2_with fail
   refine c2.mono ?_
   rintro e wf ⟨rfl,hb⟩
   have hE:E=okE B2:=by rw [← HE.out,fs_z h1,fs_n h2]
   exact⟨rfl,.inr ⟨by rw [hE]; exact h2,by rw [hE]⟩,below2 HBM.out hb⟩
 ·go_wp2_with fail
  refine c1.mono ?_
  rintro e wf ⟨rfl,hb⟩
  have hE:E=okE B1:=by rw [← HE.out,fs_n h1]
  exact⟨rfl,.inr ⟨by rw [hE]; exact h1,by rw [hE]⟩,below2 HB0.out hb⟩
theorem do_gives (d:DoM) (w:yW) (hl:DoL w d) (hz:DoZ d) (ht:Tab w):Gives 222 #[.agg d.vals] w (doE d):=by
 cases hO:ndO d <;> cases hN:ndN d
 ·exact do_ff d w hl hz ht hO hN
 ·exact do_ft d w hl hz ht hO hN
 ·exact do_tf d w hl hz ht hO hN
 ·exact do_tt d w hl hz ht hO hN
end Go.Proofs.YtfbjofnaghjmeaaGreatDoor
