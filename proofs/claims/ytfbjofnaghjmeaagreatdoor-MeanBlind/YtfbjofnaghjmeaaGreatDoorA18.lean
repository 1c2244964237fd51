import Derived.Test.YtfbjofnaghjmeaaGreatDoorA0
import Derived.Test.YtfbjofnaghjmeaaGreatDoorA11
import Derived.Test.YtfbjofnaghjmeaaGreatDoorA17
namespace Go.Proofs.YtfbjofnaghjmeaaGreatDoor
set_option maxRecDepth 100000
open Go.RowKit
set_option linter.unusedVariables false
theorem size372:(Tryz.prog.info? 301).map (·.size)=some 6:=by kernel_rfl
theorem nb_sub (d:DoM) (w:yW) (b c:Bool) (hk:d.k=1) (hx:(!d.x.toList.isEmpty)=b) (ho:(d.o != 2)=c):Calls zG 233 #[.agg d.vals] w fun e w'=>e=.returned (.agg #[.bool true,.bool b,.bool true,.bool true,.bool c,.bool false])∧yD w w':=by
 have hn0:=heap_new w (.cells d.vals 121)
 have b1:=below_new (w.alloc (.cells d.vals 121)) (.cells zd 301)
 have s0:=size_alloc w (.cells d.vals 121)
 have hn1:=heap_new (w.alloc (.cells d.vals 121)) (.cells zd 301)
 rw [s0] at hn1
 have hd1:=(b1.block _ (by omega)).trans hn0
 obtain⟨W,eW⟩:∃ W,(w.alloc (.cells d.vals 121)).alloc (.cells zd 301)=W:=⟨_,rfl⟩
 have HBW:Hid (yD w W):=by show Below _ _ _; rw [← eW]; exact below2 (below_new _ _) (below_new _ _)
 rw [eW] at hn1 hd1
 have HEW:Hid ((w.alloc (.cells d.vals 121)).alloc (.cells zd 301)=W):=eW
 have k0:W.cell? w§¢0=some (zU d.k):=cell_of hd1 0
 have k1:W.cell? w§¢1=some (zU d.o):=cell_of hd1 1
 have k2:W.cell? w§¢2=some (.string d.x):=cell_of hd1 2
 have HN1:Hid (W.heap[w§+1]? = (zC zd 301)):=hn1
 have HF:Hid ((W.setRow (w§+1) #[.bool true,.bool b,.bool true,.bool true,.bool c,.bool false]).heap[w§+1]? = (zC #[.bool true,.bool b,.bool true,.bool true,.bool c,.bool false] 301)∧yD w (W.setRow (w§+1) #[.bool true,.bool b,.bool true,.bool true,.bool c,.bool false])):=⟨setRow_heap _ _ _ _ _ _ hn1,below_row HBW.out (by omega) _⟩
 clear hn0 b1 s0 hn1 hd1 eW
 rw [hk] at k0
 clear hk
 go_enter Tryz.func233,Tryz.ntmps233
 go_upto_region 1 with fail
 rw [HEW.out]
 clear HEW
 go_wp2_with (refine wpList_store_row rfl 301 (.tmp 2) (.tmp 13) rfl (w§+1) #[.bool true,.bool b,.bool true,.bool true,.bool c,.bool false] rfl rfl 301 zd HN1.out size372 rfl (by simp [Value.oneCell']) ?_)
 exact bodyPost_ret (results_cell_row rfl _ _ (w§+1) 301 #[.bool true,.bool b,.bool true,.bool true,.bool c,.bool false] (0,0) _ rfl HF.out.1 Tryz.underlying301 rfl size372) rfl ⟨rfl,HF.out.2⟩
theorem nb_amd (d:DoM) (w:yW) (hk:d.k=2):Calls zG 233 #[.agg d.vals] w fun e w'=>e=.returned (.agg zq)∧yD w w':=by
 have hn0:=heap_new w (.cells d.vals 121)
 have b1:=below_new (w.alloc (.cells d.vals 121)) (.cells zd 301)
 have s0:=size_alloc w (.cells d.vals 121)
 have hn1:=heap_new (w.alloc (.cells d.vals 121)) (.cells zd 301)
 rw [s0] at hn1
 have hd1:=(b1.block _ (by omega)).trans hn0
 obtain⟨W,eW⟩:∃ W,(w.alloc (.cells d.vals 121)).alloc (.cells zd 301)=W:=⟨_,rfl⟩
 have HBW:Hid (yD w W):=by show Below _ _ _; rw [← eW]; exact below2 (below_new _ _) (below_new _ _)
 rw [eW] at hn1 hd1
 have HEW:Hid ((w.alloc (.cells d.vals 121)).alloc (.cells zd 301)=W):=eW
 have k0:W.cell? w§¢0=some (zU d.k):=cell_of hd1 0
 have k1:W.cell? w§¢1=some (zU d.o):=cell_of hd1 1
 have k2:W.cell? w§¢2=some (.string d.x):=cell_of hd1 2
 have HN1:Hid (W.heap[w§+1]? = (zC zd 301)):=hn1
 have HF:Hid ((W.setRow (w§+1) zq).heap[w§+1]? = (zC zq 301)∧yD w (W.setRow (w§+1) zq)):=⟨setRow_heap _ _ _ _ _ _ hn1,below_row HBW.out (by omega) _⟩
 clear hn0 b1 s0 hn1 hd1 eW
 rw [hk] at k0
 clear hk
 go_enter Tryz.func233,Tryz.ntmps233
 go_upto_region 1 with fail
 rw [HEW.out]
 clear HEW
 go_wp2_with (refine wpList_store_row rfl 301 (.tmp 2) (.tmp 16) rfl (w§+1) zq rfl rfl 301 zd HN1.out size372 rfl (by simp [Value.oneCell']) ?_)
 exact bodyPost_ret (results_cell_row rfl _ _ (w§+1) 301 zq (0,0) _ rfl HF.out.1 Tryz.underlying301 rfl size372) rfl ⟨rfl,HF.out.2⟩
theorem nb_set (d:DoM) (w:yW) (hk:d.k=4):Calls zG 233 #[.agg d.vals] w fun e w'=>e=.returned (.agg zp)∧yD w w':=by
 have hn0:=heap_new w (.cells d.vals 121)
 have b1:=below_new (w.alloc (.cells d.vals 121)) (.cells zd 301)
 have s0:=size_alloc w (.cells d.vals 121)
 have hn1:=heap_new (w.alloc (.cells d.vals 121)) (.cells zd 301)
 rw [s0] at hn1
 have hd1:=(b1.block _ (by omega)).trans hn0
 obtain⟨W,eW⟩:∃ W,(w.alloc (.cells d.vals 121)).alloc (.cells zd 301)=W:=⟨_,rfl⟩
 have HBW:Hid (yD w W):=by show Below _ _ _; rw [← eW]; exact below2 (below_new _ _) (below_new _ _)
 rw [eW] at hn1 hd1
 have HEW:Hid ((w.alloc (.cells d.vals 121)).alloc (.cells zd 301)=W):=eW
 have k0:W.cell? w§¢0=some (zU d.k):=cell_of hd1 0
 have k1:W.cell? w§¢1=some (zU d.o):=cell_of hd1 1
 have k2:W.cell? w§¢2=some (.string d.x):=cell_of hd1 2
 have HN1:Hid (W.heap[w§+1]? = (zC zd 301)):=hn1
 have HF:Hid ((W.setRow (w§+1) zp).heap[w§+1]? = (zC zp 301)∧yD w (W.setRow (w§+1) zp)):=⟨setRow_heap _ _ _ _ _ _ hn1,below_row HBW.out (by omega) _⟩
 clear hn0 b1 s0 hn1 hd1 eW
 rw [hk] at k0
 clear hk
 go_enter Tryz.func233,Tryz.ntmps233
 go_upto_region 1 with fail
 rw [HEW.out]
 clear HEW
 go_wp2_with (refine wpList_store_row rfl 301 (.tmp 2) (.tmp 19) rfl (w§+1) zp rfl rfl 301 zd HN1.out size372 rfl (by simp [Value.oneCell']) ?_)
 exact bodyPost_ret (results_cell_row rfl _ _ (w§+1) 301 zp (0,0) _ rfl HF.out.1 Tryz.underlying301 rfl size372) rfl ⟨rfl,HF.out.2⟩
theorem nb_can (d:DoM) (w:yW) (hk:d.k=3):Calls zG 233 #[.agg d.vals] w fun e w'=>e=.returned (.agg zj)∧yD w w':=by
 have hn0:=heap_new w (.cells d.vals 121)
 have b1:=below_new (w.alloc (.cells d.vals 121)) (.cells zd 301)
 have s0:=size_alloc w (.cells d.vals 121)
 have hn1:=heap_new (w.alloc (.cells d.vals 121)) (.cells zd 301)
 rw [s0] at hn1
 have hd1:=(b1.block _ (by omega)).trans hn0
 obtain⟨W,eW⟩:∃ W,(w.alloc (.cells d.vals 121)).alloc (.cells zd 301)=W:=⟨_,rfl⟩
 have HBW:Hid (yD w W):=by show Below _ _ _; rw [← eW]; exact below2 (below_new _ _) (below_new _ _)
 rw [eW] at hn1 hd1
 have HEW:Hid ((w.alloc (.cells d.vals 121)).alloc (.cells zd 301)=W):=eW
 have k0:W.cell? w§¢0=some (zU d.k):=cell_of hd1 0
 have k1:W.cell? w§¢1=some (zU d.o):=cell_of hd1 1
 have k2:W.cell? w§¢2=some (.string d.x):=cell_of hd1 2
 have HN1:Hid (W.heap[w§+1]? = (zC zd 301)):=hn1
 have HF:Hid ((W.setRow (w§+1) zj).heap[w§+1]? = (zC zj 301)∧yD w (W.setRow (w§+1) zj)):=⟨setRow_heap _ _ _ _ _ _ hn1,below_row HBW.out (by omega) _⟩
 clear hn0 b1 s0 hn1 hd1 eW
 rw [hk] at k0
 clear hk
 go_enter Tryz.func233,Tryz.ntmps233
 go_upto_region 1 with fail
 rw [HEW.out]
 clear HEW
 go_wp2_with (refine wpList_store_row rfl 301 (.tmp 2) (.tmp 23) rfl (w§+1) zj rfl rfl 301 zd HN1.out size372 rfl (by simp [Value.oneCell']) ?_)
 exact bodyPost_ret (results_cell_row rfl _ _ (w§+1) 301 zj (0,0) _ rfl HF.out.1 Tryz.underlying301 rfl size372) rfl ⟨rfl,HF.out.2⟩
theorem nb_got (d:DoM) (w:yW) (hk:d.k=5):Calls zG 233 #[.agg d.vals] w fun e w'=>e=.returned (.agg zj)∧yD w w':=by
 have hn0:=heap_new w (.cells d.vals 121)
 have b1:=below_new (w.alloc (.cells d.vals 121)) (.cells zd 301)
 have s0:=size_alloc w (.cells d.vals 121)
 have hn1:=heap_new (w.alloc (.cells d.vals 121)) (.cells zd 301)
 rw [s0] at hn1
 have hd1:=(b1.block _ (by omega)).trans hn0
 obtain⟨W,eW⟩:∃ W,(w.alloc (.cells d.vals 121)).alloc (.cells zd 301)=W:=⟨_,rfl⟩
 have HBW:Hid (yD w W):=by show Below _ _ _; rw [← eW]; exact below2 (below_new _ _) (below_new _ _)
 rw [eW] at hn1 hd1
 have HEW:Hid ((w.alloc (.cells d.vals 121)).alloc (.cells zd 301)=W):=eW
 have k0:W.cell? w§¢0=some (zU d.k):=cell_of hd1 0
 have k1:W.cell? w§¢1=some (zU d.o):=cell_of hd1 1
 have k2:W.cell? w§¢2=some (.string d.x):=cell_of hd1 2
 have HN1:Hid (W.heap[w§+1]? = (zC zd 301)):=hn1
 have HF:Hid ((W.setRow (w§+1) zj).heap[w§+1]? = (zC zj 301)∧yD w (W.setRow (w§+1) zj)):=⟨setRow_heap _ _ _ _ _ _ hn1,below_row HBW.out (by omega) _⟩
 clear hn0 b1 s0 hn1 hd1 eW
 rw [hk] at k0
 clear hk
 go_enter Tryz.func233,Tryz.ntmps233
 go_upto_region 1 with fail
 rw [HEW.out]
 clear HEW
 go_wp2_with (refine wpList_store_row rfl 301 (.tmp 2) (.tmp 23) rfl (w§+1) zj rfl rfl 301 zd HN1.out size372 rfl (by simp [Value.oneCell']) ?_)
 exact bodyPost_ret (results_cell_row rfl _ _ (w§+1) 301 zj (0,0) _ rfl HF.out.1 Tryz.underlying301 rfl size372) rfl ⟨rfl,HF.out.2⟩
theorem nb_not (d:DoM) (w:yW) (h1:¬ d.k=1) (h2:¬ d.k=2) (h3:¬ d.k=3) (h4:¬ d.k=4) (h5:¬ d.k=5):Calls zG 233 #[.agg d.vals] w fun e w'=>e=.returned (.agg zd)∧yD w w':=by
 have hn0:=heap_new w (.cells d.vals 121)
 have b1:=below_new (w.alloc (.cells d.vals 121)) (.cells zd 301)
 have s0:=size_alloc w (.cells d.vals 121)
 have hn1:=heap_new (w.alloc (.cells d.vals 121)) (.cells zd 301)
 rw [s0] at hn1
 have hd1:=(b1.block _ (by omega)).trans hn0
 obtain⟨W,eW⟩:∃ W,(w.alloc (.cells d.vals 121)).alloc (.cells zd 301)=W:=⟨_,rfl⟩
 have HBW:Hid (yD w W):=by show Below _ _ _; rw [← eW]; exact below2 (below_new _ _) (below_new _ _)
 rw [eW] at hn1 hd1
 have HEW:Hid ((w.alloc (.cells d.vals 121)).alloc (.cells zd 301)=W):=eW
 have k0:W.cell? w§¢0=some (zU d.k):=cell_of hd1 0
 have k1:W.cell? w§¢1=some (zU d.o):=cell_of hd1 1
 have k2:W.cell? w§¢2=some (.string d.x):=cell_of hd1 2
 have HN1:Hid (W.heap[w§+1]? = (zC zd 301)):=hn1
 have HF:Hid ((W.setRow (w§+1) zd).heap[w§+1]? = (zC zd 301)∧yD w (W.setRow (w§+1) zd)):=⟨setRow_heap _ _ _ _ _ _ hn1,below_row HBW.out (by omega) _⟩
 clear hn0 b1 s0 hn1 hd1 eW
 obtain⟨kk,ek⟩:∃ q,d.k=q:=⟨_,rfl⟩
 rw [ek] at k0 h1 h2 h3 h4 h5
 have g1:(kk == 1)=false:=by simpa using h1
 have g2:(kk == 2)=false:=by simpa using h2
 have g3:(kk == 3)=false:=by simpa using h3
 have g4:(kk == 4)=false:=by simpa using h4
 have g5:(kk == 5)=false:=by simpa using h5
 clear ek h1 h2 h3 h4 h5
 go_enter Tryz.func233,Tryz.ntmps233
 go_upto_region 1 with fail
 rw [HEW.out]
 clear HEW
 go_wp2_with (refine wpList_store_row rfl 301 (.tmp 2) (.tmp 24) rfl (w§+1) zd rfl rfl 301 zd HN1.out size372 rfl (by simp [Value.oneCell']) ?_)
 exact bodyPost_ret (results_cell_row rfl _ _ (w§+1) 301 zd (0,0) _ rfl HF.out.1 Tryz.underlying301 rfl size372) rfl ⟨rfl,HF.out.2⟩
def partE (m:Nd) (is:Bool):Int:=if is=true then cE m else okE (sameB m nd0T)
theorem part_gives (m:Nd) (is:Bool) (w:yW) (hl:Lies w m) (hz:size m≤1000000000000) (ht:Tab w):Gives 235 #[.agg m.vals,.bool is] w (partE m is):=by
 have hb0:=below_new w (.cells m.vals 38)
 have HN0:Hid ((w.alloc (.cells m.vals 38)).heap[w§]? = (zC m.vals 38)):=heap_new w _
 have HB0:Hid (yD w (w.alloc (.cells m.vals 38))):=hb0
 cases is with
 | true =>
  have c1:=(needExpr_any m (w.alloc (.cells m.vals 38)) (hl.on hb0) hz (ht.on hb0)).two
  have hE:partE m true=cE m:=if_pos rfl
  rw [hE]
  unfold Gives
  clear hl ht hb0 hE hz
  rcases c1 with ⟨h1,c1⟩ | ⟨h1,c1⟩
  ·go_enter Tryz.func235,Tryz.ntmps235
   go_wp2_with (refine wpList_load_row rfl 38 (.tmp 2) rfl w§ rfl 38 m.vals (0,0) _ HN0.out Tryz.underlying38 rfl size64' ?_)
   refine c1.mono ?_
   rintro e w1 ⟨rfl,hb⟩
   have HB1:Hid (yD w w1):=below2 HB0.out hb
   clear c1 hb
   go_wp2_with fail
   exact bodyPost_ret (results_none rfl _ _ _) rfl ⟨.inl ⟨h1,rfl⟩,HB1.out⟩
  ·go_enter Tryz.func235,Tryz.ntmps235
   go_wp2_with (refine wpList_load_row rfl 38 (.tmp 2) rfl w§ rfl 38 m.vals (0,0) _ HN0.out Tryz.underlying38 rfl size64' ?_)
   refine c1.mono ?_
   rintro e w1 ⟨rfl,hb⟩
   exact⟨rfl,.inr ⟨h1,rfl⟩,below2 HB0.out hb⟩
 | false =>
  have c1:Calls zG 247 #[.agg m.vals,.agg zNo] (w.alloc (.cells m.vals 38)) fun e w'=>e=.returned (.bool (sameB m nd0T))∧Below (w.alloc (.cells m.vals 38))§ (w.alloc (.cells m.vals 38)) w':=same_any m nd0T _ (hl.on hb0) (lies0T _)
  obtain⟨B,eB⟩:∃ B,sameB m nd0T=B:=⟨_,rfl⟩
  have hE:partE m false=okE B:=by unfold partE; rw [if_neg (by decide),eB]
  rw [hE]
  rw [eB] at c1
  unfold Gives
  clear hl ht hb0 hE hz eB
  go_enter Tryz.func235,Tryz.ntmps235
  go_wp2_with (refine wpList_load_row rfl 38 (.tmp 2) rfl w§ rfl 38 m.vals (0,0) _ HN0.out Tryz.underlying38 rfl size64' ?_)
  refine c1.mono ?_
  rintro e w1 ⟨rfl,hb⟩
  have HB1:Hid (yD w w1):=below2 HB0.out hb
  have c2:=(need_gives B w1).two
  clear c1 hb
  rcases c2 with ⟨h1,c2⟩ | ⟨h1,c2⟩
  ·go_wp2_with fail
   refine c2.mono ?_
   rintro e w2 ⟨rfl,hb⟩
   have HB2:Hid (yD w w2):=below2 HB1.out hb
   clear c2 hb
   go_wp2_with fail
   go_end0
   exact⟨.inl ⟨h1,rfl⟩,HB2.out⟩
  ·go_wp2_with fail
   refine c2.mono ?_
   rintro e w2 ⟨rfl,hb⟩
   exact⟨rfl,.inr ⟨h1,rfl⟩,below2 HB1.out hb⟩
end Go.Proofs.YtfbjofnaghjmeaaGreatDoor
