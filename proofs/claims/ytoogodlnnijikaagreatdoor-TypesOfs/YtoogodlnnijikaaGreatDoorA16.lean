import Derived.Test.YtoogodlnnijikaaGreatDoorA0
import Derived.Test.YtoogodlnnijikaaGreatDoorA15
import Derived.Test.YtoogodlnnijikaaGreatDoorA12
import Derived.Test.YtoogodlnnijikaaGreatDoorA11
namespace Go.Proofs.YtoogodlnnijikaaGreatDoor
open Go.RowKit
set_option linter.unusedVariables false
theorem all4' (r:StratM):r.vals.all (·.oneCell')=true:=by simp [StratM.vals,Value.oneCell']
set_option maxRecDepth 100000 in
set_option maxHeartbeats 8000000 in
theorem strat_l {s:ByteArray}{S:StratT}(hz:s.size≤4096) (hp:pWhole s=some S) (w:World):Calls zG 9 #[.string s] w fun e w'=>∃ m:StratM,e=.returned (.tuple #[.agg m.vals,.agg #[zI 0,zI 0,.bool false]])∧m.tr=S∧StratL w' m∧Below w§ w w':=by
 have HX0:=(XS.new w #[.string ⟨#[]⟩,.slice none 0 0,.slice none 0 0,.slice none 0 0] 27).hid
 obtain⟨W0,eW0⟩:∃ W,(w.alloc (.cells #[.string ⟨#[]⟩,.slice none 0 0,.slice none 0 0,.slice none 0 0] 27)).alloc (.cells #[zI 0,zI 0,.bool false] 30)=W:=⟨_,rfl⟩
 rw [eW0] at HX0
 have cB:=begin_y s hz W0
 have HEW:Hid ((w.alloc (.cells #[.string ⟨#[]⟩,.slice none 0 0,.slice none 0 0,.slice none 0 0] 27)).alloc (.cells #[zI 0,zI 0,.bool false] 30)=W0):=eW0
 unfold pWhole at hp
 obtain⟨q,hb,hq⟩:=opt_bind hp
 obtain⟨te,us,hq2,hte,rfl⟩:∃ te us,q.2=te :: us∧te.k=0∧q.1=S:=by
  cases h2:q.2 with
  | nil=>rw [h2] at hq; cases hq
  | cons t ts =>
   rw [h2] at hq
   simp only at hq
   by_cases e:t.k=0
   ·rw [if_pos e] at hq; cases hq; exact⟨t,ts,rfl,e,rfl⟩
   ·rw [if_neg e] at hq; cases hq
 have HPB:Hid (pBody (rdT s)=some (q.1,te :: us)∧te.k=0):=⟨by rw [hb,← hq2],hte⟩
 clear eW0 hp hb hq hq2 hte
 go_enter Tryz.func9,Tryz.ntmps9
 go_wp2_with fail
 try rw [HEW.out]
 clear HEW
 refine cB.mono ?_
 rintro e w1 ⟨b,K,rfl,hb,hs,hK,hB⟩
 have hz0:=(Array.getElem?_eq_some_iff.1 HX0.out.f).1
 have HB1:Hid (w§+1 < b):=by show _ < _; omega
 have HX1:=(HX0.out.on hB).hid
 have cW:=whole_l hK hs HPB.out.1 HPB.out.2
 clear cB hb hs hK hB hz0 HX0
 go_wp2_with fail
 refine cW.mono ?_
 rintro e w2 ⟨m,rfl,htr,hdp,hs,hm⟩
 have HTR:Hid (m.tr=q.1):=htr
 have HX2:=(HX1.out.mv hm (fun k e=>by rw [e]; exact HB1.out)).hid
 have hz1:=(Array.getElem?_eq_some_iff.1 HX1.out.f).1
 have HSZ:Hid (w§+1 < w1§∧w1§≤w2§):=⟨hz1,hm.size⟩
 have HZ:Hid ((w2.alloc (.cells #[.string ⟨#[]⟩,.slice none 0 0,.slice none 0 0,.slice none 0 0] 27)).heap[w2§]? = some (.cells #[.string ⟨#[]⟩,.slice none 0 0,.slice none 0 0,.slice none 0 0] 27 (0,0))):=heap_new _ _
 have h3:Below w2§ w2 ((w2.alloc (.cells #[.string ⟨#[]⟩,.slice none 0 0,.slice none 0 0,.slice none 0 0] 27)).setRow w2§ m.vals):=below_row (below_new _ _) (Nat.le_refl _) _
 have HB3:Hid (Below w2§ w2 ((w2.alloc (.cells #[.string ⟨#[]⟩,.slice none 0 0,.slice none 0 0,.slice none 0 0] 27)).setRow w2§ m.vals)):=h3
 have HN3:Hid (((w2.alloc (.cells #[.string ⟨#[]⟩,.slice none 0 0,.slice none 0 0,.slice none 0 0] 27)).setRow w2§ m.vals).heap[w2§]? = some (.cells m.vals 27 (0,0))):=setRow_heap _ _ _ _ _ _ HZ.out
 have HLV:=(hs.on h3).hid
 have HDP:Hid (Dp w1 w2 fun U=>StratL U m):=hdp
 have HX3:=(HX2.out.on h3).hid
 clear cW htr hdp hs hm HX1 hz1 HX2 h3
 go_upto_region 3 with (refine wpList_store_row rfl 27 (.tmp 5) (.tmp 9) rfl w2§ m.vals rfl rfl 27 #[.string ⟨#[]⟩,.slice none 0 0,.slice none 0 0,.slice none 0 0] HZ.out size43' rfl (all4' m) ?_)
 generalize hW3:World.setRow _ _ _=w3
 rw [hW3] at HB3 HN3 HLV HX3
 clear hW3 HZ
 obtain⟨N5,eN5⟩:∃ n,w2§=n:=⟨_,rfl⟩
 have HN5:Hid (w2§=N5):=eN5
 rw [eN5] at HN3 ⊢
 clear eN5
 obtain⟨i,p,u,hp,_⟩:=HLV.out
 have cO:=over_no hp
 clear hp
 go_wp2_with fail
 refine cO.mono ?_
 rintro e w4 ⟨rfl,e9⟩
 obtain rfl:=e9.symm
 clear cO e9
 have HY1:Hid ((w3.setRow w§ m.vals).heap[w§]? = some (.cells m.vals 27 (0,0))∧(w3.setRow w§ m.vals).heap[w§+1]? = some (.cells #[zI 0,zI 0,.bool false] 30 (0,0))∧Below w§ w (w3.setRow w§ m.vals)):=⟨setRow_heap _ _ _ _ _ _ HX3.out.z,(setRow_oth _ _ _ (by omega)).trans HX3.out.f,below_row HX3.out.B (Nat.le_refl _) _⟩
 have HY2:Hid (((w3.setRow w§ m.vals).setRow (w§+1) #[zI 0,zI 0,.bool false]).heap[w§]? = some (.cells m.vals 27 (0,0))∧((w3.setRow w§ m.vals).setRow (w§+1) #[zI 0,zI 0,.bool false]).heap[w§+1]? = some (.cells #[zI 0,zI 0,.bool false] 30 (0,0))∧Below w§ w ((w3.setRow w§ m.vals).setRow (w§+1) #[zI 0,zI 0,.bool false])):=⟨(setRow_oth _ _ _ (by omega)).trans HY1.out.1,setRow_heap _ _ _ _ _ _ HY1.out.2.1,below_row HY1.out.2.2 (by omega) _⟩
 have HSL:Hid (StratL ((w3.setRow w§ m.vals).setRow (w§+1) #[zI 0,zI 0,.bool false]) m):=by
  have h1:=HSZ.out
  refine HDP.out _ fun k k1 k2=>?_
  rw [setRow_oth _ _ _ (by omega),setRow_oth _ _ _ (by omega)]
  exact HB3.out.block k k2
 go_wp2_with (first | (refine wpList_load_row rfl 27 (.tmp 5) rfl N5 rfl 27 m.vals (0,0) _ HN3.out Tryz.underlying27 rfl size43' ?_) | (refine wpList_store_row rfl 27 (.tmp 2) (.tmp 17) rfl w§ m.vals rfl rfl 27 _ HX3.out.z size43' rfl (all4' m) ?_) | (refine wpList_store_row rfl 30 (.tmp 3) (.tmp 18) rfl (w§+1) #[zI 0,zI 0,.bool false] rfl rfl 30 _ HY1.out.2.1 size50 rfl (by simp [Value.oneCell']) ?_))
 exact bodyPost_ret (results_cc rfl _ _ w§ (w§+1) 27 30 m.vals #[zI 0,zI 0,.bool false] (0,0) (0,0) _ _ rfl HY2.out.1 Tryz.underlying27 rfl size43' rfl HY2.out.2.1 Tryz.underlying30 rfl size50) rfl ⟨m,rfl,HTR.out,HSL.out,HY2.out.2.2⟩
theorem size372:(Tryz.prog.info? 233).map (·.size)=some 6:=by kernel_rfl
set_option maxRecDepth 100000 in
theorem nb_sub (d:DoM) (w:World) (b c:Bool) (hk:d.k=1) (hx:(!d.x.toList.isEmpty)=b) (ho:(d.o != 2)=c):Calls zG 175 #[.agg d.vals] w fun e w'=>e=.returned (.agg #[.bool true,.bool b,.bool true,.bool true,.bool c,.bool false])∧Below w§ w w':=by
 have hn0:=heap_new w (.cells d.vals 105)
 have b1:=below_new (w.alloc (.cells d.vals 105)) (.cells #[.bool false,.bool false,.bool false,.bool false,.bool false,.bool false] 233)
 have s0:=size_alloc w (.cells d.vals 105)
 have hn1:=heap_new (w.alloc (.cells d.vals 105)) (.cells #[.bool false,.bool false,.bool false,.bool false,.bool false,.bool false] 233)
 rw [s0] at hn1
 have hd1:=(b1.block _ (by omega)).trans hn0
 obtain⟨W,eW⟩:∃ W,(w.alloc (.cells d.vals 105)).alloc (.cells #[.bool false,.bool false,.bool false,.bool false,.bool false,.bool false] 233)=W:=⟨_,rfl⟩
 have HBW:Hid (Below w§ w W):=by show Below _ _ _; rw [← eW]; exact below2 (below_new _ _) (below_new _ _)
 rw [eW] at hn1 hd1
 have HEW:Hid ((w.alloc (.cells d.vals 105)).alloc (.cells #[.bool false,.bool false,.bool false,.bool false,.bool false,.bool false] 233)=W):=eW
 have k0:W.cell? ⟨w§,0,none⟩=some (zU d.k):=cell_of hd1 0
 have k1:W.cell? ⟨w§,1,none⟩=some (zU d.o):=cell_of hd1 1
 have k2:W.cell? ⟨w§,2,none⟩=some (.string d.x):=cell_of hd1 2
 have HN1:Hid (W.heap[w§+1]? = some (.cells #[.bool false,.bool false,.bool false,.bool false,.bool false,.bool false] 233 (0,0))):=hn1
 have HF:Hid ((W.setRow (w§+1) #[.bool true,.bool b,.bool true,.bool true,.bool c,.bool false]).heap[w§+1]? = some (.cells #[.bool true,.bool b,.bool true,.bool true,.bool c,.bool false] 233 (0,0))∧Below w§ w (W.setRow (w§+1) #[.bool true,.bool b,.bool true,.bool true,.bool c,.bool false])):=⟨setRow_heap _ _ _ _ _ _ hn1,below_row HBW.out (by omega) _⟩
 clear hn0 b1 s0 hn1 hd1 eW
 rw [hk] at k0
 clear hk
 go_enter Tryz.func175,Tryz.ntmps175
 go_upto_region 1 with fail
 rw [HEW.out]
 clear HEW
 go_wp2_with (refine wpList_store_row rfl 233 (.tmp 2) (.tmp 13) rfl (w§+1) #[.bool true,.bool b,.bool true,.bool true,.bool c,.bool false] rfl rfl 233 #[.bool false,.bool false,.bool false,.bool false,.bool false,.bool false] HN1.out size372 rfl (by simp [Value.oneCell']) ?_)
 exact bodyPost_ret (results_cell_row rfl _ _ (w§+1) 233 #[.bool true,.bool b,.bool true,.bool true,.bool c,.bool false] (0,0) _ rfl HF.out.1 Tryz.underlying233 rfl size372) rfl ⟨rfl,HF.out.2⟩
set_option maxRecDepth 100000 in
theorem nb_amd (d:DoM) (w:World) (hk:d.k=2):Calls zG 175 #[.agg d.vals] w fun e w'=>e=.returned (.agg #[.bool false,.bool true,.bool false,.bool true,.bool true,.bool false])∧Below w§ w w':=by
 have hn0:=heap_new w (.cells d.vals 105)
 have b1:=below_new (w.alloc (.cells d.vals 105)) (.cells #[.bool false,.bool false,.bool false,.bool false,.bool false,.bool false] 233)
 have s0:=size_alloc w (.cells d.vals 105)
 have hn1:=heap_new (w.alloc (.cells d.vals 105)) (.cells #[.bool false,.bool false,.bool false,.bool false,.bool false,.bool false] 233)
 rw [s0] at hn1
 have hd1:=(b1.block _ (by omega)).trans hn0
 obtain⟨W,eW⟩:∃ W,(w.alloc (.cells d.vals 105)).alloc (.cells #[.bool false,.bool false,.bool false,.bool false,.bool false,.bool false] 233)=W:=⟨_,rfl⟩
 have HBW:Hid (Below w§ w W):=by show Below _ _ _; rw [← eW]; exact below2 (below_new _ _) (below_new _ _)
 rw [eW] at hn1 hd1
 have HEW:Hid ((w.alloc (.cells d.vals 105)).alloc (.cells #[.bool false,.bool false,.bool false,.bool false,.bool false,.bool false] 233)=W):=eW
 have k0:W.cell? ⟨w§,0,none⟩=some (zU d.k):=cell_of hd1 0
 have k1:W.cell? ⟨w§,1,none⟩=some (zU d.o):=cell_of hd1 1
 have k2:W.cell? ⟨w§,2,none⟩=some (.string d.x):=cell_of hd1 2
 have HN1:Hid (W.heap[w§+1]? = some (.cells #[.bool false,.bool false,.bool false,.bool false,.bool false,.bool false] 233 (0,0))):=hn1
 have HF:Hid ((W.setRow (w§+1) #[.bool false,.bool true,.bool false,.bool true,.bool true,.bool false]).heap[w§+1]? = some (.cells #[.bool false,.bool true,.bool false,.bool true,.bool true,.bool false] 233 (0,0))∧Below w§ w (W.setRow (w§+1) #[.bool false,.bool true,.bool false,.bool true,.bool true,.bool false])):=⟨setRow_heap _ _ _ _ _ _ hn1,below_row HBW.out (by omega) _⟩
 clear hn0 b1 s0 hn1 hd1 eW
 rw [hk] at k0
 clear hk
 go_enter Tryz.func175,Tryz.ntmps175
 go_upto_region 1 with fail
 rw [HEW.out]
 clear HEW
 go_wp2_with (refine wpList_store_row rfl 233 (.tmp 2) (.tmp 16) rfl (w§+1) #[.bool false,.bool true,.bool false,.bool true,.bool true,.bool false] rfl rfl 233 #[.bool false,.bool false,.bool false,.bool false,.bool false,.bool false] HN1.out size372 rfl (by simp [Value.oneCell']) ?_)
 exact bodyPost_ret (results_cell_row rfl _ _ (w§+1) 233 #[.bool false,.bool true,.bool false,.bool true,.bool true,.bool false] (0,0) _ rfl HF.out.1 Tryz.underlying233 rfl size372) rfl ⟨rfl,HF.out.2⟩
set_option maxRecDepth 100000 in
theorem nb_set (d:DoM) (w:World) (hk:d.k=4):Calls zG 175 #[.agg d.vals] w fun e w'=>e=.returned (.agg #[.bool false,.bool true,.bool false,.bool false,.bool false,.bool true])∧Below w§ w w':=by
 have hn0:=heap_new w (.cells d.vals 105)
 have b1:=below_new (w.alloc (.cells d.vals 105)) (.cells #[.bool false,.bool false,.bool false,.bool false,.bool false,.bool false] 233)
 have s0:=size_alloc w (.cells d.vals 105)
 have hn1:=heap_new (w.alloc (.cells d.vals 105)) (.cells #[.bool false,.bool false,.bool false,.bool false,.bool false,.bool false] 233)
 rw [s0] at hn1
 have hd1:=(b1.block _ (by omega)).trans hn0
 obtain⟨W,eW⟩:∃ W,(w.alloc (.cells d.vals 105)).alloc (.cells #[.bool false,.bool false,.bool false,.bool false,.bool false,.bool false] 233)=W:=⟨_,rfl⟩
 have HBW:Hid (Below w§ w W):=by show Below _ _ _; rw [← eW]; exact below2 (below_new _ _) (below_new _ _)
 rw [eW] at hn1 hd1
 have HEW:Hid ((w.alloc (.cells d.vals 105)).alloc (.cells #[.bool false,.bool false,.bool false,.bool false,.bool false,.bool false] 233)=W):=eW
 have k0:W.cell? ⟨w§,0,none⟩=some (zU d.k):=cell_of hd1 0
 have k1:W.cell? ⟨w§,1,none⟩=some (zU d.o):=cell_of hd1 1
 have k2:W.cell? ⟨w§,2,none⟩=some (.string d.x):=cell_of hd1 2
 have HN1:Hid (W.heap[w§+1]? = some (.cells #[.bool false,.bool false,.bool false,.bool false,.bool false,.bool false] 233 (0,0))):=hn1
 have HF:Hid ((W.setRow (w§+1) #[.bool false,.bool true,.bool false,.bool false,.bool false,.bool true]).heap[w§+1]? = some (.cells #[.bool false,.bool true,.bool false,.bool false,.bool false,.bool true] 233 (0,0))∧Below w§ w (W.setRow (w§+1) #[.bool false,.bool true,.bool false,.bool false,.bool false,.bool true])):=⟨setRow_heap _ _ _ _ _ _ hn1,below_row HBW.out (by omega) _⟩
 clear hn0 b1 s0 hn1 hd1 eW
 rw [hk] at k0
 clear hk
 go_enter Tryz.func175,Tryz.ntmps175
 go_upto_region 1 with fail
 rw [HEW.out]
 clear HEW
 go_wp2_with (refine wpList_store_row rfl 233 (.tmp 2) (.tmp 19) rfl (w§+1) #[.bool false,.bool true,.bool false,.bool false,.bool false,.bool true] rfl rfl 233 #[.bool false,.bool false,.bool false,.bool false,.bool false,.bool false] HN1.out size372 rfl (by simp [Value.oneCell']) ?_)
 exact bodyPost_ret (results_cell_row rfl _ _ (w§+1) 233 #[.bool false,.bool true,.bool false,.bool false,.bool false,.bool true] (0,0) _ rfl HF.out.1 Tryz.underlying233 rfl size372) rfl ⟨rfl,HF.out.2⟩
set_option maxRecDepth 100000 in
theorem nb_can (d:DoM) (w:World) (hk:d.k=3):Calls zG 175 #[.agg d.vals] w fun e w'=>e=.returned (.agg #[.bool false,.bool true,.bool false,.bool false,.bool false,.bool false])∧Below w§ w w':=by
 have hn0:=heap_new w (.cells d.vals 105)
 have b1:=below_new (w.alloc (.cells d.vals 105)) (.cells #[.bool false,.bool false,.bool false,.bool false,.bool false,.bool false] 233)
 have s0:=size_alloc w (.cells d.vals 105)
 have hn1:=heap_new (w.alloc (.cells d.vals 105)) (.cells #[.bool false,.bool false,.bool false,.bool false,.bool false,.bool false] 233)
 rw [s0] at hn1
 have hd1:=(b1.block _ (by omega)).trans hn0
 obtain⟨W,eW⟩:∃ W,(w.alloc (.cells d.vals 105)).alloc (.cells #[.bool false,.bool false,.bool false,.bool false,.bool false,.bool false] 233)=W:=⟨_,rfl⟩
 have HBW:Hid (Below w§ w W):=by show Below _ _ _; rw [← eW]; exact below2 (below_new _ _) (below_new _ _)
 rw [eW] at hn1 hd1
 have HEW:Hid ((w.alloc (.cells d.vals 105)).alloc (.cells #[.bool false,.bool false,.bool false,.bool false,.bool false,.bool false] 233)=W):=eW
 have k0:W.cell? ⟨w§,0,none⟩=some (zU d.k):=cell_of hd1 0
 have k1:W.cell? ⟨w§,1,none⟩=some (zU d.o):=cell_of hd1 1
 have k2:W.cell? ⟨w§,2,none⟩=some (.string d.x):=cell_of hd1 2
 have HN1:Hid (W.heap[w§+1]? = some (.cells #[.bool false,.bool false,.bool false,.bool false,.bool false,.bool false] 233 (0,0))):=hn1
 have HF:Hid ((W.setRow (w§+1) #[.bool false,.bool true,.bool false,.bool false,.bool false,.bool false]).heap[w§+1]? = some (.cells #[.bool false,.bool true,.bool false,.bool false,.bool false,.bool false] 233 (0,0))∧Below w§ w (W.setRow (w§+1) #[.bool false,.bool true,.bool false,.bool false,.bool false,.bool false])):=⟨setRow_heap _ _ _ _ _ _ hn1,below_row HBW.out (by omega) _⟩
 clear hn0 b1 s0 hn1 hd1 eW
 rw [hk] at k0
 clear hk
 go_enter Tryz.func175,Tryz.ntmps175
 go_upto_region 1 with fail
 rw [HEW.out]
 clear HEW
 go_wp2_with (refine wpList_store_row rfl 233 (.tmp 2) (.tmp 23) rfl (w§+1) #[.bool false,.bool true,.bool false,.bool false,.bool false,.bool false] rfl rfl 233 #[.bool false,.bool false,.bool false,.bool false,.bool false,.bool false] HN1.out size372 rfl (by simp [Value.oneCell']) ?_)
 exact bodyPost_ret (results_cell_row rfl _ _ (w§+1) 233 #[.bool false,.bool true,.bool false,.bool false,.bool false,.bool false] (0,0) _ rfl HF.out.1 Tryz.underlying233 rfl size372) rfl ⟨rfl,HF.out.2⟩
set_option maxRecDepth 100000 in
theorem nb_got (d:DoM) (w:World) (hk:d.k=5):Calls zG 175 #[.agg d.vals] w fun e w'=>e=.returned (.agg #[.bool false,.bool true,.bool false,.bool false,.bool false,.bool false])∧Below w§ w w':=by
 have hn0:=heap_new w (.cells d.vals 105)
 have b1:=below_new (w.alloc (.cells d.vals 105)) (.cells #[.bool false,.bool false,.bool false,.bool false,.bool false,.bool false] 233)
 have s0:=size_alloc w (.cells d.vals 105)
 have hn1:=heap_new (w.alloc (.cells d.vals 105)) (.cells #[.bool false,.bool false,.bool false,.bool false,.bool false,.bool false] 233)
 rw [s0] at hn1
 have hd1:=(b1.block _ (by omega)).trans hn0
 obtain⟨W,eW⟩:∃ W,(w.alloc (.cells d.vals 105)).alloc (.cells #[.bool false,.bool false,.bool false,.bool false,.bool false,.bool false] 233)=W:=⟨_,rfl⟩
 have HBW:Hid (Below w§ w W):=by show Below _ _ _; rw [← eW]; exact below2 (below_new _ _) (below_new _ _)
 rw [eW] at hn1 hd1
 have HEW:Hid ((w.alloc (.cells d.vals 105)).alloc (.cells #[.bool false,.bool false,.bool false,.bool false,.bool false,.bool false] 233)=W):=eW
 have k0:W.cell? ⟨w§,0,none⟩=some (zU d.k):=cell_of hd1 0
 have k1:W.cell? ⟨w§,1,none⟩=some (zU d.o):=cell_of hd1 1
 have k2:W.cell? ⟨w§,2,none⟩=some (.string d.x):=cell_of hd1 2
 have HN1:Hid (W.heap[w§+1]? = some (.cells #[.bool false,.bool false,.bool false,.bool false,.bool false,.bool false] 233 (0,0))):=hn1
 have HF:Hid ((W.setRow (w§+1) #[.bool false,.bool true,.bool false,.bool false,.bool false,.bool false]).heap[w§+1]? = some (.cells #[.bool false,.bool true,.bool false,.bool false,.bool false,.bool false] 233 (0,0))∧Below w§ w (W.setRow (w§+1) #[.bool false,.bool true,.bool false,.bool false,.bool false,.bool false])):=⟨setRow_heap _ _ _ _ _ _ hn1,below_row HBW.out (by omega) _⟩
 clear hn0 b1 s0 hn1 hd1 eW
 rw [hk] at k0
 clear hk
 go_enter Tryz.func175,Tryz.ntmps175
 go_upto_region 1 with fail
 rw [HEW.out]
 clear HEW
 go_wp2_with (refine wpList_store_row rfl 233 (.tmp 2) (.tmp 23) rfl (w§+1) #[.bool false,.bool true,.bool false,.bool false,.bool false,.bool false] rfl rfl 233 #[.bool false,.bool false,.bool false,.bool false,.bool false,.bool false] HN1.out size372 rfl (by simp [Value.oneCell']) ?_)
 exact bodyPost_ret (results_cell_row rfl _ _ (w§+1) 233 #[.bool false,.bool true,.bool false,.bool false,.bool false,.bool false] (0,0) _ rfl HF.out.1 Tryz.underlying233 rfl size372) rfl ⟨rfl,HF.out.2⟩
set_option maxRecDepth 100000 in
theorem nb_not (d:DoM) (w:World) (h1:¬ d.k=1) (h2:¬ d.k=2) (h3:¬ d.k=3) (h4:¬ d.k=4) (h5:¬ d.k=5):Calls zG 175 #[.agg d.vals] w fun e w'=>e=.returned (.agg #[.bool false,.bool false,.bool false,.bool false,.bool false,.bool false])∧Below w§ w w':=by
 have hn0:=heap_new w (.cells d.vals 105)
 have b1:=below_new (w.alloc (.cells d.vals 105)) (.cells #[.bool false,.bool false,.bool false,.bool false,.bool false,.bool false] 233)
 have s0:=size_alloc w (.cells d.vals 105)
 have hn1:=heap_new (w.alloc (.cells d.vals 105)) (.cells #[.bool false,.bool false,.bool false,.bool false,.bool false,.bool false] 233)
 rw [s0] at hn1
 have hd1:=(b1.block _ (by omega)).trans hn0
 obtain⟨W,eW⟩:∃ W,(w.alloc (.cells d.vals 105)).alloc (.cells #[.bool false,.bool false,.bool false,.bool false,.bool false,.bool false] 233)=W:=⟨_,rfl⟩
 have HBW:Hid (Below w§ w W):=by show Below _ _ _; rw [← eW]; exact below2 (below_new _ _) (below_new _ _)
 rw [eW] at hn1 hd1
 have HEW:Hid ((w.alloc (.cells d.vals 105)).alloc (.cells #[.bool false,.bool false,.bool false,.bool false,.bool false,.bool false] 233)=W):=eW
 have k0:W.cell? ⟨w§,0,none⟩=some (zU d.k):=cell_of hd1 0
 have k1:W.cell? ⟨w§,1,none⟩=some (zU d.o):=cell_of hd1 1
 have k2:W.cell? ⟨w§,2,none⟩=some (.string d.x):=cell_of hd1 2
 have HN1:Hid (W.heap[w§+1]? = some (.cells #[.bool false,.bool false,.bool false,.bool false,.bool false,.bool false] 233 (0,0))):=hn1
 have HF:Hid ((W.setRow (w§+1) #[.bool false,.bool false,.bool false,.bool false,.bool false,.bool false]).heap[w§+1]? = some (.cells #[.bool false,.bool false,.bool false,.bool false,.bool false,.bool false] 233 (0,0))∧Below w§ w (W.setRow (w§+1) #[.bool false,.bool false,.bool false,.bool false,.bool false,.bool false])):=⟨setRow_heap _ _ _ _ _ _ hn1,below_row HBW.out (by omega) _⟩
 clear hn0 b1 s0 hn1 hd1 eW
 obtain⟨kk,ek⟩:∃ q,d.k=q:=⟨_,rfl⟩
 rw [ek] at k0 h1 h2 h3 h4 h5
 have g1:(kk == 1)=false:=by simpa using h1
 have g2:(kk == 2)=false:=by simpa using h2
 have g3:(kk == 3)=false:=by simpa using h3
 have g4:(kk == 4)=false:=by simpa using h4
 have g5:(kk == 5)=false:=by simpa using h5
 clear ek h1 h2 h3 h4 h5
 go_enter Tryz.func175,Tryz.ntmps175
 go_upto_region 1 with fail
 rw [HEW.out]
 clear HEW
 go_wp2_with (refine wpList_store_row rfl 233 (.tmp 2) (.tmp 24) rfl (w§+1) #[.bool false,.bool false,.bool false,.bool false,.bool false,.bool false] rfl rfl 233 #[.bool false,.bool false,.bool false,.bool false,.bool false,.bool false] HN1.out size372 rfl (by simp [Value.oneCell']) ?_)
 exact bodyPost_ret (results_cell_row rfl _ _ (w§+1) 233 #[.bool false,.bool false,.bool false,.bool false,.bool false,.bool false] (0,0) _ rfl HF.out.1 Tryz.underlying233 rfl size372) rfl ⟨rfl,HF.out.2⟩
def partE (m:Nd) (is:Bool):Int:=if is=true then cE m else okE (sameB m nd0T)
set_option maxRecDepth 100000 in
theorem part_gives (m:Nd) (is:Bool) (w:World) (hl:Lies w m) (hz:size m≤1000000000000) (ht:Tab w):Gives 177 #[.agg m.vals,.bool is] w (partE m is):=by
 have hb0:=below_new w (.cells m.vals 48)
 have HN0:Hid ((w.alloc (.cells m.vals 48)).heap[w§]? = some (.cells m.vals 48 (0,0))):=heap_new w _
 have HB0:Hid (Below w§ w (w.alloc (.cells m.vals 48))):=hb0
 cases is with
 | true =>
  have c1:=(needExpr_any m (w.alloc (.cells m.vals 48)) (hl.on hb0) hz (ht.on hb0)).two
  have hE:partE m true=cE m:=if_pos rfl
  rw [hE]
  unfold Gives
  clear hl ht hb0 hE hz
  rcases c1 with ⟨h1,c1⟩ | ⟨h1,c1⟩
  ·go_enter Tryz.func177,Tryz.ntmps177
   go_wp2_with (refine wpList_load_row rfl 48 (.tmp 2) rfl w§ rfl 48 m.vals (0,0) _ HN0.out Tryz.underlying48 rfl size64' ?_)
   refine c1.mono ?_
   rintro e w1 ⟨rfl,hb⟩
   have HB1:Hid (Below w§ w w1):=below2 HB0.out hb
   clear c1 hb
   go_wp2_with fail
   exact bodyPost_ret (results_none rfl _ _ _) rfl ⟨.inl ⟨h1,rfl⟩,HB1.out⟩
  ·go_enter Tryz.func177,Tryz.ntmps177
   go_wp2_with (refine wpList_load_row rfl 48 (.tmp 2) rfl w§ rfl 48 m.vals (0,0) _ HN0.out Tryz.underlying48 rfl size64' ?_)
   refine c1.mono ?_
   rintro e w1 ⟨rfl,hb⟩
   exact⟨rfl,.inr ⟨h1,rfl⟩,below2 HB0.out hb⟩
 | false =>
  have c1:Calls zG 191 #[.agg m.vals,.agg zNo] (w.alloc (.cells m.vals 48)) fun e w'=>e=.returned (.bool (sameB m nd0T))∧Below (w.alloc (.cells m.vals 48))§ (w.alloc (.cells m.vals 48)) w':=same_any m nd0T _ (hl.on hb0) (lies0T _)
  obtain⟨B,eB⟩:∃ B,sameB m nd0T=B:=⟨_,rfl⟩
  have hE:partE m false=okE B:=by unfold partE; rw [if_neg (by decide),eB]
  rw [hE]
  rw [eB] at c1
  unfold Gives
  clear hl ht hb0 hE hz eB
  go_enter Tryz.func177,Tryz.ntmps177
  go_wp2_with (refine wpList_load_row rfl 48 (.tmp 2) rfl w§ rfl 48 m.vals (0,0) _ HN0.out Tryz.underlying48 rfl size64' ?_)
  refine c1.mono ?_
  rintro e w1 ⟨rfl,hb⟩
  have HB1:Hid (Below w§ w w1):=below2 HB0.out hb
  have c2:=(need_gives B w1).two
  clear c1 hb
  rcases c2 with ⟨h1,c2⟩ | ⟨h1,c2⟩
  ·go_wp2_with fail
   refine c2.mono ?_
   rintro e w2 ⟨rfl,hb⟩
   have HB2:Hid (Below w§ w w2):=below2 HB1.out hb
   clear c2 hb
   go_wp2_with fail
   go_end0
   exact⟨.inl ⟨h1,rfl⟩,HB2.out⟩
  ·go_wp2_with fail
   refine c2.mono ?_
   rintro e w2 ⟨rfl,hb⟩
   exact⟨rfl,.inr ⟨h1,rfl⟩,below2 HB1.out hb⟩
end Go.Proofs.YtoogodlnnijikaaGreatDoor
