import Derived.Test.YtoogodlnnijikaaGreatDoorA0
import Derived.Test.YtoogodlnnijikaaGreatDoorA11
import Derived.Test.YtoogodlnnijikaaGreatDoorA10
namespace Go.Proofs.YtoogodlnnijikaaGreatDoor
open Go.RowKit
set_option linter.unusedVariables false
set_option linter.unusedSimpArgs false
def kwB (x:ByteArray):Bool:=decide ((lx x.data.toList).map (·.1)=some 1∨(lx x.data.toList).map (·.1)=some 4)
theorem sls_new (w:World) (L:List ByteArray):SLs (w.alloc (.cells (L.map .string).toArray 9)) w§ L:=fun j hj=>by
 rw [cell_of (heap_new w _) j]
 simp [hj]
theorem any_y {w:World}{b:Nat}{K:PK}{t:Tk}{ts:List Tk}(h:Lv w b K (t :: ts)) (hK:KG K) (L:List ByteArray) {n:Nat}(hn:L.length=n) (hm:n≤1000) (hL:L.all kwB=true) :
  Calls zG 92 #[zP b,.slice (some ⟨w§,0,none⟩) n n] (w.alloc (.cells (L.map .string).toArray 9)) fun e w'=>e=.returned (zI (fnd t.x L 0))∧Below w§ w w':=by
 subst hn
 have hb:=below_new w (.cells (L.map .string).toArray 9)
 refine (any_live (h.on hb) (sls_new w L) hm (fun x hx=>kw_gd (h.gd hK) ?_)).mono ?_
 ·have:=List.all_eq_true.1 hL x hx
  exact of_decide_eq_true this
 ·rintro e w' ⟨h1,h2⟩
  exact⟨h1,below2 hb h2⟩
theorem HX.b0 {w:World}{b:Nat}{K:PK}{V:World}{N T:Nat}{cs:Array Value}{bs:List (Nat × Nat × Array Value)}{e sz:Nat}{v:Value}{vs:List (Array Value)}{F:World→Prop}{ts:List Tk}(h:HX w b K V ((N,T,cs) :: bs) e sz v vs F ts):V.heap[N]? = some (.cells cs T (0,0)):=(h.B _ List.mem_cons_self).1
theorem HX.b1 {w:World}{b:Nat}{K:PK}{V:World}{N T:Nat}{cs:Array Value}{q:Nat × Nat × Array Value}{bs:List (Nat × Nat × Array Value)}{e sz:Nat}{v:Value}{vs:List (Array Value)}{F:World→Prop}{ts:List Tk}(h:HX w b K V (q :: (N,T,cs) :: bs) e sz v vs F ts):V.heap[N]? = some (.cells cs T (0,0)):=(h.B _ (List.mem_cons_of_mem _ List.mem_cons_self)).1
theorem HX.b2 {w:World}{b:Nat}{K:PK}{V:World}{N T:Nat}{cs:Array Value}{q r:Nat × Nat × Array Value}{bs:List (Nat × Nat × Array Value)}{e sz:Nat}{v:Value}{vs:List (Array Value)}{F:World→Prop}{ts:List Tk}(h:HX w b K V (q :: r :: (N,T,cs) :: bs) e sz v vs F ts):V.heap[N]? = some (.cells cs T (0,0)):=(h.B _ (List.mem_cons_of_mem _ (List.mem_cons_of_mem _ List.mem_cons_self))).1
theorem lies_leaf (U:World) {h:Hd}(hr:Rg h):Lies U (.mk h none 0 []):=.mk h none 0 [] hr (by simp) (by omega) (fun i hi=>by simp at hi) (fun k hk=>by simp at hk)
theorem size64':(Tryz.prog.info? 48).map (·.size)=some 8:=by kernel_rfl
set_option maxRecDepth 100000 in
set_option maxHeartbeats 4000000 in
theorem lit_num {w:World}{b:Nat}{K:PK}{t:Tk}{ts:List Tk}(h:Lv w b K (t :: ts)) (hk:t.k=3) :
  Calls zG 93 #[zP b] w fun e w'=>e=.returned (.tuple #[.agg #[zU 1,zU 0,zU t.ty,zI t.n,zU 0,.string ⟨#[]⟩,.slice none 0 0,zI t.p],.bool true])∧Lv w' b K ts∧Mv w w' (fun k=>k=b):=by
 have HG0:=((HX.new h 0 0).push zNo 48).hid
 obtain⟨W0,eW0⟩:∃ W,w.alloc (.cells zNo 48)=W:=⟨_,rfl⟩
 rw [eW0] at HG0
 have hbw:=h.lt
 have cN:=live_now HG0.out.S
 unfold tkA at cN
 rw [hk] at cN
 clear h hk
 go_enter Tryz.func93,Tryz.ntmps93
 go_wp2_with fail
 try rw [eW0]
 refine cN.mono ?_
 rintro e w1 ⟨rfl,hb⟩
 have HG1:=(((HG0.out.on hb).push #[zU 3,.string t.x,zU t.ty,zI t.n,zI t.p] 148).push #[zU 1,zU 0,zU 0,zI 0,zU 0,.string ⟨#[]⟩,.slice none 0 0,zI t.p] 48).hid
 have hlw:=hb.size
 rw [← eW0,size_alloc] at hlw
 clear cN hb HG0 eW0
 rw [size_alloc] at HG1
 go_upto_region 4 with fail
 obtain⟨V,eV⟩:∃ V,(w1.alloc (.cells #[zU 3,.string t.x,zU t.ty,zI t.n,zI t.p] 148)).alloc (.cells #[zU 1,zU 0,zU 0,zI 0,zU 0,.string ⟨#[]⟩,.slice none 0 0,zI t.p] 48)=V:=⟨_,rfl⟩
 rw [eV] at HG1 ⊢
 clear eV
 obtain⟨Q,eQ⟩:∃ Q,w1§=Q:=⟨_,rfl⟩
 rw [eQ] at HG1 hlw ⊢
 clear eQ
 obtain⟨N,eN⟩:∃ N,Q+1=N:=⟨_,rfl⟩
 rw [eN] at HG1 ⊢
 have nQ:¬ Q=N:=by omega
 have nB:¬ b=N:=by omega
 have HG3:=(HX.setA (pre:=[]) (HX.setA (pre:=[]) HG1.out 2 (zU t.ty)) 3 (zI t.n)).hid
 have hT:=HG1.out.b1
 have hN:=HG1.out.b0
 have k0:=cell_of hT 0
 have k1:=cell_of hT 1
 have k2:=cell_of hT 2
 have k3:=cell_of hT 3
 have m2:=cell_of hN 2
 have f2:=frozen_of hN 2
 have m3:=cell_of hN 3
 have f3:=frozen_of hN 3
 simp only [List.getElem?_toArray,List.getElem?_cons_zero,List.getElem?_cons_succ] at k0 k1 k2 k3 m2 m3
 clear hT hN HG1 eN
 go_upto_region 16 with fail
 obtain⟨Y,eY⟩:∃ Y,(V.setCell ⟨N,2,none⟩ (zU t.ty)).setCell ⟨N,3,none⟩ (zI t.n)=Y:=⟨_,rfl⟩
 rw [eY] at HG3 ⊢
 clear eY k0 k1 k2 k3 m2 f2 m3 f3
 obtain⟨i,c3,g3,hmx,hL,hM,_,_⟩:=HG3.out.S.at'
 have HG4:=(HG3.out.mv hM hL).hid
 clear hL hM
 go_upto_region 17 with fail
 generalize Y.setCell ⟨b,3,none⟩ _=Z at HG4 ⊢
 have HC:Hid (Z.heap[N]? = some (.cells #[zU 1,zU 0,zU t.ty,zI t.n,zU 0,.string ⟨#[]⟩,.slice none 0 0,zI t.p] 48 (0,0))):=HG4.out.b0
 have HO:Hid (Z.heap[w§]? = some (.cells zNo 48 (0,0))):=HG4.out.b2
 have HF:=(HX.rowA (pre:=[_,_]) HG4.out #[zU 1,zU 0,zU t.ty,zI t.n,zU 0,.string ⟨#[]⟩,.slice none 0 0,zI t.p]).hid
 clear c3 g3 hmx HG3 HG4
 go_wp2_with (first | (refine wpList_load_row rfl 48 (.tmp 5) rfl N rfl 48 #[zU 1,zU 0,zU t.ty,zI t.n,zU 0,.string ⟨#[]⟩,.slice none 0 0,zI t.p] (0,0) _ HC.out Tryz.underlying48 rfl size64' ?_) | (refine wpList_store_row rfl 48 (.tmp 2) (.tmp 68) rfl w§ #[zU 1,zU 0,zU t.ty,zI t.n,zU 0,.string ⟨#[]⟩,.slice none 0 0,zI t.p] rfl rfl 48 _ HO.out size64' rfl (by simp [Value.oneCell']) ?_))
 exact bodyPost_ret (results_two (p:=2) (u:=3) (ty:=48) rfl _ _ w§ 48 #[zU 1,zU 0,zU t.ty,zI t.n,zU 0,.string ⟨#[]⟩,.slice none 0 0,zI t.p] (0,0) _ rfl HF.out.b2 Tryz.underlying48 rfl size64') rfl ⟨rfl,HF.out.S,HF.out.M⟩
set_option maxRecDepth 100000 in
set_option maxHeartbeats 4000000 in
theorem lit_true {w:World}{b:Nat}{K:PK}{t:Tk}{ts:List Tk}(h:Lv w b K (t :: ts)) (hk:t.k=1) (hx:t.x=Zh) :
  Calls zG 93 #[zP b] w fun e w'=>e=.returned (.tuple #[.agg #[zU 1,zU 0,zU 5,zI 1,zU 0,.string ⟨#[]⟩,.slice none 0 0,zI t.p],.bool true])∧Lv w' b K ts∧Mv w w' (fun k=>k=b):=by
 have HG0:=((HX.new h 0 0).push zNo 48).hid
 obtain⟨W0,eW0⟩:∃ W,w.alloc (.cells zNo 48)=W:=⟨_,rfl⟩
 rw [eW0] at HG0
 have hbw:=h.lt
 have cN:=live_now HG0.out.S
 unfold tkA at cN
 rw [hk,hx] at cN
 clear h hk hx
 go_enter Tryz.func93,Tryz.ntmps93
 go_wp2_with fail
 try rw [eW0]
 refine cN.mono ?_
 rintro e w1 ⟨rfl,hb⟩
 have HG1:=(((HG0.out.on hb).push #[zU 1,.string Zh,zU t.ty,zI t.n,zI t.p] 148).push #[zU 1,zU 0,zU 0,zI 0,zU 0,.string ⟨#[]⟩,.slice none 0 0,zI t.p] 48).hid
 have hlw:=hb.size
 rw [← eW0,size_alloc] at hlw
 clear cN hb HG0 eW0
 rw [size_alloc] at HG1
 go_upto_region 4 with fail
 obtain⟨V,eV⟩:∃ V,(w1.alloc (.cells #[zU 1,.string Zh,zU t.ty,zI t.n,zI t.p] 148)).alloc (.cells #[zU 1,zU 0,zU 0,zI 0,zU 0,.string ⟨#[]⟩,.slice none 0 0,zI t.p] 48)=V:=⟨_,rfl⟩
 rw [eV] at HG1 ⊢
 clear eV
 obtain⟨Q,eQ⟩:∃ Q,w1§=Q:=⟨_,rfl⟩
 rw [eQ] at HG1 hlw ⊢
 clear eQ
 obtain⟨N,eN⟩:∃ N,Q+1=N:=⟨_,rfl⟩
 rw [eN] at HG1 ⊢
 have nQ:¬ Q=N:=by omega
 have nB:¬ b=N:=by omega
 have HG3:=(HX.setA (pre:=[]) (HX.setA (pre:=[]) HG1.out 2 (zU 5)) 3 (zI 1)).hid
 have hT:=HG1.out.b1
 have hN:=HG1.out.b0
 have k0:=cell_of hT 0
 have k1:=cell_of hT 1
 have k2:=cell_of hT 2
 have k3:=cell_of hT 3
 have m2:=cell_of hN 2
 have f2:=frozen_of hN 2
 have m3:=cell_of hN 3
 have f3:=frozen_of hN 3
 simp only [List.getElem?_toArray,List.getElem?_cons_zero,List.getElem?_cons_succ] at k0 k1 k2 k3 m2 m3
 clear hT hN HG1 eN
 go_upto_region 16 with fail
 obtain⟨Y,eY⟩:∃ Y,(V.setCell ⟨N,2,none⟩ (zU 5)).setCell ⟨N,3,none⟩ (zI 1)=Y:=⟨_,rfl⟩
 rw [eY] at HG3 ⊢
 clear eY k0 k1 k2 k3 m2 f2 m3 f3
 obtain⟨i,c3,g3,hmx,hL,hM,_,_⟩:=HG3.out.S.at'
 have HG4:=(HG3.out.mv hM hL).hid
 clear hL hM
 go_upto_region 17 with fail
 generalize Y.setCell ⟨b,3,none⟩ _=Z at HG4 ⊢
 have HC:Hid (Z.heap[N]? = some (.cells #[zU 1,zU 0,zU 5,zI 1,zU 0,.string ⟨#[]⟩,.slice none 0 0,zI t.p] 48 (0,0))):=HG4.out.b0
 have HO:Hid (Z.heap[w§]? = some (.cells zNo 48 (0,0))):=HG4.out.b2
 have HF:=(HX.rowA (pre:=[_,_]) HG4.out #[zU 1,zU 0,zU 5,zI 1,zU 0,.string ⟨#[]⟩,.slice none 0 0,zI t.p]).hid
 clear c3 g3 hmx HG3 HG4
 go_wp2_with (first | (refine wpList_load_row rfl 48 (.tmp 5) rfl N rfl 48 #[zU 1,zU 0,zU 5,zI 1,zU 0,.string ⟨#[]⟩,.slice none 0 0,zI t.p] (0,0) _ HC.out Tryz.underlying48 rfl size64' ?_) | (refine wpList_store_row rfl 48 (.tmp 2) (.tmp 68) rfl w§ #[zU 1,zU 0,zU 5,zI 1,zU 0,.string ⟨#[]⟩,.slice none 0 0,zI t.p] rfl rfl 48 _ HO.out size64' rfl (by simp [Value.oneCell']) ?_))
 exact bodyPost_ret (results_two (p:=2) (u:=3) (ty:=48) rfl _ _ w§ 48 #[zU 1,zU 0,zU 5,zI 1,zU 0,.string ⟨#[]⟩,.slice none 0 0,zI t.p] (0,0) _ rfl HF.out.b2 Tryz.underlying48 rfl size64') rfl ⟨rfl,HF.out.S,HF.out.M⟩
theorem RgT.num {t:Tk}(h:RgT t):Rg ⟨1,0,t.ty,t.n,0,gE,t.p⟩:=by
 have:=h.y0; have:=h.y1; have:=h.n0; have:=h.n1; have:=h.p0; have:=h.p1
 constructor <;> first | assumption | omega | (simp only; omega) | (show gE.size≤140737488355328; decide)
theorem RgT.tru {t:Tk}(h:RgT t):Rg ⟨1,0,5,1,0,gE,t.p⟩:=by
 have:=h.p0; have:=h.p1
 constructor <;> first | assumption | omega | (simp only; omega) | (show gE.size≤140737488355328; decide)
theorem lit_y {w:World}{b:Nat}{K:PK}{t:Tk}{ts ts':List Tk}{r:Tr}(hK:KG K) (h:Lv w b K (t :: ts)) (hp:pLit (t :: ts)=some (r,ts')) :
  Calls zG 93 #[zP b] w fun e w'=>∃ m:Nd,e=.returned (.tuple #[.agg m.vals,.bool true])∧treeOf m=r∧(∀ U,Lies U m)∧Lv w' b K ts'∧Mv w w' (fun k=>k=b):=by
 have hr:=(h.ok hK.k).r
 simp only [pLit] at hp
 by_cases h3:t.k=3
 ·rw [if_pos h3] at hp
  cases hp
  refine (lit_num h h3).mono ?_
  rintro e w' ⟨rfl,h1,h2⟩
  exact⟨.mk ⟨1,0,t.ty,t.n,0,gE,t.p⟩ none 0 [],rfl,rfl,fun U=>lies_leaf U hr.num,h1,h2⟩
 ·rw [if_neg h3] at hp
  by_cases h1:t.k=1∧t.x=Zh
  ·rw [if_pos h1] at hp
   cases hp
   refine (lit_true h h1.1 h1.2).mono ?_
   rintro e w' ⟨rfl,h1,h2⟩
   exact⟨.mk ⟨1,0,5,1,0,gE,t.p⟩ none 0 [],rfl,rfl,fun U=>lies_leaf U hr.tru,h1,h2⟩
  ·rw [if_neg h1] at hp
   cases hp
theorem inf102:(Tryz.prog.info? 65).map (fun i=>(i.zero,i.size,i.bytes))=some (some (.agg #[.string ⟨#[]⟩,zI 0]),2,24):=by kernel_rfl
theorem inf110:(Tryz.prog.info? 105).map (fun i=>(i.zero,i.size,i.bytes))=some (some (.agg #[zU 0,zU 0,.string ⟨#[]⟩,zU 0,zU 0,zU 0,zI 0,zU 0,.string ⟨#[]⟩,.slice none 0 0,zI 0,zU 0,zU 0,zU 0,zI 0,zU 0,.string ⟨#[]⟩,.slice none 0 0,zI 0,zU 0,zU 0,zU 0,zI 0,zU 0,.string ⟨#[]⟩,.slice none 0 0,zI 0,zU 0,zU 0,zU 0,zI 0,zU 0,.string ⟨#[]⟩,.slice none 0 0,zI 0,zI 0]),36,320):=by kernel_rfl
def Cl (V:World) (N i:Nat) (v:Value):Prop:=∃ (cs:Array Value) (T:Nat),V.heap[N]? = some (.cells cs T (0,0))∧cs[i]? = some v
theorem Cl.hid {V:World}{N i:Nat}{v:Value}(h:Cl V N i v):Hid (Cl V N i v):=h
theorem Cl.blk {V V':World}{N i:Nat}{v:Value}(h:Cl V N i v) (k:V'.heap[N]? = V.heap[N]?):Cl V' N i v:=by
 obtain⟨cs,T,h1,h2⟩:=h
 exact⟨cs,T,k.trans h1,h2⟩
theorem Cl.lt {V:World}{N i:Nat}{v:Value}(h:Cl V N i v):N < V§:=by
 obtain⟨cs,T,h1,h2⟩:=h
 exact (Array.getElem?_eq_some_iff.1 h1).1
theorem Cl.cell {V:World}{N i:Nat}{v:Value}(h:Cl V N i v):V.cell? ⟨N,i,none⟩=some v:=by
 obtain⟨cs,T,h1,h2⟩:=h
 rw [cell_of h1 i]; exact h2
theorem Cl.mv {V V':World}{N i b:Nat}{v:Value}(h:Cl V N i v) (hm:Mv V V' (fun k=>k=b)) (hb:b≠N):Cl V' N i v:=h.blk (hm.block _ h.lt (fun e=>hb e.symm))
theorem Cl.on {V V':World}{N i:Nat}{v:Value}(h:Cl V N i v) (k:Below V§ V V'):Cl V' N i v:=h.blk (k.block _ h.lt)
def clen (N i:Nat) (w:World):Nat:=slen ((w.cell? ⟨N,i,none⟩).getD (.bool false))
theorem Cl.clen {V:World}{N i:Nat}{a:Option Addr}{n c:Nat}(h:Cl V N i (.slice a n c)):clen N i V=n:=by
 unfold Go.Proofs.YtoogodlnnijikaaGreatDoor.clen
 rw [h.cell]
 rfl
theorem inf106:(Tryz.prog.info? 92).map (fun i=>(i.zero,i.size,i.bytes))=some (some (.agg #[zU 0,zU 0,zU 0,zI 0,zU 0,.string ⟨#[]⟩,.slice none 0 0,zI 0,.slice none 0 0,zI 0]),10,104):=by kernel_rfl
theorem inf100:(Tryz.prog.info? 62).map (fun i=>(i.zero,i.size,i.bytes))=some (some (.agg #[.string ⟨#[]⟩,zU 0,zU 0,zU 0,zU 0,zI 0,zU 0,.string ⟨#[]⟩,.slice none 0 0,zI 0,zI 0]),11,104):=by kernel_rfl
theorem inf87:(Tryz.prog.info? 68).map (fun i=>(i.zero,i.size,i.bytes))=some (some (.agg #[.string ⟨#[]⟩,.slice none 0 0,zI 0]),3,48):=by kernel_rfl
theorem size50:(Tryz.prog.info? 30).map (·.size)=some 3:=by kernel_rfl
theorem below_row {w V:World}(h:Below w§ w V) {R:Nat}(hR:w§≤R) (cs:Array Value):Below w§ w (V.setRow R cs):=by
 have m:Mv w V (fun _=>False):=Mv.ofBelow h
 have hsz:(V.setRow R cs)§=V§:=by unfold World.setRow; simp
 have m2:Mv w (V.setRow R cs) (fun _=>False):=⟨m.os,m.tape,m.output,by rw [hsz]; exact m.size,fun k hk hn'=>by
  rw [setRow_oth _ _ _ (show k≠R by omega)]
  exact m.block k hk hn'⟩
 exact m2.below (Nat.le_refl _) (fun _ e=>e.elim)
structure XS (w:World) (Z:Array Value) (T:Nat) (V:World):Prop where
 B:Below w§ w V
 z:V.heap[w§]? = some (.cells Z T (0,0))
 f:V.heap[w§+1]? = some (.cells #[zI 0,zI 0,.bool false] 30 (0,0))
theorem XS.hid {w V:World}{Z:Array Value}{T:Nat}(h:XS w Z T V):Hid (XS w Z T V):=h
theorem XS.new (w:World) (Z:Array Value) (T:Nat):XS w Z T ((w.alloc (.cells Z T)).alloc (.cells #[zI 0,zI 0,.bool false] 30)):=by
 have b1:=below_new w (.cells Z T)
 have b2:=below_new (w.alloc (.cells Z T)) (.cells #[zI 0,zI 0,.bool false] 30)
 have n2:=heap_new (w.alloc (.cells Z T)) (.cells #[zI 0,zI 0,.bool false] 30)
 have s1:=size_alloc w (.cells Z T)
 rw [s1] at n2
 exact⟨below2 b1 b2,(b2.block _ (by omega)).trans (heap_new w (.cells Z T)),n2⟩
theorem XS.mv {w V V':World}{Z:Array Value}{T:Nat}(h:XS w Z T V) {F:Nat→Prop}(m:Mv V V' F) (hF:∀ k,F k→w§+1 < k):XS w Z T V':=by
 have hz:=(Array.getElem?_eq_some_iff.1 h.z).1
 have hf:=(Array.getElem?_eq_some_iff.1 h.f).1
 have hs:=h.B.size
 refine⟨?_,(m.block _ hz (fun e=>by have:=hF _ e; omega)).trans h.z,(m.block _ hf (fun e=>by have:=hF _ e; omega)).trans h.f⟩
 have m1:Mv w V (fun k=>w§+1 < k):=Mv.ofBelow h.B
 exact (m1.trans m (fun k e=>.inl (hF k e))).below (Nat.le_refl _) (fun k e=>by omega)
theorem XS.on {w V V':World}{Z:Array Value}{T:Nat}(h:XS w Z T V) (k:Below V§ V V'):XS w Z T V':=h.mv (F:=fun _=>False) (Mv.ofBelow k) (fun _ e=>e.elim)
theorem results_cc {P:Program}{fn:Func}{p u:Tmp}{ty ty2:TypeId}(h:fn.results=#[.cell p ty,.cell u ty2]) (tmps:Array Value) (w:World) (g g2:Nat) (t t2:TypeId) (cs cs2:Array Value) (fr fr2:Nat × Nat) (d d2:TypeDesc)
  (hp:tmps.getD p undef=zP g) (hg:w.heap[g]? = some (.cells cs t fr))
  (hu:P.underlying ty=some d) (hd:(match d with | .struct _ | .array _ _=>true | _=>false)=true) (hi:(P.info? ty).map (·.size)=some cs.size)
  (hp2:tmps.getD u undef=zP g2) (hg2:w.heap[g2]? = some (.cells cs2 t2 fr2))
  (hu2:P.underlying ty2=some d2) (hd2:(match d2 with | .struct _ | .array _ _=>true | _=>false)=true) (hi2:(P.info? ty2).map (·.size)=some cs2.size) :
  (results fn tmps).run P w=.ok (.tuple #[.agg cs,.agg cs2]) w:=by
 have hp':tmps[p]?.getD undef=zP g:=by simpa using hp
 have hp2':tmps[u]?.getD undef=zP g2:=by simpa using hp2
 simp [results,h,hp',hp2',asAddr,run_loadVar_row w g t ty cs fr d hg hu hd hi,run_loadVar_row w g2 t2 ty2 cs2 fr2 d2 hg2 hu2 hd2 hi2]
theorem all8 (m:Nd):m.vals.all (·.oneCell')=true:=by simp [Nd.vals,hdA,Value.oneCell']
def OutL {α β:Type}(vals:α→Array Value) (tr:α→β) (L:World→α→Prop) (b:Nat) (K:PK) (w:World) (r:β) (ts:List Tk) (e:Ending) (w':World):Prop :=
 ∃ m:α,e=.returned (.agg (vals m))∧tr m=r∧Dp w w' (fun U=>L U m)∧Lv w' b K ts∧Mv w w' (fun k=>k=b)
def OutE (b:Nat) (K:PK) (w:World) (r:Tr) (ts:List Tk):Ending→World→Prop:=OutL Nd.vals treeOf Lies b K w r ts
set_option maxRecDepth 100000 in
set_option maxHeartbeats 4000000 in
theorem nolit_name {w:World}{b:Nat}{K:PK}{t:Tk}{ts:List Tk}(h:Lv w b K (t :: ts)) (hk:t.k=2) :
  Calls zG 93 #[zP b] w fun e w'=>e=.returned (.tuple #[.agg zNo,.bool false])∧Below w§ w w':=by
 have hb0:=below_new w (.cells zNo 48)
 have HN0:Hid ((w.alloc (.cells zNo 48)).heap[w§]? = some (.cells zNo 48 (0,0))):=heap_new _ _
 have HB0:Hid (Below w§ w (w.alloc (.cells zNo 48))):=hb0
 have hz:=size_alloc w (.cells zNo 48)
 obtain⟨W0,eW0⟩:∃ W,w.alloc (.cells zNo 48)=W:=⟨_,rfl⟩
 rw [eW0] at HB0 HN0 hb0 hz
 have cN:=live_now (h.on hb0)
 unfold tkA at cN
 rw [hk] at cN
 clear h hk hb0
 go_enter Tryz.func93,Tryz.ntmps93
 go_wp2_with fail
 try rw [eW0]
 refine cN.mono ?_
 rintro e w1 ⟨rfl,hb⟩
 have h1:=below_new w1 (.cells #[zU 2,.string t.x,zU t.ty,zI t.n,zI t.p] 148)
 have h2:=below_new (w1.alloc (.cells #[zU 2,.string t.x,zU t.ty,zI t.n,zI t.p] 148)) (.cells #[zU 1,zU 0,zU 0,zI 0,zU 0,.string ⟨#[]⟩,.slice none 0 0,zI t.p] 48)
 have hT:=(h2.block w1§ (by rw [size_alloc]; omega)).trans (heap_new w1 (.cells #[zU 2,.string t.x,zU t.ty,zI t.n,zI t.p] 148))
 have hb1:=below2 (below2 hb h1) h2
 have HB1:=below2 HB0.out hb1
 have HO:Hid (((w1.alloc (.cells #[zU 2,.string t.x,zU t.ty,zI t.n,zI t.p] 148)).alloc (.cells #[zU 1,zU 0,zU 0,zI 0,zU 0,.string ⟨#[]⟩,.slice none 0 0,zI t.p] 48)).heap[w§]? = some (.cells zNo 48 (0,0))):=(hb1.block _ (by omega)).trans HN0.out
 have HB1:Hid (Below w§ w ((w1.alloc (.cells #[zU 2,.string t.x,zU t.ty,zI t.n,zI t.p] 148)).alloc (.cells #[zU 1,zU 0,zU 0,zI 0,zU 0,.string ⟨#[]⟩,.slice none 0 0,zI t.p] 48))):=HB1
 clear cN hb HB0 HN0 eW0 h1 h2 hb1 hz
 go_upto_region 4 with fail
 obtain⟨V,eV⟩:∃ V,(w1.alloc (.cells #[zU 2,.string t.x,zU t.ty,zI t.n,zI t.p] 148)).alloc (.cells #[zU 1,zU 0,zU 0,zI 0,zU 0,.string ⟨#[]⟩,.slice none 0 0,zI t.p] 48)=V:=⟨_,rfl⟩
 rw [eV] at HO HB1 hT ⊢
 generalize w1§=Q at hT ⊢
 clear eV
 have k0:=cell_of hT 0
 have k1:=cell_of hT 1
 simp only [List.getElem?_toArray,List.getElem?_cons_zero,List.getElem?_cons_succ] at k0 k1
 clear hT
 go_upto_region 3 with fail
 go_wp2_with (refine wpList_store_row rfl 48 (.tmp 2) (.tmp 11) rfl w§ zNo rfl rfl 48 _ HO.out size64' rfl (by simp [Value.oneCell']) ?_)
 exact bodyPost_ret (results_two (p:=2) (u:=3) (ty:=48) rfl _ _ w§ 48 zNo (0,0) _ rfl (setRow_heap _ _ _ _ _ _ HO.out) Tryz.underlying48 rfl size64') rfl ⟨rfl,below_row HB1.out (Nat.le_refl _) _⟩
set_option maxRecDepth 100000 in
set_option maxHeartbeats 4000000 in
theorem nolit_word {w:World}{b:Nat}{K:PK}{t:Tk}{ts:List Tk}(h:Lv w b K (t :: ts)) (hk:t.k=1) (s1:(t.x.toList == [116,114,117,101])=false) (s2:(t.x.toList == [102,97,108,115,101])=false) (s3:(t.x.toList == [98,117,121])=false) (s4:(t.x.toList == [115,101,108,108])=false) :
  Calls zG 93 #[zP b] w fun e w'=>e=.returned (.tuple #[.agg zNo,.bool false])∧Below w§ w w':=by
 have hb0:=below_new w (.cells zNo 48)
 have HN0:Hid ((w.alloc (.cells zNo 48)).heap[w§]? = some (.cells zNo 48 (0,0))):=heap_new _ _
 have HB0:Hid (Below w§ w (w.alloc (.cells zNo 48))):=hb0
 have hz:=size_alloc w (.cells zNo 48)
 obtain⟨W0,eW0⟩:∃ W,w.alloc (.cells zNo 48)=W:=⟨_,rfl⟩
 rw [eW0] at HB0 HN0 hb0 hz
 have cN:=live_now (h.on hb0)
 unfold tkA at cN
 rw [hk] at cN
 clear h hk hb0
 go_enter Tryz.func93,Tryz.ntmps93
 go_wp2_with fail
 try rw [eW0]
 refine cN.mono ?_
 rintro e w1 ⟨rfl,hb⟩
 have h1:=below_new w1 (.cells #[zU 1,.string t.x,zU t.ty,zI t.n,zI t.p] 148)
 have h2:=below_new (w1.alloc (.cells #[zU 1,.string t.x,zU t.ty,zI t.n,zI t.p] 148)) (.cells #[zU 1,zU 0,zU 0,zI 0,zU 0,.string ⟨#[]⟩,.slice none 0 0,zI t.p] 48)
 have hT:=(h2.block w1§ (by rw [size_alloc]; omega)).trans (heap_new w1 (.cells #[zU 1,.string t.x,zU t.ty,zI t.n,zI t.p] 148))
 have hb1:=below2 (below2 hb h1) h2
 have HB1:=below2 HB0.out hb1
 have HO:Hid (((w1.alloc (.cells #[zU 1,.string t.x,zU t.ty,zI t.n,zI t.p] 148)).alloc (.cells #[zU 1,zU 0,zU 0,zI 0,zU 0,.string ⟨#[]⟩,.slice none 0 0,zI t.p] 48)).heap[w§]? = some (.cells zNo 48 (0,0))):=(hb1.block _ (by omega)).trans HN0.out
 have HB1:Hid (Below w§ w ((w1.alloc (.cells #[zU 1,.string t.x,zU t.ty,zI t.n,zI t.p] 148)).alloc (.cells #[zU 1,zU 0,zU 0,zI 0,zU 0,.string ⟨#[]⟩,.slice none 0 0,zI t.p] 48))):=HB1
 clear cN hb HB0 HN0 eW0 h1 h2 hb1 hz
 go_upto_region 4 with fail
 obtain⟨V,eV⟩:∃ V,(w1.alloc (.cells #[zU 1,.string t.x,zU t.ty,zI t.n,zI t.p] 148)).alloc (.cells #[zU 1,zU 0,zU 0,zI 0,zU 0,.string ⟨#[]⟩,.slice none 0 0,zI t.p] 48)=V:=⟨_,rfl⟩
 rw [eV] at HO HB1 hT ⊢
 generalize w1§=Q at hT ⊢
 clear eV
 have k0:=cell_of hT 0
 have k1:=cell_of hT 1
 simp only [List.getElem?_toArray,List.getElem?_cons_zero,List.getElem?_cons_succ] at k0 k1
 clear hT
 go_upto_region 3 with fail
 go_wp2_with (refine wpList_store_row rfl 48 (.tmp 2) (.tmp 11) rfl w§ zNo rfl rfl 48 _ HO.out size64' rfl (by simp [Value.oneCell']) ?_)
 exact bodyPost_ret (results_two (p:=2) (u:=3) (ty:=48) rfl _ _ w§ 48 zNo (0,0) _ rfl (setRow_heap _ _ _ _ _ _ HO.out) Tryz.underlying48 rfl size64') rfl ⟨rfl,below_row HB1.out (Nat.le_refl _) _⟩
theorem fnd_ne {y x:ByteArray}{L:List ByteArray}(h:0≤fnd y L 0) (hx:fnd x L 0 = -1):¬ y=x:=fun e=>by rw [e,hx] at h; exact absurd h (by decide)
theorem str_nl {a:ByteArray}{l:Array UInt8}(h:¬ a=⟨l⟩):(a.toList == l.toList)=false:=by
 rw [ByteArray.toList_eq]
 exact beq_false_of_ne (fun h'=>h (ba_ext2 h'))
theorem fnd_lt (y:ByteArray):∀ (L:List ByteArray) (k:Nat),fnd y L k < k+L.length:=by
 intro L
 induction L with
 | nil=>intro k; simp only [fnd]; omega
 | cons x xs ih =>
  intro k
  rw [fnd]
  have:=ih (k+1)
  by_cases e:y=x
  ·rw [if_pos e]; simp only [List.length_cons]; omega
  ·rw [if_neg e]; simp only [List.length_cons]; push_cast at this; omega
set_option maxRecDepth 100000 in
set_option maxHeartbeats 4000000 in
theorem one_lit {w:World}{b:Nat}{K:PK}{t:Tk}{ts ts':List Tk}{r:Tr}(d:Int) (hK:KG K) (h:Lv w b K (t :: ts)) (hp:pLit (t :: ts)=some (r,ts')) :
  Calls zG 195 #[zP b,zI d] w (OutE b K w r ts'):=by
 have HG0:=((HX.new h 0 0).push zNo 48).hid
 obtain⟨W0,eW0⟩:∃ W,w.alloc (.cells zNo 48)=W:=⟨_,rfl⟩
 rw [eW0] at HG0
 have cL:=lit_y hK HG0.out.S hp
 clear h hp hK
 go_enter Tryz.func195,Tryz.ntmps195
 go_wp2_with fail
 try rw [eW0]
 refine cL.mono ?_
 rintro e w1 ⟨m,rfl,htr,hl,hs,hm⟩
 have HG2:=(HX.rowA (pre:=[]) ((HG0.out.mv hm hs).push zNo 48) m.vals).hid
 have HZ:Hid ((w1.alloc (.cells zNo 48)).heap[w1§]? = some (.cells zNo 48 (0,0))):=heap_new _ _
 have HR:Hid (treeOf m=r∧∀ U,Lies U m):=⟨htr,hl⟩
 clear cL HG0 eW0 htr hl hs hm
 go_upto_region 2 with (refine wpList_store_row rfl 48 (.tmp 5) (.tmp 13) rfl w1§ m.vals rfl rfl 48 zNo HZ.out size64' rfl (all8 m) ?_)
 generalize hW:World.setRow _ _ _=W1
 rw [hW] at HG2
 clear HZ hW
 have HF:=(HX.rowA (pre:=[_]) HG2.out m.vals).hid
 go_wp2_with (first | (refine wpList_load_row rfl 48 (.tmp 5) rfl w1§ rfl 48 m.vals (0,0) _ HG2.out.b0 Tryz.underlying48 rfl size64' ?_) | (refine wpList_store_row rfl 48 (.tmp 4) (.tmp 16) rfl w§ m.vals rfl rfl 48 _ HG2.out.b1 size64' rfl (all8 m) ?_))
 exact bodyPost_ret (results_cell_row rfl _ _ w§ 48 m.vals (0,0) _ rfl HF.out.b1 Tryz.underlying48 rfl size64') rfl ⟨m,rfl,HR.out.1,fun U _=>HR.out.2 U,HF.out.S,HF.out.M⟩
set_option maxRecDepth 100000 in
set_option maxHeartbeats 4000000 in
theorem one_name {w:World}{b:Nat}{K:PK}{t:Tk}{ts:List Tk}(d:Int) (hK:KG K) (h:Lv w b K (t :: ts)) (hk:t.k=2) :
  Calls zG 195 #[zP b,zI d] w (OutE b K w (.mk ⟨2,0,0,0,0,t.x,t.p⟩ []) ts):=by
 have HG0:=((HX.new h 0 0).push zNo 48).hid
 obtain⟨W0,eW0⟩:∃ W,w.alloc (.cells zNo 48)=W:=⟨_,rfl⟩
 rw [eW0] at HG0
 have cL:=nolit_name HG0.out.S hk
 have HR:Hid (Rg ⟨2,0,0,0,0,t.x,t.p⟩):=by
  have hr:=(h.ok hK.k).r
  have:=hr.p0; have:=hr.p1; have:=hr.x1
  constructor <;> first | assumption | omega | (simp only; omega)
 clear h hK
 go_enter Tryz.func195,Tryz.ntmps195
 go_wp2_with fail
 try rw [eW0]
 refine cL.mono ?_
 rintro e w1 ⟨rfl,hb⟩
 have HG1:=((HG0.out.on hb).push zNo 48).hid
 have cN:=live_now HG1.out.S
 unfold tkA at cN
 rw [hk] at cN
 clear hk
 clear cL hb HG0 eW0
 go_wp2_with fail
 refine cN.mono ?_
 rintro e w2 ⟨rfl,hb⟩
 have HG2:=((HG1.out.on hb).push #[zU 2,.string t.x,zU t.ty,zI t.n,zI t.p] 148).hid
 clear cN hb HG1
 go_upto_region 5 with fail
 generalize w2.alloc _=W2 at HG2 ⊢
 generalize w2§=Q at HG2 ⊢
 have k0:=cell_of HG2.out.b0 0
 have k1:=cell_of HG2.out.b0 1
 have k4:=cell_of HG2.out.b0 4
 simp only [List.getElem?_toArray,List.getElem?_cons_zero,List.getElem?_cons_succ] at k0 k1 k4
 obtain⟨i,c3,g3,hmx,hL,hM,ho,_⟩:=HG2.out.S.at'
 have HG3:=(HG2.out.mv hM hL).hid
 clear hL hM ho
 have nB:¬ b=Q:=by have:=HG2.out.W.1; have:=(HG2.out.B _ List.mem_cons_self).2; simp only at this; omega
 clear HG2
 go_upto_region 7 with fail
 generalize eV:W2.setCell ⟨b,3,none⟩ _=V at HG3 ⊢
 clear eV c3 g3 hmx k0 k1 k4 nB
 have k1:=cell_of HG3.out.b0 1
 have k4:=cell_of HG3.out.b0 4
 simp only [List.getElem?_toArray,List.getElem?_cons_zero,List.getElem?_cons_succ] at k1 k4
 have HF:=(HX.rowA (pre:=[_,_]) HG3.out #[zU 2,zU 0,zU 0,zI 0,zU 0,.string t.x,.slice none 0 0,zI t.p]).hid
 go_wp2_with (refine wpList_store_row rfl 48 (.tmp 4) (.tmp 33) rfl w§ #[zU 2,zU 0,zU 0,zI 0,zU 0,.string t.x,.slice none 0 0,zI t.p] rfl rfl 48 _ HG3.out.b2 size64' rfl (by simp [Value.oneCell']) ?_)
 exact bodyPost_ret (results_cell_row rfl _ _ w§ 48 #[zU 2,zU 0,zU 0,zI 0,zU 0,.string t.x,.slice none 0 0,zI t.p] (0,0) _ rfl HF.out.b2 Tryz.underlying48 rfl size64') rfl ⟨.mk ⟨2,0,0,0,0,t.x,t.p⟩ none 0 [],rfl,rfl,fun U _=>lies_leaf U HR.out,HF.out.S,HF.out.M⟩
set_option maxRecDepth 100000 in
set_option maxHeartbeats 4000000 in
theorem one_field {w:World}{b:Nat}{K:PK}{t:Tk}{ts:List Tk}(d:Int) (hK:KG K) (h:Lv w b K (t :: ts)) (hk:t.k=1) {v:Int}(hv:fnd t.x LF 0=v) (h0:0≤v) :
  Calls zG 195 #[zP b,zI d] w (OutE b K w (.mk ⟨3,0,0,0,v+1,gE,t.p⟩ []) ts):=by
 have HG0:=((HX.new h 0 0).push zNo 48).hid
 obtain⟨W0,eW0⟩:∃ W,w.alloc (.cells zNo 48)=W:=⟨_,rfl⟩
 rw [eW0] at HG0
 have hf:0≤fnd t.x LF 0:=by rw [hv]; exact h0
 have h6:v < 6:=by rw [← hv]; exact fnd_lt t.x LF 0
 have cL:=nolit_word HG0.out.S hk (str_nl (l:=#[116,114,117,101]) (fnd_ne hf (by decide +kernel))) (str_nl (l:=#[102,97,108,115,101]) (fnd_ne hf (by decide +kernel))) (str_nl (l:=#[98,117,121]) (fnd_ne hf (by decide +kernel))) (str_nl (l:=#[115,101,108,108]) (fnd_ne hf (by decide +kernel)))
 have HR:Hid (Rg ⟨3,0,0,0,v+1,gE,t.p⟩):=by
  have hr:=(h.ok hK.k).r
  have:=hr.p0; have:=hr.p1
  constructor <;> first | assumption | omega | (simp only; omega) | (show gE.size≤140737488355328; decide)
 have HK:Hid (KG K):=hK
 clear h hK hf
 go_enter Tryz.func195,Tryz.ntmps195
 go_wp2_with fail
 try rw [eW0]
 refine cL.mono ?_
 rintro e w1 ⟨rfl,hb⟩
 have HG1:=((HG0.out.on hb).push zNo 48).hid
 have cN:=live_now HG1.out.S
 unfold tkA at cN
 rw [hk] at cN
 clear hk
 clear cL hb HG0 eW0
 go_wp2_with fail
 refine cN.mono ?_
 rintro e w2 ⟨rfl,hb⟩
 have HG2:=((HG1.out.on hb).push #[zU 1,.string t.x,zU t.ty,zI t.n,zI t.p] 148).hid
 clear cN hb HG1
 go_upto_region 5 with fail
 generalize w2.alloc _=W2 at HG2 ⊢
 generalize w2§=Q at HG2 ⊢
 have k0:=cell_of HG2.out.b0 0
 have k1:=cell_of HG2.out.b0 1
 have k4:=cell_of HG2.out.b0 4
 simp only [List.getElem?_toArray,List.getElem?_cons_zero,List.getElem?_cons_succ] at k0 k1 k4
 have cA:=any_y HG2.out.S HK.out LF (n:=6) rfl (by decide) (by decide +kernel)
 rw [hv] at cA
 clear hv
 simp only [LF,List.map] at cA
 go_upto_region 8 with fail
 go_wp2_with fail
 refine cA.mono ?_
 rintro e w3 ⟨rfl,hb⟩
 have HG3:=(HG2.out.on hb).hid
 clear cA hb HG2 k0 k1 k4
 obtain⟨i,c3,g3,hmx,hL,hM,ho,_⟩:=HG3.out.S.at'
 have HG4:=(HG3.out.mv hM hL).hid
 clear hL hM ho HG3
 go_upto_region 11 with fail
 generalize eV:w3.setCell ⟨b,3,none⟩ _=V at HG4 ⊢
 clear eV c3 g3 hmx
 have k4:=cell_of HG4.out.b0 4
 simp only [List.getElem?_toArray,List.getElem?_cons_zero,List.getElem?_cons_succ] at k4
 have HF:=(HX.rowA (pre:=[_,_]) HG4.out #[zU 3,zU 0,zU 0,zI 0,zU (v+1),.string ⟨#[]⟩,.slice none 0 0,zI t.p]).hid
 go_wp2_with (refine wpList_store_row rfl 48 (.tmp 4) (.tmp 51) rfl w§ #[zU 3,zU 0,zU 0,zI 0,zU (v+1),.string ⟨#[]⟩,.slice none 0 0,zI t.p] rfl rfl 48 _ HG4.out.b2 size64' rfl (by simp [Value.oneCell']) ?_)
 exact bodyPost_ret (results_cell_row rfl _ _ w§ 48 #[zU 3,zU 0,zU 0,zI 0,zU (v+1),.string ⟨#[]⟩,.slice none 0 0,zI t.p] (0,0) _ rfl HF.out.b2 Tryz.underlying48 rfl size64') rfl ⟨.mk ⟨3,0,0,0,v+1,gE,t.p⟩ none 0 [],rfl,rfl,fun U _=>lies_leaf U HR.out,HF.out.S,HF.out.M⟩
theorem one_y {w:World}{b:Nat}{K:PK}{ts ts':List Tk}{r:Tr}(d:Int) (hK:KG K) (h:Lv w b K ts) (hp:pOne ts=some (r,ts')) :
  Calls zG 195 #[zP b,zI d] w (OutE b K w r ts'):=by
 cases ts with
 | nil=>cases hp
 | cons t ts =>
  simp only [pOne] at hp
  by_cases h2:t.k=2
  ·rw [if_pos h2] at hp
   cases hp
   exact one_name d hK h h2
  ·rw [if_neg h2] at hp
   by_cases h1:t.k=1∧0≤fnd t.x LF 0
   ·rw [if_pos h1] at hp
    cases hp
    exact one_field d hK h h1.1 rfl h1.2
   ·rw [if_neg h1] at hp
    exact one_lit d hK h hp
theorem foldo_size (o:Nat):∀ (l:List Value) (k:Nat) (a:Array Value),((l.zipIdx k).foldl (fun cs (q:Value × Nat)=>cs.setIfInBounds (o+q.2) q.1) a).size=a.size
 | [],k,a=>rfl
 | c :: l,k,a=>by
  simp only [List.zipIdx_cons,List.foldl_cons]
  rw [foldo_size o l (k+1)]
  simp
theorem foldo_get (o:Nat):∀ (l:List Value) (k:Nat) (a:Array Value) (i:Nat),i < a.size→((l.zipIdx k).foldl (fun cs (q:Value × Nat)=>cs.setIfInBounds (o+q.2) q.1) a)[i]? = if o+k≤i∧i < o+k+l.length then l[i - (o+k)]? else a[i]?
 | [],k,a,i,hi=>by
  rw [if_neg (by simp)]
  rfl
 | c :: l,k,a,i,hi=>by
  simp only [List.zipIdx_cons,List.foldl_cons]
  rw [foldo_get o l (k+1) _ i (by simpa using hi)]
  simp only [List.length_cons]
  by_cases h1:o+(k+1)≤i∧i < o+(k+1)+l.length
  ·rw [if_pos h1,if_pos (by omega),show i - (o+k)=(i - (o+(k+1)))+1 by omega]
   rfl
  ·rw [if_neg h1,Array.getElem?_setIfInBounds]
   by_cases h2:o+k=i
   ·subst h2
    rw [if_pos rfl,if_pos hi,if_pos (by omega),Nat.sub_self]
    rfl
   ·rw [if_neg h2,if_neg (by omega)]
theorem foldo_arr (o:Nat) (cs a:Array Value):cs.zipIdx.foldl (fun (x:Array Value) (q:Value × Nat)=>x.setIfInBounds (o+q.2) q.1) a=(cs.toList.zipIdx 0).foldl (fun (x:Array Value) (q:Value × Nat)=>x.setIfInBounds (o+q.2) q.1) a:=by
 obtain⟨l⟩:=cs
 rw [← Array.foldl_toList]
 simp
theorem fold_two (n:Nat) (c d a:Array Value) (hc:c.size=n) (hd:d.size=n) (h:a.size=2 * n):d.zipIdx.foldl (fun (x:Array Value) (q:Value × Nat)=>x.setIfInBounds (1 * n+q.2) q.1) (c.zipIdx.foldl (fun (x:Array Value) (q:Value × Nat)=>x.setIfInBounds (0 * n+q.2) q.1) a)=c ++ d:=by
 rw [foldo_arr,foldo_arr]
 apply Array.ext_getElem?
 intro i
 by_cases hi:i < a.size
 ·rw [foldo_get (1 * n) _ 0 _ i (by rw [foldo_size]; exact hi),foldo_get (0 * n) _ 0 a i hi]
  simp only [Array.length_toList,hc,hd]
  by_cases h1:i < n
  ·rw [if_neg (by omega),if_pos (by omega),Array.getElem?_append_left (by omega)]
   simp
  ·rw [if_pos (by omega),Array.getElem?_append_right (by omega)]
   simp [hc]
 ·rw [Array.getElem?_eq_none (by rw [foldo_size,foldo_size]; omega),Array.getElem?_eq_none (by simp; omega)]
theorem fold_three (n:Nat) (c d e a:Array Value) (hc:c.size=n) (hd:d.size=n) (he:e.size=n) (h:a.size=3 * n):e.zipIdx.foldl (fun (x:Array Value) (q:Value × Nat)=>x.setIfInBounds (2 * n+q.2) q.1) (d.zipIdx.foldl (fun (x:Array Value) (q:Value × Nat)=>x.setIfInBounds (1 * n+q.2) q.1) (c.zipIdx.foldl (fun (x:Array Value) (q:Value × Nat)=>x.setIfInBounds (0 * n+q.2) q.1) a))=c ++ d ++ e:=by
 rw [foldo_arr,foldo_arr,foldo_arr]
 apply Array.ext_getElem?
 intro i
 by_cases hi:i < a.size
 ·rw [foldo_get (2 * n) _ 0 _ i (by rw [foldo_size,foldo_size]; exact hi),foldo_get (1 * n) _ 0 _ i (by rw [foldo_size]; exact hi),foldo_get (0 * n) _ 0 a i hi]
  simp only [Array.length_toList,hc,hd,he]
  by_cases h1:i < n
  ·rw [if_neg (by omega),if_neg (by omega),if_pos (by omega),Array.getElem?_append_left (by simp; omega),Array.getElem?_append_left (by omega)]
   simp
  ·by_cases h2:i < 2 * n
   ·rw [if_neg (by omega),if_pos (by omega),Array.getElem?_append_left (by simp; omega),Array.getElem?_append_right (by omega)]
    simp [hc]
   ·rw [if_pos (by omega),Array.getElem?_append_right (by simp; omega)]
    simp [hc,hd]
    congr 1
    omega
 ·rw [Array.getElem?_eq_none (by rw [foldo_size,foldo_size,foldo_size]; omega),Array.getElem?_eq_none (by simp; omega)]
theorem wpList_slice2 {w:World}{ops:Array Oper}{rest:List Oper}{o:Oper}{a:Act}{Q:Exit→Act→World→Prop}(hgd:o.guard=none) (t e:TypeId) (x y:Operand) (ho:o.op=.buildSlice t 2 #[(0,x),(1,y)])
  (cs ds:Array Value) (hx:a.eval x=.agg cs) (hy:a.eval y=.agg ds) (n:Nat) (z:Value) (ht:Tryz.prog.underlying t=some (.slice e)) (by_:Nat) (hi:(Tryz.prog.info? e).map (fun i=>(i.zero,i.size,i.bytes))=some (some z,n,by_)) (hz:z.cells.size=n) (hn:cs.size=n) (hm:ds.size=n) (h0:0 < n) (h1:n≤1000)
  (h:wpList Tryz.prog ops Q rest (a.put o.dst (.slice (some ⟨w§,0,none⟩) 2 2)) (w.alloc (.cells (cs ++ ds) e))):wpList Tryz.prog ops Q (o :: rest) a w:=by
 refine wpList_plain hgd fun Kk hK=>?_
 obtain⟨i0,hi0,hz0,hz1,hz2⟩:=info_parts hi
 have hu:=run_underlying ht w
 have hf:Instr.fill (fun i=>some (i * n,n)) ((Array.range (2 * n)).map (z.cells[· % z.cells.size]!)) [(0,.agg cs),(1,.agg ds)]=some (cs ++ ds):=by
  obtain⟨A,hA⟩:∃ A,(Array.range (2 * n)).map (z.cells[· % z.cells.size]!)=A:=⟨_,rfl⟩
  have hAs:A.size=2 * n:=by rw [← hA]; simp
  rw [hA]
  have e3:Instr.fill (fun i=>some (i * n,n)) A [(0,.agg cs),(1,.agg ds)]=if (decide (cs.size≠n) || decide (0 * n+cs.size > A.size))=true then none else Instr.fill (fun i=>some (i * n,n)) (cs.zipIdx.foldl (fun (x:Array Value) (q:Value × Nat)=>x.setIfInBounds (0 * n+q.2) q.1) A) [(1,.agg ds)]:=rfl
  rw [e3,if_neg (by simp; omega)]
  obtain⟨B,hB⟩:∃ B,cs.zipIdx.foldl (fun (x:Array Value) (q:Value × Nat)=>x.setIfInBounds (0 * n+q.2) q.1) A=B:=⟨_,rfl⟩
  have hBs:B.size=2 * n:=by rw [← hB,foldo_arr,foldo_size]; exact hAs
  rw [hB]
  have e4:Instr.fill (fun i=>some (i * n,n)) B [(1,.agg ds)]=if (decide (ds.size≠n) || decide (1 * n+ds.size > B.size))=true then none else some (ds.zipIdx.foldl (fun (x:Array Value) (q:Value × Nat)=>x.setIfInBounds (1 * n+q.2) q.1) B):=rfl
  rw [e4,if_neg (by simp; omega),← hB]
  exact congrArg some (fold_two n cs ds _ hn hm hAs)
 have hr:(Instr.buildSlice t 2 #[(0,.agg cs),(1,.agg ds)]).run Tryz.prog w=.ok (.slice (some ⟨w§,0,none⟩) 2 2) (w.alloc (.cells (cs ++ ds) e)):=by
  have e1:¬ 2 * n > 16777216:=by omega
  have e2:¬ 2 * n=0:=by omega
  simp [Instr.buildSlice,Sem.run_bind,hu,sizeOf,zeroValue,typeInfo,hi0,hz0,hz1,e1,e2,hf,newRow,newObj]
  rfl
 unfold Oper.wp execOp
 simp only [ho,List.map_toArray,List.map_cons,List.map_nil,hx,hy,Sem.run_bind,hr,Result.andThen_ok]
 exact hK _ _ h
theorem wpList_slice3 {w:World}{ops:Array Oper}{rest:List Oper}{o:Oper}{a:Act}{Q:Exit→Act→World→Prop}(hgd:o.guard=none) (t e:TypeId) (x y u:Operand) (ho:o.op=.buildSlice t 3 #[(0,x),(1,y),(2,u)])
  (cs ds es:Array Value) (hx:a.eval x=.agg cs) (hy:a.eval y=.agg ds) (hu3:a.eval u=.agg es) (n:Nat) (z:Value) (ht:Tryz.prog.underlying t=some (.slice e)) (by_:Nat) (hi:(Tryz.prog.info? e).map (fun i=>(i.zero,i.size,i.bytes))=some (some z,n,by_)) (hz:z.cells.size=n) (hn:cs.size=n) (hm:ds.size=n) (hl:es.size=n) (h0:0 < n) (h1:n≤1000)
  (h:wpList Tryz.prog ops Q rest (a.put o.dst (.slice (some ⟨w§,0,none⟩) 3 3)) (w.alloc (.cells (cs ++ ds ++ es) e))):wpList Tryz.prog ops Q (o :: rest) a w:=by
 refine wpList_plain hgd fun Kk hK=>?_
 obtain⟨i0,hi0,hz0,hz1,hz2⟩:=info_parts hi
 have hu:=run_underlying ht w
 have hf:Instr.fill (fun i=>some (i * n,n)) ((Array.range (3 * n)).map (z.cells[· % z.cells.size]!)) [(0,.agg cs),(1,.agg ds),(2,.agg es)]=some (cs ++ ds ++ es):=by
  obtain⟨A,hA⟩:∃ A,(Array.range (3 * n)).map (z.cells[· % z.cells.size]!)=A:=⟨_,rfl⟩
  have hAs:A.size=3 * n:=by rw [← hA]; simp
  rw [hA]
  have e3:Instr.fill (fun i=>some (i * n,n)) A [(0,.agg cs),(1,.agg ds),(2,.agg es)]=if (decide (cs.size≠n) || decide (0 * n+cs.size > A.size))=true then none else Instr.fill (fun i=>some (i * n,n)) (cs.zipIdx.foldl (fun (x:Array Value) (q:Value × Nat)=>x.setIfInBounds (0 * n+q.2) q.1) A) [(1,.agg ds),(2,.agg es)]:=rfl
  rw [e3,if_neg (by simp; omega)]
  obtain⟨B,hB⟩:∃ B,cs.zipIdx.foldl (fun (x:Array Value) (q:Value × Nat)=>x.setIfInBounds (0 * n+q.2) q.1) A=B:=⟨_,rfl⟩
  have hBs:B.size=3 * n:=by rw [← hB,foldo_arr,foldo_size]; exact hAs
  rw [hB]
  have e4:Instr.fill (fun i=>some (i * n,n)) B [(1,.agg ds),(2,.agg es)]=if (decide (ds.size≠n) || decide (1 * n+ds.size > B.size))=true then none else Instr.fill (fun i=>some (i * n,n)) (ds.zipIdx.foldl (fun (x:Array Value) (q:Value × Nat)=>x.setIfInBounds (1 * n+q.2) q.1) B) [(2,.agg es)]:=rfl
  rw [e4,if_neg (by simp; omega)]
  obtain⟨C,hC⟩:∃ C,ds.zipIdx.foldl (fun (x:Array Value) (q:Value × Nat)=>x.setIfInBounds (1 * n+q.2) q.1) B=C:=⟨_,rfl⟩
  have hCs:C.size=3 * n:=by rw [← hC,foldo_arr,foldo_size]; exact hBs
  rw [hC]
  have e5:Instr.fill (fun i=>some (i * n,n)) C [(2,.agg es)]=if (decide (es.size≠n) || decide (2 * n+es.size > C.size))=true then none else some (es.zipIdx.foldl (fun (x:Array Value) (q:Value × Nat)=>x.setIfInBounds (2 * n+q.2) q.1) C):=rfl
  rw [e5,if_neg (by simp; omega),← hC,← hB]
  exact congrArg some (fold_three n cs ds es _ hn hm hl hAs)
 have hr:(Instr.buildSlice t 3 #[(0,.agg cs),(1,.agg ds),(2,.agg es)]).run Tryz.prog w=.ok (.slice (some ⟨w§,0,none⟩) 3 3) (w.alloc (.cells (cs ++ ds ++ es) e)):=by
  have e1:¬ 3 * n > 16777216:=by omega
  have e2:¬ 3 * n=0:=by omega
  simp [Instr.buildSlice,Sem.run_bind,hu,sizeOf,zeroValue,typeInfo,hi0,hz0,hz1,e1,e2,hf,newRow,newObj]
  rfl
 unfold Oper.wp execOp
 simp only [ho,List.map_toArray,List.map_cons,List.map_nil,hx,hy,hu3,Sem.run_bind,hr,Result.andThen_ok]
 exact hK _ _ h
end Go.Proofs.YtoogodlnnijikaaGreatDoor
