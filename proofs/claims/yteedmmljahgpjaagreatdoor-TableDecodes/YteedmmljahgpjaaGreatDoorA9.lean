import Derived.Test.YteedmmljahgpjaaGreatDoorA0
import Derived.Test.YteedmmljahgpjaaGreatDoorA8
import Derived.Deep.RegionHeld
namespace Go.Proofs.YteedmmljahgpjaaGreatDoor
set_option maxRecDepth 100000
set_option maxHeartbeats 4000000
open Go.RowKit
set_option linter.unusedVariables false
set_option linter.unusedSimpArgs false
def u64 (n:Int):Int:=n % 18446744073709551616
theorem wput_u (b G:Nat) (ns zs:List Int) (bs:List (Nat × Nat × Array Value)) (w:World) (w0:World) (h:Wr w0 w b ((G,3,iA ns) :: bs) zs) (hz:zs.length+ns.length≤1000000):Calls zG 77 #[zP b,.slice (some ⟨G,0,none⟩) ns.length ns.length] w fun e w'=>e=.returned (.tuple #[])∧Wr w0 w' b ((G,3,iA ns) :: bs) (zs ++ ns.map u64):=by
 have HW:Hid (Wr w0 w b ((G,3,iA ns) :: bs) (zs ++ (ns.take 0).map u64)):=by show Wr _ _ _ _ _; rw [List.take_zero,List.map_nil,List.append_nil]; exact h
 have HLZ:=zH hz
 have hnl:(ns.length:Int)≤1000000:=by omega
 clear h hz
 go_enter Tryz.func77,Tryz.ntmps77
 go_wp2_with fail
 go_loopw [8] (fun q wr=>∃ (i:Nat),i≤ns.length∧q=zI i∧Hid (Wr w0 wr b ((G,3,iA ns) :: bs) (zs ++ (ns.take i).map u64))) (fun q _=>ns.length - (intOf q).toNat)
 case atStart=>exact⟨0,by omega,rfl,HW⟩
 case round =>
  obtain⟨i,hi,rfl,HWR⟩:=hrel
  by_cases hlt:i < ns.length
  ·have hlt':(i:Int) < (ns.length:Int):=by omega
   have hmx:(i:Int)+1≤9223372036854775807:=by omega
   have ci:=iA_at HWR.out.box i hlt
   have HTK:Hid ((ns.take (i+1)).map u64=(ns.take i).map u64 ++ [u64 ns[i]]):=by show _=_; rw [List.take_succ_eq_append_getElem hlt,List.map_append]; rfl
   obtain⟨n,en⟩:∃ n,ns[i]=n:=⟨_,rfl⟩
   rw [en] at ci HTK
   obtain⟨z,hmod⟩:∃ z,n % 18446744073709551616=z:=⟨_,rfl⟩
   have HU:Hid (u64 n=z):=hmod
   have hwr:IntKind.u64.wrap n=z:=hmod
   rw [HU.out] at HTK
   obtain⟨v,hO⟩:=HWR.out.H
   have HO:=zH hO
   have HNN:=zH HWR.out.N
   have cb:wr.cell? ⟨b,0,none⟩=some v:=Co hO.box 0
   have HLL:Hid (((zs ++ (ns.take i).map u64).map Jf).length≤1000000):=by show _≤_; rw [List.length_map,List.length_append,List.length_map,List.length_take]; have:=HLZ.out; omega
   clear en hO HWR
   go_wp2_with (first | (refine Qq rfl 134 104 (.tmp 18) rfl (Jf z) (.int .u64 z) rfl rfl 1 _ Tryz.underlying134 8 inf104 rfl rfl (by decide) (by decide) ?_) | (refine Je HO.out 134 (Jf z) rfl (J0 z) _ 8 Tryz.underlying134 inf104 rfl (by decide) HLL.out (by decide) rfl (.tmp 16) (.tmp 19) rfl rfl rfl ?_; intro g cap w8 HO8; have xb:=Co HO8.box 0; have fb:=Fo HO8.box 0))
   refine⟨⟨i+1,hlt,rfl,?_⟩,by simp only [intOf]; omega⟩
   have hLe:((zs ++ (ns.take i).map u64).map Jf).length=zs.length+i:=by rw [List.length_map,List.length_append,List.length_map,List.length_take]; omega
   rw [hLe] at HO8
   have hq:=HO8.put HNN.out (.slice (some ⟨g,0,none⟩) (zs.length+i+1) cap)
   refine⟨⟨.slice (some ⟨g,0,none⟩) (zs.length+i+1) cap,?_⟩,HNN.out⟩
   rw [HTK.out,← List.append_assoc,List.map_append]
   exact hq
  ·obtain rfl:i=ns.length:=by omega
   have hnot:¬ (ns.length:Int) < (ns.length:Int):=by omega
   have HE:Hid (Wr w0 wr b ((G,3,iA ns) :: bs) (zs ++ ns.map u64)):=by have:=HWR.out; rw [List.take_length] at this; exact this
   go_wp2_with fail
   go_end0
   exact⟨rfl,HE.out⟩
def inZ (d:InM):List Int:=[d.k,d.a]
def stZ (x:StM):List Int:=(x.gs.length:Int) :: (x.gs.map gdZ).flatten
def hdZ (t:TbM):List Int:=sgZ t.rs ++ [t.sl] ++ sgZ t.cs ++ [(t.ds.length:Int)]
def J7 (t:TbM):List Int:=hdZ t ++ ((t.ds.map inZ).flatten).map u64 ++ [(t.ts.length:Int)] ++ (t.ts.map stZ).flatten
def A64 (zs:List Int):Prop:=∀ n ∈ zs,0≤n∧n≤18446744073709551615
theorem A64.app {a b:List Int}(h:A64 a) (k:A64 b):A64 (a ++ b):=fun n hn=>(List.mem_append.1 hn).elim (h n) (k n)
theorem A64.one {n:Int}(h:0≤n∧n≤18446744073709551615):A64 [n]:=fun m hm=>by rw [List.mem_singleton.1 hm]; exact h
theorem A64.flat {l:List (List Int)}(h:∀ x ∈ l,A64 x):A64 l.flatten:=fun n hn=>by obtain⟨x,hx,hm⟩:=List.mem_flatten.1 hn; exact h x hx n hm
theorem A64.fits {zs:List Int}(h:A64 zs):W.Fits zs:=fun j=>by
 rw [List.getD_eq_getElem?_getD]
 rcases Nat.lt_or_ge j zs.length with hj | hj
 ·rw [List.getElem?_eq_getElem hj]; exact h _ (List.getElem_mem hj)
 ·rw [List.getElem?_eq_none hj]; exact⟨Int.le_refl _,by decide⟩
theorem sg_64 {l:List Int}(h:∀ n ∈ l,I64 n) (hl:l.length≤1000000):A64 (sgZ l):=by
 intro n hn
 rcases List.mem_cons.1 hn with rfl | hn
 ·omega
 ·obtain⟨m,hm,rfl⟩:=List.mem_map.1 hn
  exact W.zigN_bd m (h m hm).1 (h m hm).2
theorem u_64 (l:List Int):A64 (l.map u64):=by
 intro n hn
 obtain⟨m,hm,rfl⟩:=List.mem_map.1 hn
 unfold u64
 omega
theorem gd_64 {w:World}{g:GdM}(hg:GdL w g) (hb:GdB g) (hi:∀ r ∈ g.rs,0≤r.i):A64 (gdZ g):=by
 obtain⟨⟨h0,h1⟩,h8,hr⟩:=hb
 refine A64.app (fun n hn=>?_) (A64.flat fun x hx=>?_)
 ·simp only [List.mem_cons,List.not_mem_nil,or_false] at hn
  omega
 ·obtain⟨r,hrm,rfl⟩:=List.mem_map.1 hx
  obtain⟨⟨k0,k1⟩,⟨o0,o1⟩,⟨_,i1⟩,_⟩:=hg.2.2.2.2 r hrm
  have i0:=hi r hrm
  refine A64.app (fun n hn=>?_) (fun n hn=>?_)
  ·simp only [List.mem_cons,List.not_mem_nil,or_false] at hn
   omega
  ·obtain⟨y,hy,rfl⟩:=List.mem_map.1 hn
   have:=hr r hrm y hy
   unfold LenW at this
   omega
theorem idx_lo (sl:Int) (nr ns:Nat) (k:Int):0≤(idxN sl nr ns k).1:=by
 unfold idxN
 repeat' split
 all_goals simp
theorem rowB_i {sl:Int}{nr ns:Nat}{r:RowM}(h:rowB sl nr ns r=true):0≤r.i:=by
 unfold rowB Qb at h
 simp only [Bool.and_eq_true,decide_eq_true_eq] at h
 have:=idx_lo sl nr ns r.k
 omega
theorem rowsR_i {sl:Int}{nr ns:Nat}:∀ {rs:List RowM},JS sl nr ns rs=true→∀ r ∈ rs,0≤r.i
 | [],_,r,hr=>by simp at hr
 | x :: l,h,r,hr=>by
  unfold JS at h
  simp only [Bool.and_eq_true] at h
  rcases List.mem_cons.1 hr with rfl | hr
  ·exact rowB_i h.1.1
  ·exact rowsR_i h.2 r hr
theorem gdsN_i (sl:Int) (nr ns:Nat):∀ (l:List GdM) (p q:Int),gdsN sl nr ns p l=some q→∀ g ∈ l,∀ r ∈ g.rs,0≤r.i
 | [],p,q,h=>fun x hx=>by simp at hx
 | y :: l,p,q,h=>by
  unfold gdsN at h
  obtain⟨r,hr,h⟩:=Option.bind_eq_some_iff.1 h
  unfold gdN at hr
  split at hr
  ·rename_i hb
   intro g hg
   rcases List.mem_cons.1 hg with rfl | hg
   ·unfold rowsB at hb
    rw [Bool.and_eq_true] at hb
    exact rowsR_i hb.2
   ·exact gdsN_i sl nr ns l r q h g hg
  ·cases hr
theorem stsN_i (sl:Int) (nr ns:Nat):∀ (l:List StM) (p q:Int),stsN sl nr ns p l=some q→∀ s ∈ l,∀ g ∈ s.gs,∀ r ∈ g.rs,0≤r.i
 | [],p,q,h=>fun x hx=>by simp at hx
 | y :: l,p,q,h=>by
  unfold stsN at h
  split at h
  ·cases h
  ·obtain⟨r,hr,h⟩:=Option.bind_eq_some_iff.1 h
   intro s hs
   rcases List.mem_cons.1 hs with rfl | hs
   ·exact gdsN_i sl nr ns _ p r hr
   ·exact stsN_i sl nr ns l r q h s hs
theorem form_i {t:TbM}(h:QG t=true):(∀ s ∈ t.ts,∀ g ∈ s.gs,∀ r ∈ g.rs,0≤r.i)∧(0≤t.sl∧t.sl≤4)∧t.ts.length≤12:=by
 unfold QG at h
 rw [Bool.and_eq_true,Bool.and_eq_true] at h
 obtain⟨⟨_,h2⟩,h3⟩:=h
 refine⟨?_,?_⟩
 ·unfold endB at h3
  split at h3
  ·rename_i q hq
   exact stsN_i _ _ _ _ 0 q hq
  ·cases h3
 ·unfold Q0 Qb at h2
  simp only [Bool.and_eq_true,decide_eq_true_eq] at h2
  omega
theorem OwnK.lies {w V:World}{bs:List (Nat × Nat × Array Value)}{v:Value}{zs:List Int}(h:OwnK w V bs 104 1 v (zs.map Jf)):∃ a c,v=.slice a zs.length c∧W.Lies V a zs.length zs:=by
 obtain⟨a,c,h1,h2⟩:=h.sl
 rw [List.length_map] at h1
 refine⟨a,c,h1,rfl,fun e=>?_,fun ad e j hj=>?_⟩
 ·rcases Nat.eq_zero_or_pos zs.length with h0 | h0
  ·exact h0
  ·obtain⟨b,o,e2,_⟩:=h2.2.2 0 (by rw [List.length_map]; exact h0)
   rw [e] at e2; cases e2
 ·obtain⟨b,o,e2,h3⟩:=h2.2.2 j (by rw [List.length_map]; exact hj)
  rw [e] at e2
  obtain rfl:ad=⟨b,o,none⟩:=Option.some.inj e2
  have h4:=h3 0 (by omega)
  rw [Nat.mul_one,Nat.add_zero] at h4
  rw [Addr.add_mid,h4]
  simp [Jf,List.getD_eq_getElem?_getD,hj]
theorem gdZ_le (g:GdM) (h:g.rs.length≤8):(gdZ g).length≤58:=by
 have:=rowsZ_le g.rs
 unfold gdZ
 rw [List.length_append]
 simp only [List.length_cons,List.length_nil]
 omega
theorem gdsZ_le:∀ l:List GdM,(∀ g ∈ l,g.rs.length≤8)→((l.map gdZ).flatten).length≤58 * l.length
 | [],_=>by simp
 | g :: l,h=>by
  have:=gdZ_le g (h g (List.mem_cons_self ..))
  have:=gdsZ_le l (fun x hx=>h x (List.mem_cons_of_mem _ hx))
  simp only [List.map_cons,List.flatten_cons,List.length_append,List.length_cons]
  omega
theorem stsZ_le:∀ l:List StM,(∀ s ∈ l,s.gs.length≤12∧∀ g ∈ s.gs,GdB g)→((l.map stZ).flatten).length≤700 * l.length
 | [],_=>by simp
 | s :: l,h=>by
  have h1:=h s (List.mem_cons_self ..)
  have h2:=gdsZ_le s.gs (fun g hg=>(h1.2 g hg).2.1)
  have:=stsZ_le l (fun x hx=>h x (List.mem_cons_of_mem _ hx))
  simp only [List.map_cons,List.flatten_cons,List.length_append,List.length_cons,stZ]
  omega
theorem insZ_le:∀ l:List InM,((l.map inZ).flatten).length=2 * l.length
 | []=>by simp
 | d :: l=>by
  have:=insZ_le l
  simp only [List.map_cons,List.flatten_cons,List.length_append,List.length_cons,inZ,List.length_nil]
  omega
theorem content_any (t:TbM) (w:World) (hl:TbL w t) (hf:QG t=true):Calls zG 34 #[.agg t.vals] w fun e w'=>e=.returned (.string (W.bytes (W.text1 t.x.data.toList ++ W.putL (W.nats (J7 t)))))∧Below w§ w w':=by
 have hb1:=Bn w (.cells t.vals 26)
 have hn1:=Hn w (.cells t.vals 26)
 obtain⟨W1,e1⟩:∃ W,w.alloc (.cells t.vals 26)=W:=⟨_,rfl⟩
 have E1:=zH e1
 rw [e1] at hb1 hn1
 have HB1:=zH hb1
 have HN1:=zH hn1
 have HS1:Hid (W1§=w§+1):=by show _=_; rw [← e1]; exact Sa _ _
 clear hb1 e1 hn1
 obtain⟨⟨hr12,hc1024,hd4096⟩,_⟩:=form_w hf
 obtain⟨hii,⟨hs0,hs4⟩,ht12⟩:=form_i hf
 have HFB:=zH (form_b hf)
 have HII:=zH hii
 have HTL:Hid (TbL w t):=hl
 have HDI:=zH hl.Di
 obtain⟨B0,eB0⟩:∃ q:List (Nat × Nat × Array Value),[(w§,26,t.vals)]=q:=⟨_,rfl⟩
 have HTC:Hid (∀ V zs b,Wr w V b B0 zs→V.heap[w§]? = some (.cells t.vals 26 (0,0))):=fun V zs b h=>by rw [← eB0] at h; exact h.box
 have HW0:Hid (Wr w (W1.alloc (.cells #[.slice none 0 0] 136)) W1§ B0 []):=by
  have h1:=(OwnK.nil HB1.out 104 1).add w§ 26 t.vals HN1.out (Nat.le_refl _) (by simp [Value.ownBlock])
  have h2:=(h1.on (Bn W1 (.cells #[.slice none 0 0] 136))).add W1§ 136 #[.slice none 0 0] (Hn _ _) HB1.out.size (by simp [Value.ownBlock])
  rw [← eB0]
  exact⟨⟨_,h2⟩,fun p hp=>by rw [List.mem_singleton.1 hp,HS1.out]; show w§≠w§+1; omega⟩
 obtain⟨b,eb⟩:∃ q,w§+1=q:=⟨_,rfl⟩
 rw [HS1.out,eb] at HW0
 have HEB:Hid (w§+1=b):=eb
 obtain⟨W2,e2⟩:∃ W,W1.alloc (.cells #[.slice none 0 0] 136)=W:=⟨_,rfl⟩
 have E2:=zH e2
 rw [e2] at HW0
 have x1:W2.cell? ⟨w§,1,none⟩=some (.slice t.ra t.rs.length t.rc):=Co (HTC.out _ _ _ HW0.out) 1
 have cS:=wsigned_any b t.rs [] t.ra t.rc B0 W2 w HW0.out hl.R hl.Ri (by simp only [List.length_nil]; omega)
 rw [List.nil_append] at cS
 have HFI:Hid (W.Fits (J7 t)):=by
  refine A64.fits (A64.app (A64.app (A64.app ?_ (u_64 _)) (A64.one ⟨by omega,by omega⟩)) (A64.flat fun x hx=>?_))
  ·exact A64.app (A64.app (A64.app (sg_64 hl.Ri (by omega)) (A64.one ⟨by omega,by omega⟩)) (sg_64 hl.Ci (by omega))) (A64.one ⟨by omega,by omega⟩)
  ·obtain⟨s,hs,rfl⟩:=List.mem_map.1 hx
   intro n hn
   rcases List.mem_cons.1 hn with rfl | hn
   ·have:=(HFB.out s hs).1; omega
   ·refine A64.flat (fun z hz=>?_) n hn
    obtain⟨g,hg,rfl⟩:=List.mem_map.1 hz
    exact gd_64 ((hl.Ti s hs).2 g hg) ((HFB.out s hs).2 g hg) (HII.out s hs g hg)
 have HCN:Hid ((J7 t).length≤30000):=by
  have h1:=stsZ_le t.ts HFB.out
  show _≤_
  unfold J7 hdZ sgZ
  simp only [List.length_append,List.length_cons,List.length_nil,List.length_map,insZ_le]
  omega
 have hx16:t.x.size≤16:=by
  unfold QG at hf
  rw [Bool.and_eq_true,Bool.and_eq_true] at hf
  have:=hf.1.1
  unfold Ja at this
  simp only [Bool.and_eq_true,decide_eq_true_eq] at this
  omega
 have HTS:Hid ((W.bytes ((⟨#[]⟩:ByteArray).data.toList ++ W.text1 t.x.data.toList)).size≤1000):=by
  have h1:=W.text1_size t.x.data.toList (by rw [W.len_of]; omega)
  rw [W.len_of] at h1
  show _≤_
  rw [← W.len_of]
  simp [W.bytes]
  omega
 obtain⟨ANS,eANS⟩:∃ q,W.bytes (W.text1 t.x.data.toList ++ W.putL (W.nats (J7 t)))=q:=⟨_,rfl⟩
 have HANS:=zH eANS
 rw [eANS]
 clear hl hf hii eb e2 eANS eB0
 go_enter Tryz.func34,Tryz.ntmps34
 go_upto_region 2 with fail
 rw [E1.out,E2.out,HEB.out]
 clear E1
 clear E2 HEB HB1 HN1 HS1
 go_wp2_with fail
 refine cS.mono ?_
 rintro e w3 ⟨rfl,hw3⟩
 have HW3:=zH hw3
 have hL3:(sgZ t.rs).length≤13:=by unfold sgZ; rw [List.length_cons,List.length_map]; omega
 obtain⟨Z1,eZ1⟩:∃ q,sgZ t.rs=q:=⟨_,rfl⟩
 rw [eZ1] at HW3 hL3
 have HZ1:Hid (sgZ t.rs=Z1):=eZ1
 have x2:w3.cell? ⟨w§,2,none⟩=some (zI t.sl):=Co (HTC.out _ _ _ HW3.out) 2
 clear cS hw3 HW0 x1 eZ1
 have HA4:Hid (Wr w (w3.alloc (.cells (iA [t.sl]) 3)) b ((w3§,3,iA [t.sl]) :: B0) Z1):=HW3.out.add (Bn _ _) _ _ _ (Nat.le_refl _) (Hn _ _)
 have cP4:=Jy b w3§ [t.sl] Z1 B0 (w3.alloc (.cells (iA [t.sl]) 3)) w HA4.out (by intro n hn; rw [List.mem_singleton] at hn; omega) (by rw [List.length_singleton]; omega)
 clear HA4
 go_wp2_with (refine Qq rfl 192 3 (.tmp 14) rfl (iA [t.sl]) (zI t.sl) rfl rfl 1 _ Tryz.underlying192 8 inf3 rfl rfl (by decide) (by decide) ?_)
 refine cP4.mono ?_
 rintro e w4 ⟨rfl,hq4⟩
 have HW4:=zH hq4.less
 clear cP4 hq4
 have x3:w4.cell? ⟨w§,3,none⟩=some (.slice t.ca t.cs.length t.cc):=Co (HTC.out _ _ _ HW4.out) 3
 have cC:=wsigned_any b t.cs (Z1 ++ [t.sl]) t.ca t.cc B0 w4 w HW4.out HTL.out.C HTL.out.Ci (by rw [List.length_append,List.length_singleton]; omega)
 clear x2 HW3
 go_wp2_with fail
 refine cC.mono ?_
 rintro e w5 ⟨rfl,hw5⟩
 have HW5:=zH hw5
 have hL5:(Z1 ++ [t.sl] ++ sgZ t.cs).length≤1040:=by rw [List.length_append,List.length_append,List.length_singleton]; unfold sgZ; rw [List.length_cons,List.length_map]; omega
 obtain⟨Z2,eZ2⟩:∃ q,Z1 ++ [t.sl] ++ sgZ t.cs=q:=⟨_,rfl⟩
 rw [eZ2] at HW5 hL5
 have HZ2:Hid (hdZ t=Z2 ++ [(t.ds.length:Int)]):=by show _=_; unfold hdZ; rw [HZ1.out,eZ2]
 have x4:w5.cell? ⟨w§,4,none⟩=some (.slice t.da t.ds.length t.dc):=Co (HTC.out _ _ _ HW5.out) 4
 have hdm:(t.ds.length:Int)≤4096:=by omega
 clear cC hw5 HW4 x3 eZ2
 have HA6:Hid (Wr w (w5.alloc (.cells (iA [(t.ds.length:Int)]) 3)) b ((w5§,3,iA [(t.ds.length:Int)]) :: B0) Z2):=HW5.out.add (Bn _ _) _ _ _ (Nat.le_refl _) (Hn _ _)
 have cP6:=Jy b w5§ [(t.ds.length:Int)] Z2 B0 (w5.alloc (.cells (iA [(t.ds.length:Int)]) 3)) w HA6.out (by intro n hn; rw [List.mem_singleton] at hn; omega) (by rw [List.length_singleton]; omega)
 clear HA6
 go_wp2_with (refine Qq rfl 192 3 (.tmp 22) rfl (iA [(t.ds.length:Int)]) (zI (t.ds.length:Int)) rfl rfl 1 _ Tryz.underlying192 8 inf3 rfl rfl (by decide) (by decide) ?_)
 refine cP6.mono ?_
 rintro e w6 ⟨rfl,hq6⟩
 have HW6:=zH hq6.less
 clear cP6 hq6
 obtain⟨Z3,eZ3⟩:∃ q,Z2 ++ [(t.ds.length:Int)]=q:=⟨_,rfl⟩
 have hL6:Z3.length≤1041:=by rw [← eZ3,List.length_append,List.length_singleton]; omega
 have HDS:=zH HTL.out.D
 have y4:w6.cell? ⟨w§,4,none⟩=some (.slice t.da t.ds.length t.dc):=Co (HTC.out _ _ _ HW6.out) 4
 rw [eZ3] at HW6
 have HZ3:Hid (hdZ t=Z3):=by show _=_; rw [HZ2.out,eZ3]
 have HZ4:Hid (J7 t=Z3 ++ ((t.ds.map inZ).flatten).map u64 ++ [(t.ts.length:Int)] ++ (t.ts.map stZ).flatten):=by show _=_; unfold J7; rw [HZ3.out]
 obtain⟨ds,eds⟩:∃ q,t.ds=q:=⟨_,rfl⟩
 obtain⟨da,eda⟩:∃ q,t.da=q:=⟨_,rfl⟩
 rw [eds,eda] at HDS y4
 rw [eds] at hd4096 HZ4 HDI
 have HW7:Hid (Wr w w6 b B0 (Z3 ++ ((ds.take 0).map inZ).flatten.map u64)):=by show Wr _ _ _ _ _; have:=HW6.out; simpa using this
 clear HW5 HW6 x4 hdm eZ3 eds eda HZ2 HZ3 HZ1
 go_wp2_with fail
 go_loopw [28] (fun q wr=>∃ (i:Nat),i≤ds.length∧q=zI i∧Hid (Wr w wr b B0 (Z3 ++ ((ds.take i).map inZ).flatten.map u64))) (fun q _=>ds.length - (intOf q).toNat)
 case atStart=>exact⟨0,by omega,rfl,HW7⟩
 case round =>
  obtain⟨i,hi,rfl,HWR⟩:=hrel
  by_cases hlt:i < ds.length
  ·have hlt':(i:Int) < (ds.length:Int):=by omega
   have hmx:(i:Int)+1≤9223372036854775807:=by have h1:=HDS.out.1; have h2:=HDS.out.2.1; rw [List.length_map] at h1; omega
   obtain⟨bb,o,ea,hat⟩:=(HDS.out.on (mapz InM.sz _) HWR.out.below).2.2 i (by rw [List.length_map]; exact hlt)
   simp only [List.getElem_map] at hat
   have HMEM:Hid (ds[i] ∈ ds):=List.getElem_mem hlt
   have HD:Hid (((ds.take (i+1)).map inZ).flatten.map u64=((ds.take i).map inZ).flatten.map u64 ++ [ds[i].k,ds[i].a].map u64):=by show _=_; rw [List.take_succ_eq_append_getElem hlt,List.map_append,List.flatten_append,List.map_singleton,List.flatten_singleton,List.map_append]; rfl
   obtain⟨d,ed⟩:∃ d,ds[i]=d:=⟨_,rfl⟩
   rw [ed] at hat HMEM HD
   have HRG:Hid (wr.rangeAt bb (o+i * 2) d.vals.toList):=fun j v hv=>by
    have hj:j < 2:=(List.getElem?_eq_some_iff.1 hv).1
    rw [hat j hj,← hv]; simp
   have HZ:Hid ((wr.alloc (.cells #[zU 0,zI 0] 61)).heap[wr§]? = some (.cells #[zU 0,zI 0] 61 (0,0))):=Hn _ _
   have HWX:Hid (Below wr§ wr ((wr.alloc (.cells #[zU 0,zI 0] 61)).setRow wr§ d.vals)):=Qc (Bn _ _) (Nat.le_refl _) _
   have HNX:Hid (((wr.alloc (.cells #[zU 0,zI 0] 61)).setRow wr§ d.vals).heap[wr§]? = some (.cells d.vals 61 (0,0))):=setRow_heap _ _ _ _ _ _ HZ.out
   subst ea
   clear hat ed
   go_upto_region 9 with (first | (refine wpList_load_mid rfl 61 (.tmp 30) rfl bb (o+i * 2) rfl d.vals.toList _ HRG.out Tryz.underlying61 rfl (by show _=some 2; exact Jq) ?_; rw [Array.toArray_toList]) | (refine wpList_store_row rfl 61 (.tmp 5) (.tmp 31) rfl wr§ d.vals rfl rfl 61 #[zU 0,zI 0] HZ.out Jq rfl (allIn d) ?_))
   generalize World.setRow _ _ _=WX at HWX HNX ⊢
   clear HZ HRG
   have HWY:Hid (Wr w WX b ((wr§,61,d.vals) :: B0) (Z3 ++ ((ds.take i).map inZ).flatten.map u64)):=HWR.out.add HWX.out _ _ _ (Nat.le_refl _) HNX.out
   have hdi:=(HTL.out.Di d)
   have hb8:B8 d.k∧I64 d.a:=HDI.out d HMEM.out
   obtain⟨⟨hk0,hk1⟩,ha⟩:=hb8
   obtain⟨x0,x1⟩:=cl2 HNX.out
   have hzl:(Z3 ++ ((ds.take i).map inZ).flatten.map u64).length≤10000:=by rw [List.length_append,List.length_map,insZ_le,List.length_take]; omega
   obtain⟨Z5,eZ5⟩:∃ q,Z3 ++ ((ds.take i).map inZ).flatten.map u64=q:=⟨_,rfl⟩
   have HZ5:Hid (Z3 ++ ((ds.take (i+1)).map inZ).flatten.map u64=Z5 ++ [d.k,d.a].map u64):=by show _=_; rw [HD.out,← List.append_assoc,eZ5]
   rw [eZ5] at HWY hzl
   have HA:Hid (Wr w (WX.alloc (.cells (iA [d.k,d.a]) 3)) b ((WX§,3,iA [d.k,d.a]) :: (wr§,61,d.vals) :: B0) Z5):=HWY.out.add (Bn _ _) _ _ _ (Nat.le_refl _) (Hn _ _)
   have cP:=wput_u b WX§ [d.k,d.a] Z5 ((wr§,61,d.vals) :: B0) (WX.alloc (.cells (iA [d.k,d.a]) 3)) w HA.out (by simp only [List.length_cons,List.length_nil]; omega)
   clear HWR HWX HNX HWY HA hdi ha eZ5 HD HMEM
   go_wp2_with fail
   refine cP.mono ?_
   rintro e w9 ⟨rfl,hw9⟩
   have HW9:Hid (Wr w w9 b B0 (Z3 ++ ((ds.take (i+1)).map inZ).flatten.map u64)):=by rw [HZ5.out]; exact hw9.less.less
   clear cP hw9 x0 x1
   go_wp2_with fail
   exact⟨⟨i+1,hlt,rfl,HW9⟩,by simp only [intOf]; omega⟩
  ·obtain rfl:i=ds.length:=by omega
   have hnot:¬ (ds.length:Int) < (ds.length:Int):=by omega
   rename World=>V8
   have HW8:Hid (Wr w V8 b B0 (Z3 ++ (ds.map inZ).flatten.map u64)):=by have:=HWR.out; rw [List.take_length] at this; exact this
   have hzl:(Z3 ++ (ds.map inZ).flatten.map u64).length≤10000:=by rw [List.length_append,List.length_map,insZ_le]; omega
   obtain⟨Z5,eZ5⟩:∃ q,Z3 ++ (ds.map inZ).flatten.map u64=q:=⟨_,rfl⟩
   rw [eZ5] at HW8 hzl HZ4
   have x5:V8.cell? ⟨w§,5,none⟩=some (.slice t.ta t.ts.length t.tc):=Co (HTC.out _ _ _ HW8.out) 5
   have htm:(t.ts.length:Int)≤12:=by omega
   clear HWR eZ5 HW7 y4
   have HA9:Hid (Wr w (V8.alloc (.cells (iA [(t.ts.length:Int)]) 3)) b ((V8§,3,iA [(t.ts.length:Int)]) :: B0) Z5):=HW8.out.add (Bn _ _) _ _ _ (Nat.le_refl _) (Hn _ _)
   have cP9:=Jy b V8§ [(t.ts.length:Int)] Z5 B0 (V8.alloc (.cells (iA [(t.ts.length:Int)]) 3)) w HA9.out (by intro n hn; rw [List.mem_singleton] at hn; omega) (by rw [List.length_singleton]; omega)
   clear HA9
   go_wp2_with (refine Qq rfl 192 3 (.tmp 42) rfl (iA [(t.ts.length:Int)]) (zI (t.ts.length:Int)) rfl rfl 1 _ Tryz.underlying192 8 inf3 rfl rfl (by decide) (by decide) ?_)
   refine cP9.mono ?_
   rintro e w9 ⟨rfl,hq9⟩
   have HW9:=zH hq9.less
   clear cP9 hq9
   obtain⟨Z6,eZ6⟩:∃ q,Z5 ++ [(t.ts.length:Int)]=q:=⟨_,rfl⟩
   have hL9:Z6.length≤10001:=by rw [← eZ6,List.length_append,List.length_singleton]; omega
   have y5:w9.cell? ⟨w§,5,none⟩=some (.slice t.ta t.ts.length t.tc):=Co (HTC.out _ _ _ HW9.out) 5
   have HTT:=zH HTL.out.T
   have HSI:Hid (∀ s ∈ t.ts,StL w s):=HTL.out.Ti
   rw [eZ6] at HW9 HZ4
   obtain⟨ts,ets⟩:∃ q,t.ts=q:=⟨_,rfl⟩
   obtain⟨ta,eta⟩:∃ q,t.ta=q:=⟨_,rfl⟩
   rw [ets,eta] at HTT y5
   rw [ets] at HSI HFB HII HZ4 ht12
   have HWA:Hid (Wr w w9 b B0 (Z6 ++ ((ts.take 0).map stZ).flatten)):=by show Wr _ _ _ _ _; have:=HW9.out; simpa using this
   clear HW8 HW9 x5 htm eZ6 ets eta
   go_wp2_with fail
   go_loopw [48] (fun q wr=>∃ (i:Nat),i≤ts.length∧q=zI i∧Hid (Wr w wr b B0 (Z6 ++ ((ts.take i).map stZ).flatten))) (fun q _=>ts.length - (intOf q).toNat)
   case atStart=>exact⟨0,by omega,rfl,HWA⟩
   case round =>
    obtain⟨i,hi,rfl,HWR⟩:=hrel
    by_cases hlt:i < ts.length
    ·rename World=>V
     have hlt':(i:Int) < (ts.length:Int):=by omega
     have hmx:(i:Int)+1≤9223372036854775807:=by omega
     obtain⟨bb,o,ea,hat⟩:=(HTT.out.on (mapz StM.sz _) HWR.out.below).2.2 i (by rw [List.length_map]; exact hlt)
     simp only [List.getElem_map] at hat
     have hsl:=HSI.out ts[i] (List.getElem_mem hlt)
     have hfb:=HFB.out ts[i] (List.getElem_mem hlt)
     have hin:=HII.out ts[i] (List.getElem_mem hlt)
     have hzs:=stsZ_le (ts.take i) (fun s hs=>HFB.out s (List.mem_of_mem_take hs))
     rw [List.length_take] at hzs
     have HD:Hid (((ts.take (i+1)).map stZ).flatten=((ts.take i).map stZ).flatten ++ ((ts[i].gs.length:Int) :: (ts[i].gs.map gdZ).flatten)):=by show _=_; rw [List.take_succ_eq_append_getElem hlt,List.map_append,List.flatten_append,List.map_singleton,List.flatten_singleton]; rfl
     obtain⟨x,es⟩:∃ x,ts[i]=x:=⟨_,rfl⟩
     rw [es] at hat hsl HD hfb hin
     have hcc:=hat 0 (by omega)
     have cs:V.cell? ⟨bb,o+i,none⟩=some (.slice x.a x.gs.length x.c):=by rw [Nat.mul_one,Nat.add_zero] at hcc; exact hcc
     have HSG:=zH hsl.1
     have HGI:Hid (∀ g ∈ x.gs,GdL w g∧GdB g∧∀ r ∈ g.rs,0≤r.i):=fun g hg=>⟨hsl.2 g hg,hfb.2 g hg,hin g hg⟩
     have hg12:=hfb.1
     have hzz:(Z6 ++ ((ts.take i).map stZ).flatten).length≤20000:=by rw [List.length_append]; omega
     obtain⟨Z7,eZ7⟩:∃ q,Z6 ++ ((ts.take i).map stZ).flatten=q:=⟨_,rfl⟩
     rw [eZ7] at HWR hzz
     subst ea
     obtain⟨gs,egs⟩:∃ q,x.gs=q:=⟨_,rfl⟩
     obtain⟨sa,esa⟩:∃ q,x.a=q:=⟨_,rfl⟩
     rw [egs,esa] at HSG cs
     rw [egs] at HGI HD hg12
     have HZ7:Hid (Z6 ++ ((ts.take (i+1)).map stZ).flatten=Z7 ++ [(gs.length:Int)] ++ (gs.map gdZ).flatten):=by show _=_; rw [HD.out,← List.append_assoc,eZ7]; simp
     have hgm:(gs.length:Int)≤12:=by omega
     clear hat es hcc hsl hfb hin hzs eZ7 egs esa HD
     have HA10:Hid (Wr w (V.alloc (.cells (iA [(gs.length:Int)]) 3)) b ((V§,3,iA [(gs.length:Int)]) :: B0) Z7):=HWR.out.add (Bn _ _) _ _ _ (Nat.le_refl _) (Hn _ _)
     have cP10:=Jy b V§ [(gs.length:Int)] Z7 B0 (V.alloc (.cells (iA [(gs.length:Int)]) 3)) w HA10.out (by intro n hn; rw [List.mem_singleton] at hn; omega) (by rw [List.length_singleton]; omega)
     clear HA10
     go_wp2_with (refine Qq rfl 192 3 (.tmp 53) rfl (iA [(gs.length:Int)]) (zI (gs.length:Int)) rfl rfl 1 _ Tryz.underlying192 8 inf3 rfl rfl (by decide) (by decide) ?_)
     refine cP10.mono ?_
     rintro e w10 ⟨rfl,hq10⟩
     have HW10:=zH hq10.less
     clear cP10 hq10
     obtain⟨Z8,eZ8⟩:∃ q,Z7 ++ [(gs.length:Int)]=q:=⟨_,rfl⟩
     have hL10:Z8.length≤20001:=by rw [← eZ8,List.length_append,List.length_singleton]; omega
     rw [eZ8] at HW10 HZ7
     have HWB:Hid (Wr w w10 b B0 (Z8 ++ ((gs.take 0).map gdZ).flatten)):=by show Wr _ _ _ _ _; have:=HW10.out; simpa using this
     clear HWR HW10 cs hgm eZ8 hzz
     go_wp2_with fail
     go_loopw [58] (fun q wr=>∃ (j:Nat),j≤gs.length∧q=zI j∧Hid (Wr w wr b B0 (Z8 ++ ((gs.take j).map gdZ).flatten))) (fun q _=>gs.length - (intOf q).toNat)
     case atStart=>exact⟨0,by omega,rfl,HWB⟩
     case round =>
      obtain⟨j,hj,rfl,HW2⟩:=hrel
      by_cases hltj:j < gs.length
      ·have hltj':(j:Int) < (gs.length:Int):=by omega
       have hmxj:(j:Int)+1≤9223372036854775807:=by have h1:=HSG.out.1; have h2:=HSG.out.2.1; rw [List.length_map] at h1; omega
       obtain⟨b2,o2,ea,hat⟩:=(HSG.out.on (mapz GdM.sz _) HW2.out.below).2.2 j (by rw [List.length_map]; exact hltj)
       simp only [List.getElem_map] at hat
       have HMEM:Hid (gs[j] ∈ gs):=List.getElem_mem hltj
       have HD2:Hid (((gs.take (j+1)).map gdZ).flatten=((gs.take j).map gdZ).flatten ++ gdZ gs[j]):=by show _=_; rw [List.take_succ_eq_append_getElem hltj,List.map_append,List.flatten_append,List.map_singleton,List.flatten_singleton]
       obtain⟨y,ed⟩:∃ y,gs[j]=y:=⟨_,rfl⟩
       rw [ed] at hat HMEM HD2
       have HRG:Hid (wr.rangeAt b2 (o2+j * 5) y.vals.toList):=fun j9 v hv=>by
        have hj9:j9 < 5:=(List.getElem?_eq_some_iff.1 hv).1
        rw [hat j9 hj9,← hv]; simp
       have HZ:Hid ((wr.alloc (.cells zA4 68)).heap[wr§]? = some (.cells zA4 68 (0,0))):=Hn _ _
       have HWX:Hid (Below wr§ wr ((wr.alloc (.cells zA4 68)).setRow wr§ y.vals)):=Qc (Bn _ _) (Nat.le_refl _) _
       have HNX:Hid (((wr.alloc (.cells zA4 68)).setRow wr§ y.vals).heap[wr§]? = some (.cells y.vals 68 (0,0))):=setRow_heap _ _ _ _ _ _ HZ.out
       subst ea
       clear hat ed
       go_upto_region 19 with (first | (refine wpList_load_mid rfl 68 (.tmp 60) rfl b2 (o2+j * 5) rfl y.vals.toList _ HRG.out Tryz.underlying68 rfl (by show _=some 5; exact QD) ?_; rw [Array.toArray_toList]) | (refine wpList_store_row rfl 68 (.tmp 9) (.tmp 61) rfl wr§ y.vals rfl rfl 68 zA4 HZ.out QD rfl (allGd y) ?_))
       generalize World.setRow _ _ _=WX at HWX HNX ⊢
       clear HZ HRG
       have HWY:=zH (HW2.out.on HWX.out)
       obtain⟨hyl,hyb,hyi⟩:=HGI.out y HMEM.out
       have hzg:=gdsZ_le (gs.take j) (fun g hg=>(HGI.out g (List.mem_of_mem_take hg)).2.1.2.1)
       rw [List.length_take] at hzg
       have cG:=wguard_any b y (Z8 ++ ((gs.take j).map gdZ).flatten) B0 WX w HWY.out hyl hyb hyi (by rw [List.length_append]; omega)
       clear HW2 HMEM HWX hyl hyb hyi hzg HWY
       go_wp2_with (refine wpList_load_row rfl 68 (.tmp 9) rfl wr§ rfl 68 y.vals (0,0) _ HNX.out Tryz.underlying68 rfl QD ?_)
       refine cG.mono ?_
       rintro e w12 ⟨rfl,hw12⟩
       have HWC:Hid (Wr w w12 b B0 (Z8 ++ ((gs.take (j+1)).map gdZ).flatten)):=by show Wr _ _ _ _ _; rw [HD2.out,← List.append_assoc]; exact hw12
       clear cG hw12 HNX HD2
       go_wp2_with fail
       exact⟨⟨j+1,hltj,rfl,HWC⟩,by simp only [intOf]; omega⟩
      ·obtain rfl:j=gs.length:=by omega
       have hnot:¬ (gs.length:Int) < (gs.length:Int):=by omega
       have HWC:Hid (Wr w wr b B0 (Z6 ++ ((ts.take (i+1)).map stZ).flatten)):=by have:=HW2.out; rw [List.take_length,← HZ7.out] at this; exact this
       go_wp2_with fail
       exact⟨⟨i+1,hlt,rfl,HWC⟩,by simp only [intOf]; omega⟩
    ·obtain rfl:i=ts.length:=by omega
     have hnot:¬ (ts.length:Int) < (ts.length:Int):=by omega
     rename World=>V
     have HWE:Hid (Wr w V b B0 (J7 t)):=by have:=HWR.out; rw [List.take_length,← HZ4.out] at this; exact this
     go_upto_region 22 with fail
     obtain⟨vv,hOE⟩:=HWE.out.H
     obtain⟨na,nc,rfl,hLi⟩:=hOE.lies
     have HLi:=zH hLi
     have HFT:Hid (W.Fits (J7 t)):=HFI.out
     have HCL:=zH HCN.out
     have HFA:Hid (∀ v:World,Below V§ V v→v.cell? ⟨w§,0,none⟩=some (.string t.x)∧v.cell? ⟨b,0,none⟩=some (.slice na (J7 t).length nc)):=fun v hv=>by
      have g1:=(HTC.out _ _ _ HWE.out)
      have g2:=hOE.box
      exact⟨Co ((hv.block _ (Array.getElem?_eq_some_iff.1 g1).1).trans g1) 0,Co ((hv.block _ (Array.getElem?_eq_some_iff.1 g2).1).trans g2) 0⟩
     have HBV:=zH HWE.out.below
     have cT:=W.putText_any ⟨#[]⟩ t.x (by decide) (by omega) V.drew
     obtain⟨CZ,eCZ⟩:∃ q,J7 t=q:=⟨_,rfl⟩
     rw [eCZ] at HLi HFT HCL HFA HANS
     clear hOE hLi HWR HWE eCZ HZ4
     refine wp_region_held_drew (S:=fun v=>Below V§ V v) zK ⟨rfl,rfl,rfl,Nat.le_refl _,fun _ _=>rfl⟩ (fun hHeld=>?_)
     refine wpAnyH_take (i:=0) (v:=?_) rfl zK zK zK (fun _ _ _ h=>h) (Or.inl ⟨by rfl,?_⟩) (by assumption) ?_
     rotate_left
     ·(intro v hv; go_simp; try (with_reducible rfl))
     try simp [Act.put]
     refine wpAnyH_take (i:=1) (v:=?_) rfl zK zK zK (fun _ _ _ h=>h) (Or.inl ⟨by rfl,?_⟩) (by assumption) ?_
     rotate_left
     ·(intro v hv; obtain⟨a0,a1⟩:=HFA.out v hv; go_simp; try (with_reducible rfl))
     try simp [Act.put]
     refine wpAnyH_take (i:=3) (v:=?_) rfl zK zK zK (fun _ _ _ h=>h) (Or.inl ⟨by rfl,?_⟩) (by assumption) ?_
     rotate_left
     ·(intro v hv; go_simp; try (with_reducible rfl))
     try simp [Act.put]
     refine wpAnyH_take (i:=4) (v:=?_) rfl zK zK zK (fun _ _ _ h=>h) (Or.inl ⟨by rfl,?_⟩) (by assumption) ?_
     rotate_left
     ·(intro v hv; obtain⟨a0,a1⟩:=HFA.out v hv; go_simp; try (with_reducible rfl))
     try simp [Act.put]
     refine wpAnyH_ready (rs:=[2]) zK (by simp) ?_
     refine AllReadyH.cons rfl (fun K hK=>?_) AllReadyH.nil
     go_simp
     refine cT.mono ?_
     rintro e w13 ⟨rfl,hb13⟩
     have hb13':Below V§ V w13:=⟨hb13.os,hb13.tape,hb13.output,hb13.size,hb13.block⟩
     refine hK.out _ _ hb13' (fun hHeld=>?_)
     clear hK K cT hb13
     try simp [Act.put]
     have hsz:(W.bytes ((⟨#[]⟩:ByteArray).data.toList ++ W.text1 t.x.data.toList)).size≤1000:=HTS.out
     have cQ:=W.put_lies (W.bytes ((⟨#[]⟩:ByteArray).data.toList ++ W.text1 t.x.data.toList)) na CZ.length nc CZ w13 (HLi.out.below hb13') (by have:=HCL.out; omega) HFT.out
     refine wpAnyH_ready (rs:=[5]) zK (by simp) ?_
     refine AllReadyH.cons rfl (fun K hK=>?_) AllReadyH.nil
     go_simp
     refine cQ.mono ?_
     rintro e w14 ⟨rfl,hb14⟩
     have hb14':Below V§ V w14:=Qa hb13' hb14
     refine hK.out _ _ hb14' (fun hHeld=>?_)
     clear hK K cQ hb14
     try simp [Act.put]
     refine wpAnyH_take (i:=6) (v:=?_) rfl zK zK zK (fun _ _ _ h=>h) (Or.inl ⟨by rfl,?_⟩) (by assumption) ?_
     rotate_left
     ·(intro v hv; go_simp; try (with_reducible rfl))
     try simp [Act.put]
     refine wpAnyH_done zK ?_ _
     have HB14:=zH (Qa HBV.out hb14')
     go_wp2_with fail
     go_ret
     exact⟨by rw [← HANS.out]; simp [W.bytes],HB14.out⟩
def encL (t:TbM):List UInt8:=W.text1 t.x.data.toList ++ W.putL (W.nats (J7 t))
def encS (t:TbM):ByteArray:=if Qp t == 0 then W.bytes (W.frS (encL t)) else ⟨#[]⟩
def encE (t:TbM):Int:=if Qp t == 0 then (W.frE (encL t):Nat) else Qp t
theorem encode_any (t:TbM) (w:World) (hl:TbL w t) (htb:Tab w):Calls zG 16 #[.agg t.vals] w fun e w'=>e=.returned (.tuple #[.string (encS t),zI (encE t)])∧Below w§ w w':=by
 have hb1:=Bn w (.cells t.vals 26)
 have hn1:=Hn w (.cells t.vals 26)
 obtain⟨W1,e1⟩:∃ W,w.alloc (.cells t.vals 26)=W:=⟨_,rfl⟩
 have E1:=zH e1
 rw [e1] at hb1 hn1
 have HB1:=zH hb1
 have HN1:=zH hn1
 have HS1:Hid (W1§=w§+1):=by show _=_; rw [← e1]; exact Sa _ _
 clear hb1 e1 hn1
 have cC:=Q5 t W1 (hl.on HB1.out) (htb.on HB1.out)
 have HTL:Hid (TbL w t):=hl
 unfold encS encE
 clear hl htb
 cases hz:(Qp t == 0) with
 | false =>
  have hq:(Qp t != 0)=true:=by simp [bne,hz]
  rw [if_neg (by simp),if_neg (by simp)]
  obtain⟨E,eE⟩:∃ q,Qp t=q:=⟨_,rfl⟩
  rw [eE] at cC hq hz ⊢
  clear eE
  go_enter Tryz.func16,Tryz.ntmps16
  go_upto_region 1 with fail
  rw [E1.out]
  clear E1
  go_wp2_with (refine wpList_load_row rfl 26 (.tmp 1) rfl w§ rfl 26 t.vals (0,0) _ HN1.out Tryz.underlying26 rfl Qe ?_)
  refine cC.mono ?_
  rintro e w2 ⟨rfl,hb2⟩
  have HB2:=zH (Qa HB1.out hb2)
  clear cC hb2
  go_wp2_with fail
  go_ret2
  exact⟨rfl,HB2.out⟩
 | true =>
  have hE:Qp t=0:=by simpa using hz
  have hf:=check_form hz
  rw [if_pos rfl,if_pos rfl]
  rw [hE] at cC
  obtain⟨L,eL⟩:∃ q,encL t=q:=⟨_,rfl⟩
  have HL:Hid (W.bytes (W.text1 t.x.data.toList ++ W.putL (W.nats (J7 t)))=W.bytes L):=by show _=_; rw [← eL]; rfl
  rw [eL]
  clear hE hz eL
  go_enter Tryz.func16,Tryz.ntmps16
  go_upto_region 1 with fail
  rw [E1.out]
  clear E1
  go_wp2_with (refine wpList_load_row rfl 26 (.tmp 1) rfl w§ rfl 26 t.vals (0,0) _ HN1.out Tryz.underlying26 rfl Qe ?_)
  refine cC.mono ?_
  rintro e w2 ⟨rfl,hb2⟩
  have HB2:=zH (Qa HB1.out hb2)
  have HN2:Hid (w2.heap[w§]? = some (.cells t.vals 26 (0,0))):=(hb2.block _ (by rw [HS1.out]; omega)).trans HN1.out
  have cT:=content_any t w2 (HTL.out.on HB2.out) hf
  rw [HL.out] at cT
  clear cC hb2 hf
  go_wp2_with (refine wpList_load_row rfl 26 (.tmp 1) rfl w§ rfl 26 t.vals (0,0) _ HN2.out Tryz.underlying26 rfl Qe ?_)
  refine cT.mono ?_
  rintro e w3 ⟨rfl,hb3⟩
  have HB3:=zH (Qa HB2.out hb3)
  have cF:=W.frame_any (W.bytes L) w3
  rw [show (W.bytes L).data.toList=L by simp [W.bytes]] at cF
  clear cT hb3
  go_wp2_with fail
  refine cF.mono ?_
  rintro e w4 ⟨rfl,hb4⟩
  have HB4:=zH (Qa HB3.out hb4)
  clear cF hb4
  go_wp2_with fail
  go_ret2
  exact⟨rfl,HB4.out⟩
structure RS where
 x0:Value
 x1:Value
 x2:Value
 x3:Value
 x4:Value
 x5:Value
 sp:Int
def rdA (q:RS) (s:ByteArray) (p:Int):Array Value:=#[q.x0,q.x1,q.x2,q.x3,q.x4,q.x5,zI q.sp,.string s,zI p]
structure Rd (w0:World) (mz:Nat) (V:World) (R:Nat) (bs:List (Nat × Nat × Array Value)) (q:RS) (s:ByteArray) (p:Int):Prop where
 H:V.heap[R]? = some (.cells (rdA q s p) 148 (0,0))
 B:Below w0§ w0 V
 G:w0§≤R
 K:∀ b ∈ bs,V.heap[b.1]? = some (.cells b.2.2 b.2.1 (0,0))∧b.1≠R
 L:∀ b ∈ bs,w0§≤b.1
 M:mz≤V§
theorem Rd.lt {mz:Nat}{w0 V:World}{R:Nat}{bs:List (Nat × Nat × Array Value)}{q:RS}{s:ByteArray}{p:Int}(h:Rd w0 mz V R bs q s p):R < V§:=(Array.getElem?_eq_some_iff.1 h.H).1
theorem Rd.on {mz:Nat}{w0 V V':World}{R:Nat}{bs:List (Nat × Nat × Array Value)}{q:RS}{s:ByteArray}{p:Int}(h:Rd w0 mz V R bs q s p) (k:Below V§ V V'):Rd w0 mz V' R bs q s p :=
 ⟨(k.block _ h.lt).trans h.H,Qa h.B k,h.G,fun b hb=>⟨(k.block _ (Array.getElem?_eq_some_iff.1 (h.K b hb).1).1).trans (h.K b hb).1,(h.K b hb).2⟩,h.L,Nat.le_trans h.M k.size⟩
theorem Rd.drew {mz:Nat}{w0 V:World}{R:Nat}{bs:List (Nat × Nat × Array Value)}{q:RS}{s:ByteArray}{p:Int}(h:Rd w0 mz V R bs q s p) (n:Nat):Rd w0 mz (V.drewN n) R bs q s p:=h.on ⟨rfl,rfl,rfl,Nat.le_refl _,fun _ _=>rfl⟩
theorem Rd.set {mz:Nat}{w0 V:World}{R:Nat}{bs:List (Nat × Nat × Array Value)}{q q':RS}{s:ByteArray}{p p':Int}(h:Rd w0 mz V R bs q s p) (j:Nat) (v:Value) (e:(rdA q s p).setIfInBounds j v=rdA q' s p'):Rd w0 mz (V.setCell ⟨R,j,none⟩ v) R bs q' s p' :=
 ⟨by have:=Hs0 (j:=j) v h.H; rw [e] at this; exact this,h.B.setCell h.G _,h.G,fun b hb=>⟨(heap_setCell_other _ _ _ _ (h.K b hb).2).trans (h.K b hb).1,(h.K b hb).2⟩,h.L,by rw [World.size_setCell]; exact h.M⟩
theorem Rd.add {mz:Nat}{w0 V V':World}{R:Nat}{bs:List (Nat × Nat × Array Value)}{q:RS}{s:ByteArray}{p:Int}(h:Rd w0 mz V R bs q s p) (k:Below V§ V V') (g t:Nat) (cs:Array Value) (hg:V§≤g) (hh:V'.heap[g]? = some (.cells cs t (0,0))):Rd w0 mz V' R ((g,t,cs) :: bs) q s p:=by
 have h2:=h.on k
 have:=h.lt
 refine⟨h2.H,h2.B,h2.G,fun b hb=>?_,fun b hb=>?_,h2.M⟩
 ·rcases List.mem_cons.1 hb with rfl | hb
  ·exact⟨hh,by show g≠R; omega⟩
  ·exact h2.K b hb
 ·rcases List.mem_cons.1 hb with rfl | hb
  ·exact Nat.le_trans h.B.size hg
  ·exact h.L b hb
theorem Rd.less {mz:Nat}{w0 V:World}{R:Nat}{b:Nat × Nat × Array Value}{bs:List (Nat × Nat × Array Value)}{q:RS}{s:ByteArray}{p:Int}(h:Rd w0 mz V R (b :: bs) q s p):Rd w0 mz V R bs q s p:=⟨h.H,h.B,h.G,fun b hb=>h.K b (List.mem_cons_of_mem _ hb),fun b hb=>h.L b (List.mem_cons_of_mem _ hb),h.M⟩
theorem Rd.box {mz:Nat}{w0 V:World}{R:Nat}{b:Nat × Nat × Array Value}{bs:List (Nat × Nat × Array Value)}{q:RS}{s:ByteArray}{p:Int}(h:Rd w0 mz V R (b :: bs) q s p):V.heap[b.1]? = some (.cells b.2.2 b.2.1 (0,0)):=(h.K b (List.mem_cons_self ..)).1
def pf:Value:=.iface 94 (.agg #[])
def pan (v:Value):Ending:=.panicked [{ v:=v,recovered:=false }]
def OutV (w0:World) (mz:Nat) (R:Nat) (bs:List (Nat × Nat × Array Value)) (q:RS) (s:ByteArray) (r:Option (Value × Int)) (e:Ending) (w':World):Prop :=
 match r with
 | some (v,p)=>e=.returned v∧Rd w0 mz w' R bs q s p
 | none=>e=pan pf∧Below w0§ w0 w'
def numR (l:List UInt8) (p:Int):Option (Int × Int):=if W.takeE l p=0 then some ((W.takeN l p:Nat),W.takeP l p) else none
def Qh (m:Int) (l:List UInt8) (p:Int):Option (Int × Int):=(numR l p).bind fun n=>if decide (n.1≤m) then some n else none
def signR (l:List UInt8) (p:Int):Option (Int × Int):=(numR l p).map fun n=>(W.zagN n.1,n.2)
def txtR (l:List UInt8) (p:Int):Option (ByteArray × Int):=if W.textE l p=0 then some (W.bytes (W.textS l p),W.textP l p) else none
theorem numR_bd {l:List UInt8}{p n m:Int}(h:numR l p=some (n,m)):0≤n∧n≤18446744073709551615:=by
 unfold numR at h
 split at h
 ·rename_i hE
  obtain⟨g1,g2,g3,g4,_,_⟩:=W.take_one hE
  have:n=(W.takeN l p:Nat):=by simp at h; omega
  omega
 ·cases h
theorem Kc (w:World):Calls zG 42 #[.bool true] w fun e w'=>e=.returned (.tuple #[])∧w'=w:=by
 go_enter Tryz.func42,Tryz.ntmps42
 go_wp2_with fail
 go_end0
 exact⟨rfl,rfl⟩
theorem Kd (w:World):Calls zG 42 #[.bool false] w fun e w'=>e=pan pf∧w'=w:=by
 go_enter Tryz.func42,Tryz.ntmps42
 go_wp2_with fail
 exact⟨rfl,rfl,rfl⟩
theorem rnumber_any {mz:Nat}(R:Nat) (bs:List (Nat × Nat × Array Value)) (q:RS) (s:ByteArray) (p:Int) (w:World) (w0:World) (h:Rd w0 mz w R bs q s p) (hs:s.size≤1099511627776):Calls zG 133 #[zP R] w fun e w'=>OutV w0 mz R bs q s ((numR s.data.toList p).map fun n=>(Value.int .u64 n.1,n.2)) e w':=by
 have cT:=fun w=>W.take_any s p hs w
 have cN:=Kd
 have cO:=Kc
 have c7:w.cell? ⟨R,7,none⟩=some (.string s):=Co h.H 7
 have c8:w.cell? ⟨R,8,none⟩=some (zI p):=Co h.H 8
 have HR:=zH h
 unfold numR OutV
 clear h
 by_cases hE:W.takeE s.data.toList p=0
 ·rw [if_pos hE]
  rw [hE] at cT
  obtain⟨n,en⟩:∃ n,((W.takeN s.data.toList p:Nat):Int)=n:=⟨_,rfl⟩
  obtain⟨p2,ep⟩:∃ p2,W.takeP s.data.toList p=p2:=⟨_,rfl⟩
  rw [en,ep] at cT ⊢
  show Calls zG 133 #[zP R] w (fun e w'=>e=.returned (.int .u64 n)∧Rd w0 mz w' R bs q s p2)
  have HS:Hid (∀ k,Rd w0 mz ((w.drewN k).setCell ⟨R,8,none⟩ (zI p2)) R bs q s p2):=fun k=>(HR.out.drew k).set 8 _ rfl
  have f8:=Fo HR.out.H 8
  clear en ep hE
  go_enter Tryz.func133,Tryz.ntmps133
  go_upto_region 1 with fail
  go_quiet ((go_at_call 132; refine Calls.quiet_of_same (cT _)))
  go_wp2_with fail
  refine (cO _).mono ?_
  rintro e w2 ⟨rfl,rfl⟩
  go_wp2_with fail
  go_ret
  exact⟨rfl,HS.out _⟩
 ·rw [if_neg hE]
  show Calls zG 133 #[zP R] w (fun e w'=>e=pan pf∧Below w0§ w0 w')
  obtain⟨k,ek⟩:∃ k:Int,((W.takeE s.data.toList p:Nat):Int)=k:=⟨_,rfl⟩
  rw [ek] at cT
  have hk:(k == 0)=false:=by simp; omega
  have HB:Hid (∀ n,Below w0§ w0 (w.drewN n)):=fun n=>(HR.out.drew n).B
  clear ek hE
  go_enter Tryz.func133,Tryz.ntmps133
  go_upto_region 1 with fail
  go_quiet ((go_at_call 132; refine Calls.quiet_of_same (cT _)))
  go_wp2_with fail
  refine (cN _).mono ?_
  rintro e w2 ⟨rfl,rfl⟩
  exact⟨rfl,rfl,HB.out _⟩
theorem rtext_any {mz:Nat}(R:Nat) (bs:List (Nat × Nat × Array Value)) (q:RS) (s:ByteArray) (p:Int) (w:World) (w0:World) (h:Rd w0 mz w R bs q s p) (hs:s.size≤1099511627776):Calls zG 109 #[zP R] w fun e w'=>OutV w0 mz R bs q s ((txtR s.data.toList p).map fun n=>(Value.string n.1,n.2)) e w':=by
 have cT:=fun w=>W.takeText_any s p hs w
 have cN:=Kd
 have cO:=Kc
 have c7:w.cell? ⟨R,7,none⟩=some (.string s):=Co h.H 7
 have c8:w.cell? ⟨R,8,none⟩=some (zI p):=Co h.H 8
 have HR:=zH h
 unfold txtR OutV
 clear h
 by_cases hE:W.textE s.data.toList p=0
 ·rw [if_pos hE]
  rw [hE] at cT
  obtain⟨n,en⟩:∃ n,W.bytes (W.textS s.data.toList p)=n:=⟨_,rfl⟩
  obtain⟨p2,ep⟩:∃ p2,W.textP s.data.toList p=p2:=⟨_,rfl⟩
  rw [en,ep] at cT ⊢
  show Calls zG 109 #[zP R] w (fun e w'=>e=.returned (.string n)∧Rd w0 mz w' R bs q s p2)
  have HS:Hid (∀ k,Rd w0 mz ((w.drewN k).setCell ⟨R,8,none⟩ (zI p2)) R bs q s p2):=fun k=>(HR.out.drew k).set 8 _ rfl
  have f8:=Fo HR.out.H 8
  clear en ep hE
  go_enter Tryz.func109,Tryz.ntmps109
  go_upto_region 1 with fail
  go_quiet ((go_at_call 108; refine Calls.quiet_of_same (cT _)))
  go_wp2_with fail
  refine (cO _).mono ?_
  rintro e w2 ⟨rfl,rfl⟩
  go_wp2_with fail
  go_ret
  exact⟨rfl,HS.out _⟩
 ·rw [if_neg hE]
  show Calls zG 109 #[zP R] w (fun e w'=>e=pan pf∧Below w0§ w0 w')
  obtain⟨k,ek⟩:∃ k:Int,((W.textE s.data.toList p:Nat):Int)=k:=⟨_,rfl⟩
  rw [ek] at cT
  have hk:(k == 0)=false:=by simp; omega
  have HB:Hid (∀ n,Below w0§ w0 (w.drewN n)):=fun n=>(HR.out.drew n).B
  clear ek hE
  go_enter Tryz.func109,Tryz.ntmps109
  go_upto_region 1 with fail
  go_quiet ((go_at_call 108; refine Calls.quiet_of_same (cT _)))
  go_wp2_with fail
  refine (cN _).mono ?_
  rintro e w2 ⟨rfl,rfl⟩
  exact⟨rfl,rfl,HB.out _⟩
theorem rsigned_any {mz:Nat}(R:Nat) (bs:List (Nat × Nat × Array Value)) (q:RS) (s:ByteArray) (p:Int) (w:World) (w0:World) (h:Rd w0 mz w R bs q s p) (hs:s.size≤1099511627776):Calls zG 112 #[zP R] w fun e w'=>OutV w0 mz R bs q s ((signR s.data.toList p).map fun n=>(Value.int .i64 n.1,n.2)) e w':=by
 have cT:=rnumber_any R bs q s p w w0 h hs
 have HNB:Hid (∀ n m,numR s.data.toList p=some (n,m)→0≤n∧n≤18446744073709551615):=fun n m hn=>numR_bd hn
 unfold signR
 cases hn:numR s.data.toList p with
 | none =>
  rw [hn] at cT
  show Calls zG 112 #[zP R] w (fun e w'=>e=pan pf∧Below w0§ w0 w')
  replace cT:Calls zG 133 #[zP R] w (fun e w'=>e=pan pf∧Below w0§ w0 w'):=cT
  clear h
  go_enter Tryz.func112,Tryz.ntmps112
  go_wp2_with fail
  refine cT.mono ?_
  rintro e w2 ⟨rfl,hb⟩
  exact⟨rfl,rfl,hb⟩
 | some nm =>
  obtain⟨n,m⟩:=nm
  rw [hn] at cT
  obtain⟨hn0,hn1⟩:=HNB.out n m hn
  show Calls zG 112 #[zP R] w (fun e w'=>e=.returned (zI (W.zagN n))∧Rd w0 mz w' R bs q s m)
  replace cT:Calls zG 133 #[zP R] w (fun e w'=>e=.returned (.int .u64 n)∧Rd w0 mz w' R bs q s m):=cT
  have cZ:=fun w=>W.zag_any n hn0 hn1 w
  clear h hn
  go_enter Tryz.func112,Tryz.ntmps112
  go_wp2_with fail
  refine cT.mono ?_
  rintro e w2 ⟨rfl,hb⟩
  have HR2:=zH hb
  clear cT hb
  go_wp2_with fail
  refine (cZ _).mono ?_
  rintro e w3 ⟨rfl,rfl⟩
  go_wp2_with fail
  go_ret
  exact⟨rfl,HR2.out⟩
theorem QN {mz:Nat}(R:Nat) (bs:List (Nat × Nat × Array Value)) (q:RS) (s:ByteArray) (p:Int) (m:Int) (w:World) (w0:World) (h:Rd w0 mz w R bs q s p) (hs:s.size≤1099511627776) (hm:0≤m∧m≤100000):Calls zG 111 #[zP R,zI m] w fun e w'=>OutV w0 mz R bs q s ((Qh m s.data.toList p).map fun n=>(Value.int .i64 n.1,n.2)) e w':=by
 have cT:=rnumber_any R bs q s p w w0 h hs
 have HNB:Hid (∀ n m,numR s.data.toList p=some (n,m)→0≤n∧n≤18446744073709551615):=fun n m hn=>numR_bd hn
 have cN:=Kd
 have cO:=Kc
 have hmm:m % 18446744073709551616=m:=by omega
 unfold Qh
 cases hn:numR s.data.toList p with
 | none =>
  rw [hn] at cT
  show Calls zG 111 #[zP R,zI m] w (fun e w'=>e=pan pf∧Below w0§ w0 w')
  replace cT:Calls zG 133 #[zP R] w (fun e w'=>e=pan pf∧Below w0§ w0 w'):=cT
  clear h
  go_enter Tryz.func111,Tryz.ntmps111
  go_wp2_with fail
  refine cT.mono ?_
  rintro e w2 ⟨rfl,hb⟩
  exact⟨rfl,rfl,hb⟩
 | some nm =>
  obtain⟨n,p2⟩:=nm
  rw [hn] at cT
  obtain⟨hn0,hn1⟩:=HNB.out n p2 hn
  replace cT:Calls zG 133 #[zP R] w (fun e w'=>e=.returned (.int .u64 n)∧Rd w0 mz w' R bs q s p2):=cT
  show Calls zG 111 #[zP R,zI m] w (OutV w0 mz R bs q s (Option.map _ (if decide (n≤m) then some (n,p2) else none)))
  cases hd:decide (n≤m) with
  | true =>
   have hle:n≤m:=of_decide_eq_true hd
   have hn2:n≤9223372036854775807:=by omega
   show Calls zG 111 #[zP R,zI m] w (fun e w'=>e=.returned (zI n)∧Rd w0 mz w' R bs q s p2)
   clear h hn
   go_enter Tryz.func111,Tryz.ntmps111
   go_wp2_with fail
   refine cT.mono ?_
   rintro e w2 ⟨rfl,hb⟩
   have HR2:=zH hb
   clear cT hb
   go_wp2_with fail
   refine (cO _).mono ?_
   rintro e w3 ⟨rfl,rfl⟩
   go_wp2_with fail
   go_ret
   exact⟨rfl,HR2.out⟩
  | false =>
   show Calls zG 111 #[zP R,zI m] w (fun e w'=>e=pan pf∧Below w0§ w0 w')
   clear h hn
   go_enter Tryz.func111,Tryz.ntmps111
   go_wp2_with fail
   refine cT.mono ?_
   rintro e w2 ⟨rfl,hb⟩
   have HR2:=zH hb.B
   clear cT hb
   go_wp2_with fail
   refine (cN _).mono ?_
   rintro e w3 ⟨rfl,rfl⟩
   exact⟨rfl,rfl,HR2.out⟩
def OutQ (w0:World) (mz:Nat) (R:Nat) (bs:List (Nat × Nat × Array Value)) (s:ByteArray) (r:Option (Value × RS × Int)) (e:Ending) (w':World):Prop :=
 match r with
 | some (v,q,p)=>e=.returned v∧Rd w0 mz w' R bs q s p
 | none=>e=pan pf∧Below w0§ w0 w'
theorem Qo {m:Int}{l:List UInt8}{p n p2:Int}(h:Qh m l p=some (n,p2)):0≤n∧n≤m:=by
 unfold Qh at h
 obtain⟨⟨a,b⟩,h1,h2⟩:=Option.bind_eq_some_iff.1 h
 have:=numR_bd h1
 split at h2
 ·rename_i hd
  have hd:=of_decide_eq_true hd
  simp at h2 hd
  omega
 ·cases h2
theorem Jw {mz:Nat}{m:Int}{R:Nat}{bs:List (Nat × Nat × Array Value)}{q:RS}{s:ByteArray}{p:Int}{w w0:World}(h:Rd w0 mz w R bs q s p) (hs:s.size≤1099511627776) (hm:0≤m∧m≤100000) (hn:Qh m s.data.toList p=none):Calls zG 111 #[zP R,zI m] w fun e w'=>e=pan pf∧Below w0§ w0 w':=by
 have c:=QN R bs q s p m w w0 h hs hm
 rw [hn] at c
 exact c
theorem Jd {mz:Nat}{m n p2:Int}{R:Nat}{bs:List (Nat × Nat × Array Value)}{q:RS}{s:ByteArray}{p:Int}{w w0:World}(h:Rd w0 mz w R bs q s p) (hs:s.size≤1099511627776) (hm:0≤m∧m≤100000) (hn:Qh m s.data.toList p=some (n,p2)):Calls zG 111 #[zP R,zI m] w fun e w'=>e=.returned (zI n)∧Rd w0 mz w' R bs q s p2:=by
 have c:=QN R bs q s p m w w0 h hs hm
 rw [hn] at c
 exact c
theorem Rd.row {mz:Nat}{w0 V:World}{R g t:Nat}{cs:Array Value}{bs:List (Nat × Nat × Array Value)}{q:RS}{s:ByteArray}{p:Int}(h:Rd w0 mz V R ((g,t,cs) :: bs) q s p) (hg:w0§≤g) (cs':Array Value) (hN:∀ b ∈ bs,b.1≠g):Rd w0 mz (V.setRow g cs') R bs q s p:=by
 have hR:=(h.K _ (List.mem_cons_self ..)).2
 exact⟨(setRow_other _ _ _ _ (Ne.symm hR)).trans h.H,Qc h.B hg _,h.G,fun b hb=>⟨(setRow_other _ _ _ _ (hN b hb)).trans (h.K b (List.mem_cons_of_mem _ hb)).1,(h.K b (List.mem_cons_of_mem _ hb)).2⟩,fun b hb=>h.L b (List.mem_cons_of_mem _ hb),by have:=h.M; unfold World.setRow; simpa using this⟩
theorem Rd.fresh {mz:Nat}{w0 V:World}{R:Nat}{bs:List (Nat × Nat × Array Value)}{q:RS}{s:ByteArray}{p:Int}(h:Rd w0 mz V R bs q s p):∀ b ∈ bs,b.1≠V§:=fun b hb=>Nat.ne_of_lt (Array.getElem?_eq_some_iff.1 (h.K b hb).1).1
def JX (l:List UInt8) (p:Int):Option (InM × Int):=(Qh 9 l p).bind fun k=>(Qh 4096 l k.2).map fun a=>(⟨k.1,a.1⟩,a.2)
theorem rinstr_any {mz:Nat}(R:Nat) (bs:List (Nat × Nat × Array Value)) (q:RS) (s:ByteArray) (p:Int) (w:World) (w0:World) (h:Rd w0 mz w R bs q s p) (hs:s.size≤1099511627776):Calls zG 114 #[zP R] w fun e w'=>OutQ w0 mz R bs s ((JX s.data.toList p).map fun d=>(.agg d.1.vals,q,d.2)) e w':=by
 have HR1:Hid (Rd w0 mz (w.alloc (.cells #[zU 0,zI 0] 61)) R ((w§,61,#[zU 0,zI 0]) :: bs) q s p):=h.add (Bn _ _) _ _ _ (Nat.le_refl _) (Hn _ _)
 have HG:=zH h.B.size
 have HFR:=zH h.fresh
 unfold JX
 clear h
 cases hk:Qh 9 s.data.toList p with
 | none =>
  have cK:=Jw HR1.out hs (by omega) hk
  show Calls zG 114 #[zP R] w (fun e w'=>e=pan pf∧Below w0§ w0 w')
  go_enter Tryz.func114,Tryz.ntmps114
  go_wp2_with fail
  refine cK.mono ?_
  rintro e w2 ⟨rfl,hb⟩
  exact⟨rfl,rfl,hb⟩
 | some kp =>
  obtain⟨k,p2⟩:=kp
  have cK:=Jd HR1.out hs (by omega) hk
  obtain⟨hk0,hk9⟩:=Qo hk
  have hkm:k % 256=k:=by omega
  show Calls zG 114 #[zP R] w (OutQ w0 mz R bs s (Option.map _ (Option.map _ (Qh 4096 s.data.toList p2))))
  cases ha:Qh 4096 s.data.toList p2 with
  | none =>
   show Calls zG 114 #[zP R] w (fun e w'=>e=pan pf∧Below w0§ w0 w')
   clear hk
   go_enter Tryz.func114,Tryz.ntmps114
   go_wp2_with fail
   refine cK.mono ?_
   rintro e w2 ⟨rfl,hr⟩
   have cA:=Jw hr hs (by omega) ha
   clear cK hr
   go_wp2_with fail
   refine cA.mono ?_
   rintro e w3 ⟨rfl,hb⟩
   exact⟨rfl,rfl,hb⟩
  | some ap =>
   obtain⟨a,p3⟩:=ap
   show Calls zG 114 #[zP R] w (fun e w'=>e=.returned (.agg (InM.vals ⟨k,a⟩))∧Rd w0 mz w' R bs q s p3)
   clear hk
   go_enter Tryz.func114,Tryz.ntmps114
   go_wp2_with fail
   refine cK.mono ?_
   rintro e w2 ⟨rfl,hr⟩
   have cA:=Jd hr hs (by omega) ha
   clear cK hr
   go_wp2_with fail
   refine cA.mono ?_
   rintro e w3 ⟨rfl,hr⟩
   have HR3:=zH hr
   have HN3:=zH hr.box
   have HRS:Hid (Rd w0 mz (w3.setRow w§ (InM.vals ⟨k,a⟩)) R bs q s p3):=HR3.out.row HG.out _ HFR.out
   have HNS:Hid ((w3.setRow w§ (InM.vals ⟨k,a⟩)).heap[w§]? = some (.cells (InM.vals ⟨k,a⟩) 61 (0,0))):=setRow_heap _ _ _ _ _ _ HN3.out
   clear cA hr
   go_wp2_with (refine wpList_store_row rfl 61 (.tmp 2) (.tmp 10) rfl w§ (InM.vals ⟨k,a⟩) rfl rfl 61 #[zU 0,zI 0] HN3.out Jq rfl (allIn _) ?_)
   exact bodyPost_ret (results_cell_row rfl _ _ w§ 61 (InM.vals ⟨k,a⟩) (0,0) _ rfl HNS.out Tryz.underlying61 rfl Jq) rfl ⟨rfl,HRS.out⟩
def spR (q:RS) (n:Int):RS:={ q with sp:=q.sp+n }
theorem rspan_any {mz:Nat}(R:Nat) (bs:List (Nat × Nat × Array Value)) (q:RS) (s:ByteArray) (p n:Int) (w:World) (w0:World) (h:Rd w0 mz w R bs q s p) (hn0:0≤n) (hn1:n≤100000) (hq0:0≤q.sp) (hq1:q.sp≤1000000000000):Calls zG 155 #[zP R,zI n] w fun e w'=>e=.returned (.agg (Sp.vals ⟨q.sp,q.sp+n⟩))∧Rd w0 mz w' R bs (spR q n) s p:=by
 have HR1:Hid (Rd w0 mz (w.alloc (.cells #[zI 0,zI 0] 65)) R ((w§,65,#[zI 0,zI 0]) :: bs) q s p):=h.add (Bn _ _) _ _ _ (Nat.le_refl _) (Hn _ _)
 have HG:=zH h.B.size
 have HFR:=zH h.fresh
 have HRG:Hid (w§≠R):=by have:=h.lt; show _≠_; omega
 obtain⟨W1,e1⟩:∃ W,w.alloc (.cells #[zI 0,zI 0] 65)=W:=⟨_,rfl⟩
 have E1:=zH e1
 rw [e1] at HR1
 have c6:W1.cell? ⟨R,6,none⟩=some (zI q.sp):=Co HR1.out.H 6
 have f6:=Fo HR1.out.H 6
 have HR2:Hid (Rd w0 mz (W1.setCell ⟨R,6,none⟩ (zI (q.sp+n))) R ((w§,65,#[zI 0,zI 0]) :: bs) (spR q n) s p):=HR1.out.set 6 _ rfl
 clear h e1
 go_enter Tryz.func155,Tryz.ntmps155
 go_upto_region 1 with fail
 rw [E1.out]
 clear E1
 go_upto_region 3 with fail
 generalize W1.setCell ⟨R,6,none⟩ (zI (q.sp+n))=W2 at HR2 ⊢
 have d6:W2.cell? ⟨R,6,none⟩=some (zI (q.sp+n)):=Co HR2.out.H 6
 have HN3:=zH HR2.out.box
 have HRS:Hid (Rd w0 mz (W2.setRow w§ (Sp.vals ⟨q.sp,q.sp+n⟩)) R bs (spR q n) s p):=HR2.out.row HG.out _ HFR.out
 have HNS:Hid ((W2.setRow w§ (Sp.vals ⟨q.sp,q.sp+n⟩)).heap[w§]? = some (.cells (Sp.vals ⟨q.sp,q.sp+n⟩) 65 (0,0))):=setRow_heap _ _ _ _ _ _ HN3.out
 clear c6 f6 HR1
 go_wp2_with (refine wpList_store_row rfl 65 (.tmp 4) (.tmp 23) rfl w§ (Sp.vals ⟨q.sp,q.sp+n⟩) rfl rfl 65 #[zI 0,zI 0] HN3.out Qt rfl (JF _) ?_)
 exact bodyPost_ret (results_cell_row rfl _ _ w§ 65 (Sp.vals ⟨q.sp,q.sp+n⟩) (0,0) _ rfl HNS.out Tryz.underlying65 rfl Qt) rfl ⟨rfl,HRS.out⟩
def lenR (q:RS) (l:List UInt8) (p:Int):Option (Sp × RS × Int):=(Qh 4096 l p).map fun n=>(⟨q.sp,q.sp+n.1⟩,spR q n.1,n.2)
theorem rlength_any {mz:Nat}(R:Nat) (bs:List (Nat × Nat × Array Value)) (q:RS) (s:ByteArray) (p:Int) (w:World) (w0:World) (h:Rd w0 mz w R bs q s p) (hs:s.size≤1099511627776) (hq:0≤q.sp∧q.sp≤1000000000000):Calls zG 149 #[zP R] w fun e w'=>OutQ w0 mz R bs s ((lenR q s.data.toList p).map fun d=>(.agg d.1.vals,d.2.1,d.2.2)) e w':=by
 have HR1:Hid (Rd w0 mz (w.alloc (.cells #[zI 0,zI 0] 65)) R ((w§,65,#[zI 0,zI 0]) :: bs) q s p):=h.add (Bn _ _) _ _ _ (Nat.le_refl _) (Hn _ _)
 have HG:=zH h.B.size
 have HFR:=zH h.fresh
 obtain⟨W1,e1⟩:∃ W,w.alloc (.cells #[zI 0,zI 0] 65)=W:=⟨_,rfl⟩
 have E1:=zH e1
 rw [e1] at HR1
 have HR2:Hid (Rd w0 mz W1.drew R ((w§,65,#[zI 0,zI 0]) :: bs) q s p):=HR1.out.on ⟨rfl,rfl,rfl,Nat.le_refl _,fun _ _=>rfl⟩
 unfold lenR
 clear h e1 HR1
 cases hk:Qh 4096 s.data.toList p with
 | none =>
  have cK:=Jw HR2.out hs (by omega) hk
  show Calls zG 149 #[zP R] w (fun e w'=>e=pan pf∧Below w0§ w0 w')
  go_enter Tryz.func149,Tryz.ntmps149
  go_upto_region 1 with fail
  rw [E1.out]
  clear E1
  refine wp_region_held_drew (S:=fun _=>True) zK trivial (fun hHeld=>?_)
  refine wpAnyH_take (i:=0) (v:=?_) rfl zK zK zK (fun _ _ _ h=>h) (Or.inl ⟨by rfl,?_⟩) (by assumption) ?_
  rotate_left
  ·(intro v hv; go_simp; try (with_reducible rfl))
  try simp [Act.put]
  refine wpAnyH_take (i:=1) (v:=?_) rfl zK zK zK (fun _ _ _ h=>h) (Or.inl ⟨by rfl,?_⟩) (by assumption) ?_
  rotate_left
  ·(intro v hv; go_simp; try (with_reducible rfl))
  try simp [Act.put]
  refine wpAnyH_take (i:=2) (v:=?_) rfl zK zK zK (fun _ _ _ h=>h) (Or.inl ⟨by rfl,?_⟩) (by assumption) ?_
  rotate_left
  ·(intro v hv; go_simp; try (with_reducible rfl))
  try simp [Act.put]
  refine wpAnyH_take (i:=3) (v:=?_) rfl zK zK zK (fun _ _ _ h=>h) (Or.inl ⟨by rfl,?_⟩) (by assumption) ?_
  rotate_left
  ·(intro v hv; go_simp; try (with_reducible rfl))
  try simp [Act.put]
  refine wpAnyH_ready (rs:=[4]) zK (by simp) ?_
  refine AllReadyH.cons rfl (fun K hK=>?_) AllReadyH.nil
  go_simp
  refine cK.mono ?_
  rintro e w2 ⟨rfl,hb⟩
  exact⟨rfl,rfl,hb⟩
 | some kp =>
  obtain⟨n,p2⟩:=kp
  have cK:=Jd HR2.out hs (by omega) hk
  obtain⟨hn0,hn1⟩:=Qo hk
  show Calls zG 149 #[zP R] w (fun e w'=>e=.returned (.agg (Sp.vals ⟨q.sp,q.sp+n⟩))∧Rd w0 mz w' R bs (spR q n) s p2)
  clear hk
  go_enter Tryz.func149,Tryz.ntmps149
  go_upto_region 1 with fail
  rw [E1.out]
  clear E1
  refine wp_region_held_drew (S:=fun _=>True) zK trivial (fun hHeld=>?_)
  refine wpAnyH_take (i:=0) (v:=?_) rfl zK zK zK (fun _ _ _ h=>h) (Or.inl ⟨by rfl,?_⟩) (by assumption) ?_
  rotate_left
  ·(intro v hv; go_simp; try (with_reducible rfl))
  try simp [Act.put]
  refine wpAnyH_take (i:=1) (v:=?_) rfl zK zK zK (fun _ _ _ h=>h) (Or.inl ⟨by rfl,?_⟩) (by assumption) ?_
  rotate_left
  ·(intro v hv; go_simp; try (with_reducible rfl))
  try simp [Act.put]
  refine wpAnyH_take (i:=2) (v:=?_) rfl zK zK zK (fun _ _ _ h=>h) (Or.inl ⟨by rfl,?_⟩) (by assumption) ?_
  rotate_left
  ·(intro v hv; go_simp; try (with_reducible rfl))
  try simp [Act.put]
  refine wpAnyH_take (i:=3) (v:=?_) rfl zK zK zK (fun _ _ _ h=>h) (Or.inl ⟨by rfl,?_⟩) (by assumption) ?_
  rotate_left
  ·(intro v hv; go_simp; try (with_reducible rfl))
  try simp [Act.put]
  refine wpAnyH_ready (rs:=[4]) zK (by simp) ?_
  refine AllReadyH.cons rfl (fun K hK=>?_) AllReadyH.nil
  go_simp
  refine cK.mono ?_
  rintro e w2 ⟨rfl,hr⟩
  have cS:=rspan_any R ((w§,65,#[zI 0,zI 0]) :: bs) q s p2 n w2 w0 hr hn0 (by omega) hq.1 hq.2
  refine hK.out _ _ trivial (fun hHeld=>?_)
  clear hK K cK hr
  try simp [Act.put]
  refine wpAnyH_ready (rs:=[5]) zK (by simp) ?_
  refine AllReadyH.cons rfl (fun K hK=>?_) AllReadyH.nil
  go_simp
  refine cS.mono ?_
  rintro e w3 ⟨rfl,hr⟩
  have HN3:=zH hr.box
  have HRS:Hid (Rd w0 mz (w3.setRow w§ (Sp.vals ⟨q.sp,q.sp+n⟩)) R bs (spR q n) s p2):=hr.row HG.out _ HFR.out
  have HNS:Hid ((w3.setRow w§ (Sp.vals ⟨q.sp,q.sp+n⟩)).heap[w§]? = some (.cells (Sp.vals ⟨q.sp,q.sp+n⟩) 65 (0,0))):=setRow_heap _ _ _ _ _ _ HN3.out
  refine hK.out _ _ trivial (fun hHeld=>?_)
  clear hK K cS hr
  try simp [Act.put]
  refine wpAnyH_ready (rs:=[6]) zK (by simp) ?_
  refine AllReadyH.cons rfl (fun K hK=>?_) AllReadyH.nil
  rw [if_pos (by rfl)]
  refine wp_store_row 65 (.tmp 2) (.tmp 8) rfl w§ (Sp.vals ⟨q.sp,q.sp+n⟩) rfl rfl 65 #[zI 0,zI 0] HN3.out Qt rfl (JF _) ?_
  refine hK.out _ _ trivial (fun hHeld=>?_)
  clear hK K
  try simp [Act.put]
  refine wpAnyH_done zK ?_ _
  go_wp2_with fail
  exact bodyPost_ret (results_cell_row rfl _ _ w§ 65 (Sp.vals ⟨q.sp,q.sp+n⟩) (0,0) _ rfl HNS.out Tryz.underlying65 rfl Qt) rfl ⟨rfl,HRS.out⟩
end Go.Proofs.YteedmmljahgpjaaGreatDoor
