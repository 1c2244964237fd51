import Derived.Test.YtjimaceccllnlaaGreatDoorA0
import Derived.Test.YtjimaceccllnlaaGreatDoorA23
namespace Go.Proofs.YtjimaceccllnlaaGreatDoor
set_option maxRecDepth 100000
set_option maxHeartbeats 16000000
open Go.RowKit Go.Maps
set_option linter.unusedVariables false
set_option linter.unusedSimpArgs false
theorem Dec.start (w:World) (r:StratM):Dec w ((((((w.alloc (.cells r.vals 38)).alloc (.cells #[.map none, .map none, .map none] 118)).alloc (.map #[] 0)).alloc (.map #[] 0)).alloc (.map #[] 0)).alloc (.cells #[.map (some (w§ + 2)), .map (some (w§ + 3)), .map (some (w§ + 4))] 118)) r 0 0 0 [] [] []:=by
 have b1:=Bn w (.cells r.vals 38)
 have n1:=Hn w (.cells r.vals 38)
 have s1:=Sa w (.cells r.vals 38)
 obtain ⟨W1, e1⟩:∃ W, w.alloc (.cells r.vals 38)=W:=⟨_, rfl⟩
 rw [e1] at b1 n1 s1 ⊢
 have b2:=Bn W1 (.cells #[.map none, .map none, .map none] 118)
 have n2:=Hn W1 (.cells #[.map none, .map none, .map none] 118)
 have s2:=Sa W1 (.cells #[.map none, .map none, .map none] 118)
 obtain ⟨W2, e2⟩:∃ W, W1.alloc (.cells #[.map none, .map none, .map none] 118)=W:=⟨_, rfl⟩
 rw [e2] at b2 n2 s2 ⊢
 have b3:=Bn W2 (.map #[] 0)
 have n3:=RgN.made W2
 have s3:=Sa W2 (.map #[] 0)
 obtain ⟨W3, e3⟩:∃ W, W2.alloc (.map #[] 0)=W:=⟨_, rfl⟩
 rw [e3] at b3 n3 s3 ⊢
 have b4:=Bn W3 (.map #[] 0)
 have n4:=NmN.made W3
 have s4:=Sa W3 (.map #[] 0)
 obtain ⟨W4, e4⟩:∃ W, W3.alloc (.map #[] 0)=W:=⟨_, rfl⟩
 rw [e4] at b4 n4 s4 ⊢
 have b5:=Bn W4 (.map #[] 0)
 have n5:=NmN.made W4
 have s5:=Sa W4 (.map #[] 0)
 obtain ⟨W5, e5⟩:∃ W, W4.alloc (.map #[] 0)=W:=⟨_, rfl⟩
 rw [e5] at b5 n5 s5 ⊢
 have b6:=Bn W5 (.cells #[.map (some (w§ + 2)), .map (some (w§ + 3)), .map (some (w§ + 4))] 118)
 have n6:=Hn W5 (.cells #[.map (some (w§ + 2)), .map (some (w§ + 3)), .map (some (w§ + 4))] 118)
 obtain ⟨W6, e6⟩:∃ W, W5.alloc (.cells #[.map (some (w§ + 2)), .map (some (w§ + 3)), .map (some (w§ + 4))] 118)=W:=⟨_, rfl⟩
 rw [e6] at b6 n6 ⊢
 have q56:=b6
 have q46:=below2 b5 q56
 have q36:=below2 b4 q46
 have q26:=below2 b3 q36
 have q16:=below2 b2 q26
 rw [show W5§=w§ + 5 by omega] at n6
 rw [show W4§=w§ + 4 by omega] at n5
 rw [show W3§=w§ + 3 by omega] at n4
 rw [show W2§=w§ + 2 by omega] at n3
 rw [show W1§=w§ + 1 by omega] at n2
 exact ⟨below2 b1 q16, (q16.block _ (Array.getElem?_eq_some_iff.1 n1).1).trans n1, (q26.block _ (Array.getElem?_eq_some_iff.1 n2).1).trans n2, n6, n3.on q36, n4.on q46, n5.on q56⟩
theorem dNms_yes {S:List ByteArray} {x:ByteArray × Int} {xs:List (ByteArray × Int)} (h:inS S x.1=true):dNms S (x :: xs)=some (x.2, 150):=by simp [dNms, h]
theorem dNms_no {S:List ByteArray} {x:ByteArray × Int} {xs:List (ByteArray × Int)} (h:inS S x.1=false):dNms S (x :: xs)=dNms (S ++ [x.1]) xs:=by simp [dNms, h]
theorem mv_row (V:World) (R:Nat) (cs:Array Value):Mv V (V.setRow R cs) (fun k => k=R):=by
 exact ⟨rfl, rfl, rfl, by unfold World.setRow; simp, fun k _ hk => setRow_oth V R cs hk⟩
theorem declared_any (r:StratM) (w:World) (hl:StratL w r) (ht:FTab w) (ho:∀ d ∈ r.rs, OkT d.m):Calls zG 66 #[.agg r.vals] w (OutK w r):=by
 have hmk:∀ (t:TypeId) (w:World), Sem.run Tryz.prog (Instr.makeMap t none) w=.ok (.map (some w§)) (w.alloc (.map #[] 0)):=fun t w => rfl
 have hD:=Dec.start w r
 obtain ⟨W, eW⟩:∃ W, ((((((w.alloc (.cells r.vals 38)).alloc (.cells #[.map none, .map none, .map none] 118)).alloc (.map #[] 0)).alloc (.map #[] 0)).alloc (.map #[] 0)).alloc (.cells #[.map (some (w§ + 2)), .map (some (w§ + 3)), .map (some (w§ + 4))] 118))=W:=⟨_, rfl⟩
 have HW:Hid (((((((w.alloc (.cells r.vals 38)).alloc (.cells #[.map none, .map none, .map none] 118)).alloc (.map #[] 0)).alloc (.map #[] 0)).alloc (.map #[] 0)).alloc (.cells #[.map (some (w§ + 2)), .map (some (w§ + 3)), .map (some (w§ + 4))] 118))=W):=eW
 rw [eW] at hD
 have HD0:Hid (Dec w W r 0 0 0 [] [] []):=hD
 have HH:Hid (StratL w r∧FTab w∧∀ d ∈ r.rs, OkT d.m):=⟨hl, ht, ho⟩
 clear hD eW hl ht ho
 go_enter Tryz.func66, Tryz.ntmps66
 go_upto_region 2 with fail
 rw [show w§ + 1 + 1=w§ + 2 from rfl, show w§ + 2 + 1=w§ + 3 from rfl, show w§ + 3 + 1=w§ + 4 from rfl, show w§ + 4 + 1=w§ + 5 from rfl, HW.out]
 clear HW
 have HDQ:Hid (Dec w W r 0 0 0 [] [] []):=HD0.out
 obtain ⟨ds, eds⟩:∃ l, r.rs=l:=⟨_, rfl⟩
 have HEds:Hid (r.rs=ds):=eds
 have HSL1:Hid (SlAt w 11 r.ra r.rc (ds.map RegM.vals)):=by have h1:=HH.out.1.1; rw [eds] at h1; exact h1
 obtain ⟨ra1, era1⟩:∃ q, r.ra=q:=⟨_, rfl⟩
 have q1:W.cell? ⟨w§, 1, none⟩=some (.slice ra1 ds.length r.rc):=by rw [← eds, ← era1]; exact Co HDQ.out.box 1
 rw [era1] at HSL1
 clear eds era1
 go_wp2_with fail
 go_loopw [6, 7, 21] (fun t6 t7 t wr => ∃ i:Nat, i≤ds.length∧t=zI i∧Hid (Dec w wr r i 0 0 (ds.take i) [] [])∧Hid (dRegs [] ds=dRegs (ds.take i) (ds.drop i))) (fun t6 t7 t _ => ds.length - (intOf t).toNat)
 case atStart => exact ⟨0, by omega, rfl, HDQ.out, rfl⟩
 case round =>
  obtain ⟨i, hi, rfl, HDR, HR⟩:=hrel
  by_cases hlt:i < ds.length
  ·have hlt':(i:Int) < (ds.length:Int):=by omega
   have hlen:ds.length≤9223372036854775807:=by have h1:=HSL1.out.1; have h2:=HSL1.out.2.1; rw [List.length_map] at h1; omega
   have hmx:(i:Int) + 1≤9223372036854775807:=by omega
   have hn:i < maxLen:=by unfold maxLen; omega
   obtain ⟨b, o, ea, hat⟩:=(HSL1.out.on (mapz RegM.sz _) HDR.out.bel).2.2 i (by rw [List.length_map]; exact hlt)
   simp only [List.getElem_map] at hat
   have HMEM:Hid (ds[i] ∈ ds):=List.getElem_mem hlt
   have HTK:Hid (ds.take (i + 1)=ds.take i ++ [ds[i]]∧ds.drop i=ds[i] :: ds.drop (i + 1)):=⟨by simp, List.drop_eq_getElem_cons hlt⟩
   obtain ⟨d, ed⟩:∃ d, ds[i]=d:=⟨_, rfl⟩
   rw [ed] at hat HTK HMEM
   have HRG:Hid (wr.rangeAt b (o + i * 11) d.vals.toList):=fun j v hv => by
    have hj:j < 11:=(List.getElem?_eq_some_iff.1 hv).1
    rw [hat j hj, ← hv]; simp
   have HZ:Hid ((wr.alloc (.cells #[.string ⟨#[]⟩, zU 0, zU 0, zU 0, zU 0, zI 0, zU 0, .string ⟨#[]⟩, .slice none 0 0, zI 0, zI 0] 77)).heap[wr§]?=some (.cells #[.string ⟨#[]⟩, zU 0, zU 0, zU 0, zU 0, zI 0, zU 0, .string ⟨#[]⟩, .slice none 0 0, zI 0, zI 0] 77 (0, 0))):=Hn _ _
   have hbx:Below wr§ wr ((wr.alloc (.cells #[.string ⟨#[]⟩, zU 0, zU 0, zU 0, zU 0, zI 0, zU 0, .string ⟨#[]⟩, .slice none 0 0, zI 0, zI 0] 77)).setRow wr§ d.vals):=below_row (Bn _ _) (Nat.le_refl _) _
   have HNX:Hid (((wr.alloc (.cells #[.string ⟨#[]⟩, zU 0, zU 0, zU 0, zU 0, zI 0, zU 0, .string ⟨#[]⟩, .slice none 0 0, zI 0, zI 0] 77)).setRow wr§ d.vals).heap[wr§]?=some (.cells d.vals 77 (0, 0))):=setRow_heap _ _ _ _ _ _ HZ.out
   have HDX:=HDR.out.on hbx
   obtain ⟨A, eA⟩:∃ A, ra1=A:=⟨_, rfl⟩
   rw [eA] at ea ⊢
   subst ea
   clear hat ed hbx HDR hlen
   go_upto_region 5 with (first | (refine wpList_load_mid rfl 77 (.tmp 23) rfl b (o + i * 11) rfl d.vals.toList _ HRG.out Tryz.underlying77 rfl (by show _=some 11; exact size100') ?_; rw [Array.toArray_toList]) | (refine wpList_store_row rfl 77 (.tmp 6) (.tmp 24) rfl wr§ d.vals rfl rfl 77 #[.string ⟨#[]⟩, zU 0, zU 0, zU 0, zU 0, zI 0, zU 0, .string ⟨#[]⟩, .slice none 0 0, zI 0, zI 0] HZ.out size100' rfl (all11 d) ?_))
   generalize hWX:World.setRow _ _ _=WX
   rw [hWX] at HNX HDX
   clear hWX HZ HRG
   have HDX:Hid (Dec _ _ _ _ _ _ _ _ _):=HDX
   have k0:WX.cell? ⟨w§ + 5, 0, none⟩=some (.map (some (w§ + 2))):=Co HDX.out.kn 0
   have k1:WX.cell? ⟨w§ + 5, 1, none⟩=some (.map (some (w§ + 3))):=Co HDX.out.kn 1
   have k2:WX.cell? ⟨w§ + 5, 2, none⟩=some (.map (some (w§ + 4))):=Co HDX.out.kn 2
   have HSZ:Hid (w§ + 5 < WX§):=(Array.getElem?_eq_some_iff.1 HDX.out.kn).1
   have cA:=addReg_any (w§ + 2) (w§ + 3) (w§ + 4) i (ds.take i) d WX HDX.out.m1 (HH.out.2.1.on HDX.out.bel) ((HH.out.1.2.1 d (by rw [HEds.out]; exact HMEM.out)).on HDX.out.bel) (HH.out.2.2 d (by rw [HEds.out]; exact HMEM.out)) hn
   go_wp2_with (refine wpList_load_row rfl 77 (.tmp 6) rfl wr§ rfl 77 d.vals (0, 0) _ HNX.out Tryz.underlying77 rfl size100' ?_)
   refine cA.mono ?_
   rintro e w5 (⟨c, no, rfl, hle, hfl, hb5, hcase⟩ | ⟨rfl, h1, h2, hm5, hmv⟩)
   ·have HD5:=(HDX.out.on hb5)
    have HD5:Hid (Dec _ _ _ _ _ _ _ _ _):=HD5
    have HC:Hid (FlAt w5 c ⟨#[67, 104, 101, 99, 107]⟩ d.p no∧w§ + 5 < c):=⟨hfl, by have:=HSZ.out; omega⟩
    have HEE:Hid (decE r=some (d.p, no)):=by
     have h1:dRegs [] ds=some (d.p, no):=by
      rw [HR.out, HTK.out.2]
      rcases hcase with ⟨h1, rfl⟩ | ⟨h1, h2, rfl⟩
      ·simp [dRegs, h1]
      ·simp [dRegs, h1, h2]
     show decE r=_
     unfold decE
     rw [HEds.out, h1]
    clear cA hle hfl hb5 hcase k0 k1 k2
    go_wp2_with (refine wpList_store_row rfl 118 (.tmp 2) (.tmp 30) rfl (w§ + 1) #[.map none, .map none, .map none] rfl rfl 118 #[.map none, .map none, .map none] HD5.out.res size183 rfl (by simp [Value.oneCell']) ?_)
    exact bodyPost_ret (Rt2 (p:=2) (u:=3) (ty:=118) rfl _ _ (w§ + 1) 118 #[.map none, .map none, .map none] (0, 0) _ rfl (setRow_heap _ _ _ _ _ _ HD5.out.res) Tryz.underlying118 rfl size183) rfl (.inl ⟨d.p, no, c, HEE.out, rfl, by have:=HC.out.2; omega, (setRow_oth _ _ _ (by have:=HC.out.2; omega)).trans HC.out.1, below_row HD5.out.bel (Nat.le_succ _) _⟩)
   ·have HD5:Hid (Dec w w5 r (i + 1) 0 0 (ds.take (i + 1)) [] []):=by have h5:=HDX.out.r hmv hm5; rw [← HTK.out.1] at h5; exact h5
    have HR5:Hid (dRegs [] ds=dRegs (ds.take (i + 1)) (ds.drop (i + 1))):=by show _=_; rw [HR.out, HTK.out.2, HTK.out.1]; simp [dRegs, h1, h2]
    clear cA h1 h2 hm5 hmv k0 k1 k2
    go_wp2_with fail
    exact ⟨⟨i + 1, hlt, rfl, HD5.out, HR5.out⟩, by simp only [intOf]; omega⟩
  ·obtain rfl:i=ds.length:=by omega
   have hnot:¬ (ds.length:Int) < (ds.length:Int):=by omega
   have HN1:Hid (dRegs [] ds=none):=by show _=_; rw [HR.out, List.drop_length]; rfl
   have HDQ2:Hid (Dec w wr r ds.length 0 0 ds [] []):=by have h1:=HDR.out; rw [List.take_length] at h1; exact h1
   clear HDR HR HDQ
   have HDQ:=HDQ2
   clear HDQ2
   obtain ⟨es, ees⟩:∃ l, r.ss=l:=⟨_, rfl⟩
   have HEes:Hid (r.ss=es):=ees
   have HSL2:Hid (SlAt w 2 r.sa r.sc (es.map SlotM.vals)):=by have h1:=HH.out.1.2.2.1; rw [ees] at h1; exact h1
   obtain ⟨ra2, era2⟩:∃ q, r.sa=q:=⟨_, rfl⟩
   have q2:wr.cell? ⟨w§, 2, none⟩=some (.slice ra2 es.length r.sc):=by rw [← ees, ← era2]; exact Co HDQ.out.box 2
   rw [era2] at HSL2
   clear ees era2
   go_wp2_with fail
   go_loopw [9, 10, 36] (fun t9 t10 t wr => ∃ i:Nat, i≤es.length∧t=zI i∧Hid (Dec w wr r ds.length i 0 ds ((es.take i).map SlotM.x) [])∧Hid (dNms [] (es.map slN)=dNms ((es.take i).map SlotM.x) ((es.drop i).map slN))) (fun t9 t10 t _ => es.length - (intOf t).toNat)
   case atStart => exact ⟨0, by omega, rfl, HDQ.out, rfl⟩
   case round =>
    obtain ⟨i, hi, rfl, HDR, HR⟩:=hrel
    by_cases hlt:i < es.length
    ·have hlt':(i:Int) < (es.length:Int):=by omega
     have hlen:es.length≤9223372036854775807:=by have h1:=HSL2.out.1; have h2:=HSL2.out.2.1; rw [List.length_map] at h1; omega
     have hmx:(i:Int) + 1≤9223372036854775807:=by omega
     have hn:i < maxLen:=by unfold maxLen; omega
     obtain ⟨b, o, ea, hat⟩:=(HSL2.out.on (mapz SlotM.sz _) HDR.out.bel).2.2 i (by rw [List.length_map]; exact hlt)
     simp only [List.getElem_map] at hat
     have HMEM:Hid (es[i] ∈ es):=List.getElem_mem hlt
     have HTK:Hid (es.take (i + 1)=es.take i ++ [es[i]]∧es.drop i=es[i] :: es.drop (i + 1)):=⟨by simp, List.drop_eq_getElem_cons hlt⟩
     obtain ⟨d, ed⟩:∃ d, es[i]=d:=⟨_, rfl⟩
     rw [ed] at hat HTK HMEM
     have HRG:Hid (wr.rangeAt b (o + i * 2) d.vals.toList):=fun j v hv => by
      have hj:j < 2:=(List.getElem?_eq_some_iff.1 hv).1
      rw [hat j hj, ← hv]; simp
     have HZ:Hid ((wr.alloc (.cells #[.string ⟨#[]⟩, zI 0] 79)).heap[wr§]?=some (.cells #[.string ⟨#[]⟩, zI 0] 79 (0, 0))):=Hn _ _
     have hbx:Below wr§ wr ((wr.alloc (.cells #[.string ⟨#[]⟩, zI 0] 79)).setRow wr§ d.vals):=below_row (Bn _ _) (Nat.le_refl _) _
     have HNX:Hid (((wr.alloc (.cells #[.string ⟨#[]⟩, zI 0] 79)).setRow wr§ d.vals).heap[wr§]?=some (.cells d.vals 79 (0, 0))):=setRow_heap _ _ _ _ _ _ HZ.out
     have HDX:=HDR.out.on hbx
     obtain ⟨A, eA⟩:∃ A, ra2=A:=⟨_, rfl⟩
     rw [eA] at ea ⊢
     subst ea
     clear hat ed hbx HDR hlen
     go_upto_region 12 with (first | (refine wpList_load_mid rfl 79 (.tmp 38) rfl b (o + i * 2) rfl d.vals.toList _ HRG.out Tryz.underlying79 rfl (by show _=some 2; exact size102') ?_; rw [Array.toArray_toList]) | (refine wpList_store_row rfl 79 (.tmp 9) (.tmp 39) rfl wr§ d.vals rfl rfl 79 #[.string ⟨#[]⟩, zI 0] HZ.out size102' rfl (all2 d) ?_))
     generalize hWX:World.setRow _ _ _=WX
     rw [hWX] at HNX HDX
     clear hWX HZ HRG
     have HDX:Hid (Dec _ _ _ _ _ _ _ _ _):=HDX
     have k0:WX.cell? ⟨w§ + 5, 0, none⟩=some (.map (some (w§ + 2))):=Co HDX.out.kn 0
     have k1:WX.cell? ⟨w§ + 5, 1, none⟩=some (.map (some (w§ + 3))):=Co HDX.out.kn 1
     have k2:WX.cell? ⟨w§ + 5, 2, none⟩=some (.map (some (w§ + 4))):=Co HDX.out.kn 2
     have HSZ:Hid (w§ + 5 < WX§):=(Array.getElem?_eq_some_iff.1 HDX.out.kn).1
     have hx:d.x.size≤maxLen:=by have h1:=(HH.out.1.2.2.2.1 d (by rw [HEes.out]; exact HMEM.out)).2; unfold SzX at h1; unfold maxLen; omega
     have x0:WX.cell? ⟨wr§, 0, none⟩=some (.string d.x):=Co HNX.out 0
     have x1:WX.cell? ⟨wr§, 1, none⟩=some (zI d.p):=Co HNX.out 1
     have cA:=add_any d.p HDX.out.m2 hx hn
     go_wp2_with fail
     refine cA.mono ?_
     rintro e w5 (⟨hin, c, rfl, hle, hfl, hb5⟩ | ⟨hin, rfl, hm5, hmv⟩)
     ·have HD5:=(HDX.out.on hb5)
      have HD5:Hid (Dec _ _ _ _ _ _ _ _ _):=HD5
      have HC:Hid (FlAt w5 c ⟨#[67, 104, 101, 99, 107]⟩ d.p 150∧w§ + 5 < c):=⟨hfl, by have:=HSZ.out; omega⟩
      have HEE:Hid (decE r=some (d.p, 150)):=by
       have h1:dNms [] (es.map slN)=some (d.p, 150):=by
        rw [HR.out, HTK.out.2]
        exact dNms_yes (x:=slN d) hin
       show decE r=_
       unfold decE
       rw [HEds.out, HN1.out, HEes.out, h1]
      clear cA hle hfl hb5 hin k0 k1 k2 x0 x1
      go_wp2_with (refine wpList_store_row rfl 118 (.tmp 2) (.tmp 49) rfl (w§ + 1) #[.map none, .map none, .map none] rfl rfl 118 #[.map none, .map none, .map none] HD5.out.res size183 rfl (by simp [Value.oneCell']) ?_)
      exact bodyPost_ret (Rt2 (p:=2) (u:=3) (ty:=118) rfl _ _ (w§ + 1) 118 #[.map none, .map none, .map none] (0, 0) _ rfl (setRow_heap _ _ _ _ _ _ HD5.out.res) Tryz.underlying118 rfl size183) rfl (.inl ⟨d.p, 150, c, HEE.out, rfl, by have:=HC.out.2; omega, (setRow_oth _ _ _ (by have:=HC.out.2; omega)).trans HC.out.1, below_row HD5.out.bel (Nat.le_succ _) _⟩)
     ·have HD5:Hid (Dec w w5 r ds.length (i + 1) 0 ds ((es.take (i + 1)).map SlotM.x) []):=by have h5:=HDX.out.s hmv hm5; rw [show (es.take i).map SlotM.x ++ [d.x]=(es.take (i + 1)).map SlotM.x by rw [HTK.out.1]; simp] at h5; exact h5
      have HR5:Hid (dNms [] (es.map slN)=dNms ((es.take (i + 1)).map SlotM.x) ((es.drop (i + 1)).map slN)):=by show _=_; rw [HR.out, HTK.out.2, HTK.out.1, List.map_append]; exact dNms_no (x:=slN d) hin
      clear cA hin hm5 hmv k0 k1 k2 x0 x1
      go_wp2_with fail
      exact ⟨⟨i + 1, hlt, rfl, HD5.out, HR5.out⟩, by simp only [intOf]; omega⟩
    ·obtain rfl:i=es.length:=by omega
     have hnot:¬ (es.length:Int) < (es.length:Int):=by omega
     have HN2:Hid (dNms [] (es.map slN)=none):=by show _=_; rw [HR.out, List.drop_length]; rfl
     have HDQ2:Hid (Dec w wr r ds.length es.length 0 ds (es.map SlotM.x) []):=by have h1:=HDR.out; rw [List.take_length] at h1; exact h1
     clear HDR HR HDQ
     have HDQ:=HDQ2
     clear HDQ2
     obtain ⟨fs, efs⟩:∃ l, r.ts=l:=⟨_, rfl⟩
     have HEfs:Hid (r.ts=fs):=efs
     have HSL3:Hid (SlAt w 3 r.ta r.tc (fs.map StateM.vals)):=by have h1:=HH.out.1.2.2.2.2.1; rw [efs] at h1; exact h1
     obtain ⟨ra3, era3⟩:∃ q, r.ta=q:=⟨_, rfl⟩
     have q3:wr.cell? ⟨w§, 3, none⟩=some (.slice ra3 fs.length r.tc):=by rw [← efs, ← era3]; exact Co HDQ.out.box 3
     rw [era3] at HSL3
     clear efs era3
     go_wp2_with fail
     go_loopw [12, 13, 55] (fun t12 t13 t wr => ∃ i:Nat, i≤fs.length∧t=zI i∧Hid (Dec w wr r ds.length es.length i ds (es.map SlotM.x) ((fs.take i).map StateM.x))∧Hid (dNms [] (fs.map stN)=dNms ((fs.take i).map StateM.x) ((fs.drop i).map stN))) (fun t12 t13 t _ => fs.length - (intOf t).toNat)
     case atStart => exact ⟨0, by omega, rfl, HDQ.out, rfl⟩
     case round =>
      obtain ⟨i, hi, rfl, HDR, HR⟩:=hrel
      by_cases hlt:i < fs.length
      ·have hlt':(i:Int) < (fs.length:Int):=by omega
       have hlen:fs.length≤9223372036854775807:=by have h1:=HSL3.out.1; have h2:=HSL3.out.2.1; rw [List.length_map] at h1; omega
       have hmx:(i:Int) + 1≤9223372036854775807:=by omega
       have hn:i < maxLen:=by unfold maxLen; omega
       obtain ⟨b, o, ea, hat⟩:=(HSL3.out.on (mapz StateM.sz _) HDR.out.bel).2.2 i (by rw [List.length_map]; exact hlt)
       simp only [List.getElem_map] at hat
       have HMEM:Hid (fs[i] ∈ fs):=List.getElem_mem hlt
       have HTK:Hid (fs.take (i + 1)=fs.take i ++ [fs[i]]∧fs.drop i=fs[i] :: fs.drop (i + 1)):=⟨by simp, List.drop_eq_getElem_cons hlt⟩
       obtain ⟨d, ed⟩:∃ d, fs[i]=d:=⟨_, rfl⟩
       rw [ed] at hat HTK HMEM
       have HRG:Hid (wr.rangeAt b (o + i * 3) d.vals.toList):=fun j v hv => by
        have hj:j < 3:=(List.getElem?_eq_some_iff.1 hv).1
        rw [hat j hj, ← hv]; simp
       have HZ:Hid ((wr.alloc (.cells #[.string ⟨#[]⟩, .slice none 0 0, zI 0] 65)).heap[wr§]?=some (.cells #[.string ⟨#[]⟩, .slice none 0 0, zI 0] 65 (0, 0))):=Hn _ _
       have hbx:Below wr§ wr ((wr.alloc (.cells #[.string ⟨#[]⟩, .slice none 0 0, zI 0] 65)).setRow wr§ d.vals):=below_row (Bn _ _) (Nat.le_refl _) _
       have HNX:Hid (((wr.alloc (.cells #[.string ⟨#[]⟩, .slice none 0 0, zI 0] 65)).setRow wr§ d.vals).heap[wr§]?=some (.cells d.vals 65 (0, 0))):=setRow_heap _ _ _ _ _ _ HZ.out
       have HDX:=HDR.out.on hbx
       obtain ⟨A, eA⟩:∃ A, ra3=A:=⟨_, rfl⟩
       rw [eA] at ea ⊢
       subst ea
       clear hat ed hbx HDR hlen
       go_upto_region 19 with (first | (refine wpList_load_mid rfl 65 (.tmp 57) rfl b (o + i * 3) rfl d.vals.toList _ HRG.out Tryz.underlying65 rfl (by show _=some 3; exact size87') ?_; rw [Array.toArray_toList]) | (refine wpList_store_row rfl 65 (.tmp 12) (.tmp 58) rfl wr§ d.vals rfl rfl 65 #[.string ⟨#[]⟩, .slice none 0 0, zI 0] HZ.out size87' rfl (all3' d) ?_))
       generalize hWX:World.setRow _ _ _=WX
       rw [hWX] at HNX HDX
       clear hWX HZ HRG
       have HDX:Hid (Dec _ _ _ _ _ _ _ _ _):=HDX
       have k0:WX.cell? ⟨w§ + 5, 0, none⟩=some (.map (some (w§ + 2))):=Co HDX.out.kn 0
       have k1:WX.cell? ⟨w§ + 5, 1, none⟩=some (.map (some (w§ + 3))):=Co HDX.out.kn 1
       have k2:WX.cell? ⟨w§ + 5, 2, none⟩=some (.map (some (w§ + 4))):=Co HDX.out.kn 2
       have HSZ:Hid (w§ + 5 < WX§):=(Array.getElem?_eq_some_iff.1 HDX.out.kn).1
       have hx:d.x.size≤maxLen:=by have h1:=(HH.out.1.2.2.2.2.2.1 d (by rw [HEfs.out]; exact HMEM.out)).2.2.2; unfold SzX at h1; unfold maxLen; omega
       have x0:WX.cell? ⟨wr§, 0, none⟩=some (.string d.x):=Co HNX.out 0
       have x1:WX.cell? ⟨wr§, 2, none⟩=some (zI d.p):=Co HNX.out 2
       have cA:=add_any d.p HDX.out.m3 hx hn
       go_wp2_with fail
       refine cA.mono ?_
       rintro e w5 (⟨hin, c, rfl, hle, hfl, hb5⟩ | ⟨hin, rfl, hm5, hmv⟩)
       ·have HD5:=(HDX.out.on hb5)
        have HD5:Hid (Dec _ _ _ _ _ _ _ _ _):=HD5
        have HC:Hid (FlAt w5 c ⟨#[67, 104, 101, 99, 107]⟩ d.p 150∧w§ + 5 < c):=⟨hfl, by have:=HSZ.out; omega⟩
        have HEE:Hid (decE r=some (d.p, 150)):=by
         have h1:dNms [] (fs.map stN)=some (d.p, 150):=by
          rw [HR.out, HTK.out.2]
          exact dNms_yes (x:=stN d) hin
         show decE r=_
         unfold decE
         rw [HEds.out, HN1.out, HEes.out, HN2.out, HEfs.out, h1]
        clear cA hle hfl hb5 hin k0 k1 k2 x0 x1
        go_wp2_with (refine wpList_store_row rfl 118 (.tmp 2) (.tmp 68) rfl (w§ + 1) #[.map none, .map none, .map none] rfl rfl 118 #[.map none, .map none, .map none] HD5.out.res size183 rfl (by simp [Value.oneCell']) ?_)
        exact bodyPost_ret (Rt2 (p:=2) (u:=3) (ty:=118) rfl _ _ (w§ + 1) 118 #[.map none, .map none, .map none] (0, 0) _ rfl (setRow_heap _ _ _ _ _ _ HD5.out.res) Tryz.underlying118 rfl size183) rfl (.inl ⟨d.p, 150, c, HEE.out, rfl, by have:=HC.out.2; omega, (setRow_oth _ _ _ (by have:=HC.out.2; omega)).trans HC.out.1, below_row HD5.out.bel (Nat.le_succ _) _⟩)
       ·have HD5:Hid (Dec w w5 r ds.length es.length (i + 1) ds (es.map SlotM.x) ((fs.take (i + 1)).map StateM.x)):=by have h5:=HDX.out.t hmv hm5; rw [show (fs.take i).map StateM.x ++ [d.x]=(fs.take (i + 1)).map StateM.x by rw [HTK.out.1]; simp] at h5; exact h5
        have HR5:Hid (dNms [] (fs.map stN)=dNms ((fs.take (i + 1)).map StateM.x) ((fs.drop (i + 1)).map stN)):=by show _=_; rw [HR.out, HTK.out.2, HTK.out.1, List.map_append]; exact dNms_no (x:=stN d) hin
        clear cA hin hm5 hmv k0 k1 k2 x0 x1
        go_wp2_with fail
        exact ⟨⟨i + 1, hlt, rfl, HD5.out, HR5.out⟩, by simp only [intOf]; omega⟩
      ·obtain rfl:i=fs.length:=by omega
       have hnot:¬ (fs.length:Int) < (fs.length:Int):=by omega
       have HN3:Hid (dNms [] (fs.map stN)=none):=by show _=_; rw [HR.out, List.drop_length]; rfl
       have HDF:Hid (Dec w wr r ds.length es.length fs.length ds (es.map SlotM.x) (fs.map StateM.x)):=by have h1:=HDR.out; rw [List.take_length] at h1; exact h1
       clear HDR HR HDQ
       have k0:wr.cell? ⟨w§ + 5, 0, none⟩=some (.map (some (w§ + 2))):=Co HDF.out.kn 0
       have k1:wr.cell? ⟨w§ + 5, 1, none⟩=some (.map (some (w§ + 3))):=Co HDF.out.kn 1
       have k2:wr.cell? ⟨w§ + 5, 2, none⟩=some (.map (some (w§ + 4))):=Co HDF.out.kn 2
       have HNN:Hid (decE r=none):=by show decE r=none; unfold decE; rw [HEds.out, HN1.out, HEes.out, HN2.out, HEfs.out, HN3.out]
       have HKN:Hid (Kn (wr.setRow (w§ + 1) #[.map (some (w§ + 2)), .map (some (w§ + 3)), .map (some (w§ + 4))]) (w§ + 2) (w§ + 3) (w§ + 4) (regL r.rs) (r.ss.map SlotM.x) (r.ts.map StateM.x)):=by
        rw [HEds.out, HEes.out, HEfs.out]
        exact ⟨(HDF.out.m1.mv (mv_row _ _ _) (by omega)).m, ⟨_, HDF.out.m2.mv (mv_row _ _ _) (by omega)⟩, ⟨_, HDF.out.m3.mv (mv_row _ _ _) (by omega)⟩⟩
       go_wp2_with (refine wpList_store_row rfl 118 (.tmp 2) (.tmp 71) rfl (w§ + 1) #[.map (some (w§ + 2)), .map (some (w§ + 3)), .map (some (w§ + 4))] rfl rfl 118 #[.map none, .map none, .map none] HDF.out.res size183 rfl (by simp [Value.oneCell']) ?_)
       exact bodyPost_ret (Rt2 (p:=2) (u:=3) (ty:=118) rfl _ _ (w§ + 1) 118 #[.map (some (w§ + 2)), .map (some (w§ + 3)), .map (some (w§ + 4))] (0, 0) _ rfl (setRow_heap _ _ _ _ _ _ HDF.out.res) Tryz.underlying118 rfl size183) rfl (.inr ⟨_, _, _, HNN.out, rfl, HKN.out, below_row HDF.out.bel (Nat.le_succ _) _⟩)
theorem fit_len {h:Hd} {l:Nat} (e:fitB h l=true):l≤3:=by
 unfold fitB at e
 repeat' split at e
 all_goals (simp at e; try omega)
theorem fit_fld {h:Hd} {l:Nat} (e:fitB h l=true) (hk:h.k=3):0≤h.f∧h.f < 7:=by
 unfold fitB at e
 simp [hk] at e
 omega
theorem formsB_mem:∀ (l:List Nd), formsB l=true→∀ k ∈ l, formB k=true:=by
 intro l
 induction l with
 | nil => intro _ k hk; cases hk
 | cons x l ih =>
  intro h k hk
  simp only [formsB, Bool.and_eq_true] at h
  rcases List.mem_cons.1 hk with e | e
  ·rw [e]; exact h.1
  ·exact ih h.2 k e
theorem okT_form:∀ (m:Nd), formB m=true→OkT m:=by
 refine Nd.ind fun h a c ks ih hf => ?_
 simp only [formB, oneH, Bool.and_eq_true] at hf
 exact .mk h a c ks (fit_len hf.1.2) (fit_fld hf.1.2) (fun k hk => ih k hk (formsB_mem ks hf.2 k hk))
theorem okT_cE {m:Nd} (h:cE m=0):OkT m:=by
 apply okT_form
 unfold cE at h
 cases e:formB m with
 | true => rfl
 | false => rw [e] at h; simp at h
def mxs:List Nat→Nat
 | [] => 0
 | x :: l => max x (mxs l)
mutual
/-- What an expression weighs. -/
def wgt:Nd→Nat
 | .mk h _ _ ks => if h.k=9 then (wgts ks).getD 0 0 else if h.k=7 then 2 + (wgts ks).getD 0 0 + mxs ((wgts ks).drop 1) else 1 + (wgts ks).sum
def wgts:List Nd→List Nat
 | [] => []
 | k :: ks => wgt k :: wgts ks
end
theorem wgts_map:∀ l:List Nd, wgts l=l.map wgt
 | [] => rfl
 | k :: ks => by simp only [wgts, List.map_cons, wgts_map ks]
def EntF (F:Nat):Prop:=∀ args v, Sem.run Tryz.prog (callFunc F args) v=.ok (.enter F args) v
def AddF (F:Nat):Prop:=∀ (m s:Int) (g:Nat) (w:World), w.heap[g]?=some (.cells #[zI s] 3 (0, 0))→0≤m→0≤s→s + m≤9000000000000000000→Calls zG F #[zI m, .pointer (some ⟨g, 0, none⟩)] w fun e w' => e=.returned (.tuple #[])∧w'=w.setCell ⟨g, 0, none⟩ (zI (s + m))
theorem ent62:EntF 62:=fun _ _ => by kernel_rfl
theorem add62:AddF 62:=fun m s g w hg h0 h1 h2 => by
 have c0:w.cell? ⟨g, 0, none⟩=some (zI s):=Co hg 0
 have f0:w.frozen? ⟨g, 0, none⟩=false:=Fo hg 0
 have h3:s + m≤9223372036854775807:=by omega
 have h4:-9223372036854775808≤s + m:=by omega
 clear hg
 go_enter Tryz.func62, Tryz.ntmps62
 go_wp2_with fail
 go_end0
 exact ⟨rfl, rfl⟩
theorem ent109:EntF 109:=fun _ _ => by kernel_rfl
theorem add109:AddF 109:=fun m s g w hg h0 h1 h2 => by
 have c0:w.cell? ⟨g, 0, none⟩=some (zI s):=Co hg 0
 have f0:w.frozen? ⟨g, 0, none⟩=false:=Fo hg 0
 have h3:s + m≤9223372036854775807:=by omega
 have h4:-9223372036854775808≤s + m:=by omega
 clear hg
 go_enter Tryz.func109, Tryz.ntmps109
 go_wp2_with fail
 go_end0
 exact ⟨rfl, rfl⟩
theorem ent145:EntF 145:=fun _ _ => by kernel_rfl
theorem add145:AddF 145:=fun m s g w hg h0 h1 h2 => by
 have c0:w.cell? ⟨g, 0, none⟩=some (zI s):=Co hg 0
 have f0:w.frozen? ⟨g, 0, none⟩=false:=Fo hg 0
 have h3:s + m≤9223372036854775807:=by omega
 have h4:-9223372036854775808≤s + m:=by omega
 clear hg
 go_enter Tryz.func145, Tryz.ntmps145
 go_wp2_with fail
 go_end0
 exact ⟨rfl, rfl⟩
structure Ac (w0 w:World) (g:Nat) (s:Int):Prop where
 B:Below w0§ w0 w
 G:w0§≤g
 C:w.heap[g]?=some (.cells #[zI s] 3 (0, 0))
theorem Ac.hid {w0 w:World} {g:Nat} {s:Int} (h:Ac w0 w g s):Hid (Ac w0 w g s):=h
theorem Ac.set {w0 w:World} {g:Nat} {s t:Int} (h:Ac w0 w g s):Ac w0 (w.setCell ⟨g, 0, none⟩ (zI t)) g t:=⟨h.B.setCell h.G _, h.G, one_setCell h.C⟩
theorem Ac.on {w0 w w':World} {g:Nat} {s:Int} (h:Ac w0 w g s) (k:Below w§ w w'):Ac w0 w' g s:=⟨below2 h.B k, h.G, (k.block g (Array.getElem?_eq_some_iff.1 h.C).1).trans h.C⟩
theorem mv_set (w:World) (g:Nat) (v:Value):Mv w (w.setCell ⟨g, 0, none⟩ v) (fun k => k=g):=(Mv.refl w (fun k => k=g)).setCell (a:=⟨g, 0, none⟩) (.inl rfl) v
theorem Mv.two {w w' w'':World} {g:Nat} (h:Mv w w' (fun k => k=g)) (k:Mv w' w'' (fun k => k=g)):Mv w w'' (fun k => k=g):=h.trans k fun _ e => .inl e
theorem Mv.bel {w w':World} {g:Nat} (h:Below w§ w w'):Mv w w' (fun k => k=g):=(show Mv w w' (fun _ => False) from Mv.ofBelow h).mono fun _ e => e.elim
def WgC (m:Nd):Prop:=∀ (F:Nat), EntF F→AddF F→∀ (w0 w:World) (g:Nat) (s:Nat), Lies w0 m→Ac w0 w g s→s + wgt m≤9000000000000000000→Calls zG 61 #[.agg m.vals, .func (.func F) #[] #[.pointer (some ⟨g, 0, none⟩)]] w fun e w' => e=.returned (.tuple #[])∧Ac w0 w' g ((s + wgt m:Nat):Int)∧Mv w w' (fun k => k=g)
theorem weight_of {m:Nd} (hW:WgC m) (w:World) (hl:Lies w m) (hb:wgt m≤9000000000000000000):Calls zG 32 #[.agg m.vals] w fun e w' => e=.returned (zI (wgt m))∧Below w§ w w':=by
 have hmf:∀ (fn:Fn) (first cap:Array Value) (w:World), (Instr.makeFunc fn first cap).run Tryz.prog w=.ok (.func fn first cap) w:=fun _ _ _ _ => rfl
 have hb1:=Bn w (.cells zNd m.h m.a m.ks.length m.c 28)
 have hn1:=Hn w (.cells zNd m.h m.a m.ks.length m.c 28)
 have hs1:=Sa w (.cells zNd m.h m.a m.ks.length m.c 28)
 obtain ⟨W1, e1⟩:∃ W, w.alloc (.cells zNd m.h m.a m.ks.length m.c 28)=W:=⟨_, rfl⟩
 have E1:Hid (w.alloc (.cells zNd m.h m.a m.ks.length m.c 28)=W1):=e1
 rw [e1] at hb1 hn1 hs1
 have hb2:=Bn W1 (.cells #[zI 0] 3)
 have hn2:=Hn W1 (.cells #[zI 0] 3)
 have hk2:=(hb2.block _ (Array.getElem?_eq_some_iff.1 hn1).1).trans hn1
 have hbw:=below2 hb1 hb2
 rw [hs1] at hn2
 have HS1:Hid (W1§=w§ + 1):=hs1
 obtain ⟨W2, e2⟩:∃ W, W1.alloc (.cells #[zI 0] 3)=W:=⟨_, rfl⟩
 have E2:Hid (W1.alloc (.cells #[zI 0] 3)=W2):=e2
 rw [e2] at hn2 hk2 hbw
 have c0:W2.cell? ⟨w§, 0, none⟩=some (zU m.h.k):=Co hk2 0
 have c1:W2.cell? ⟨w§, 1, none⟩=some (zU m.h.o):=Co hk2 1
 have c2:W2.cell? ⟨w§, 2, none⟩=some (zU m.h.t):=Co hk2 2
 have c3:W2.cell? ⟨w§, 3, none⟩=some (zI m.h.n):=Co hk2 3
 have c4:W2.cell? ⟨w§, 4, none⟩=some (zU m.h.f):=Co hk2 4
 have c5:W2.cell? ⟨w§, 5, none⟩=some (.string m.h.x):=Co hk2 5
 have c6:W2.cell? ⟨w§, 6, none⟩=some (.slice m.a m.ks.length m.c):=Co hk2 6
 have c7:W2.cell? ⟨w§, 7, none⟩=some (zI m.h.p):=Co hk2 7
 have cW:Calls zG 61 #[.agg zNd m.h m.a m.ks.length m.c, .func (.func 62) #[] #[.pointer (some ⟨w§ + 1, 0, none⟩)]] W2 fun e w' => e=.returned (.tuple #[])∧Ac w w' (w§ + 1) ((0 + wgt m:Nat):Int)∧Mv W2 w' (fun k => k=w§ + 1):=hW 62 ent62 add62 w W2 (w§ + 1) 0 hl ⟨hbw, by omega, hn2⟩ (by omega)
 clear hb1 hn1 hs1 hb2 hk2 hn2 hbw hl e1 e2 hW
 show Calls zG 32 #[.agg zNd m.h m.a m.ks.length m.c] w _
 go_enter Tryz.func32, Tryz.ntmps32
 go_upto_region 2 with fail
 rw [E1.out]
 try rw [HS1.out]
 rw [E2.out]
 clear E1 E2 HS1
 go_wp2_with fail
 refine cW.mono ?_
 rintro e w3 ⟨rfl, hac, _⟩
 have HB:Hid (Below w§ w w3):=hac.B
 have g0:w3.cell? ⟨w§ + 1, 0, none⟩=some (zI (wgt m:Nat)):=by rw [← Nat.zero_add (wgt m)]; exact Co hac.C 0
 clear hac cW c0 c1 c2 c3 c4 c5 c6 c7
 go_wp2_with fail
 go_ret
 exact ⟨rfl, HB.out⟩
theorem grt_of (ks:List Nd) (a:Option Addr) (c:Nat) (w:World) (hc:ks.length≤9000000000000000000) (hk:∀ i (hi:i < ks.length), ∃ b o, a=some ⟨b, o, none⟩∧NdAt w b (o + i * 8) ks[i]) (hs:∀ k ∈ ks, Lies w k∧WgC k∧wgt k≤9000000000000000000) :
  Calls zG 100 #[.slice a ks.length c, .func (.func 32) #[] #[]] w fun e w' => e=.returned (zI (mxs (ks.map wgt)))∧Below w§ w w':=by
 have hmx0:=run_max
 have HK:Hid (∀ i (hi:i < ks.length), ∃ b o, a=some ⟨b, o, none⟩∧NdAt w b (o + i * 8) ks[i]):=hk
 have HS:Hid (∀ k ∈ ks, Lies w k∧WgC k∧wgt k≤9000000000000000000):=hs
 clear hk hs
 go_enter Tryz.func100, Tryz.ntmps100
 go_wp2_with fail
 go_loopw [5, 10] (fun f t wr => ∃ (i m:Nat), i≤ks.length∧t=zI i∧f=zI m∧Hid (Below w§ w wr)∧Hid (mxs (ks.map wgt)=max m (mxs ((ks.drop i).map wgt)))) (fun _ t _ => ks.length - (intOf t).toNat)
 case atStart => exact ⟨0, 0, by omega, rfl, rfl, Below.refl _ _, by show _=_; simp⟩
 case round =>
  obtain ⟨i, m, hi, rfl, rfl, HBR, HR⟩:=hrel
  by_cases hlt:i < ks.length
  ·have hlt':(i:Int) < (ks.length:Int):=by omega
   have hmx:(i:Int) + 1≤9223372036854775807:=by omega
   obtain ⟨b, o, e, hat⟩:=HK.out i hlt
   subst e
   have HMEM:Hid (ks[i] ∈ ks):=List.getElem_mem hlt
   have HD:Hid (mxs (ks.map wgt)=max m (mxs ((ks[i] :: ks.drop (i + 1)).map wgt))):=by show _=_; rw [HR.out, List.drop_eq_getElem_cons hlt]
   obtain ⟨k, ek⟩:∃ k, ks[i]=k:=⟨_, rfl⟩
   have hat2:NdAt wr b (o + i * 8) k:=by rw [← ek]; exact hat.on HBR.out
   rw [ek] at HD HMEM
   obtain ⟨y0, y1, y2, y3, y4, y5, y6, y7⟩:=hat2
   have hbx:=below2 HBR.out (Bn wr (.cells zNd k.h k.a k.ks.length k.c 28))
   have cI:Calls zG 32 #[.agg zNd k.h k.a k.ks.length k.c] (wr.alloc (.cells zNd k.h k.a k.ks.length k.c 28)) fun e w' => e=.returned (zI (wgt k))∧Below (wr.alloc (.cells zNd k.h k.a k.ks.length k.c 28))§ (wr.alloc (.cells zNd k.h k.a k.ks.length k.c 28)) w':=weight_of (HS.out k HMEM.out).2.1 _ ((HS.out k HMEM.out).1.on hbx) (HS.out k HMEM.out).2.2
   have HX:Hid (∀ w5, Below (wr.alloc (.cells zNd k.h k.a k.ks.length k.c 28))§ (wr.alloc (.cells zNd k.h k.a k.ks.length k.c 28)) w5→Below w§ w w5):=fun w5 h5 => below2 hbx h5
   clear hbx ek hat HR
   go_wp2_with fail
   refine cI.mono ?_
   rintro e w5 ⟨rfl, hb5⟩
   have HB5:Hid (Below w§ w w5):=HX.out _ hb5
   clear cI hb5 y0 y1 y2 y3 y4 y5 y6 y7
   go_wp2_with fail
   exact ⟨⟨i + 1, max m (wgt k), hlt, rfl, by congr 1; split <;> omega, HB5, by show _=_; rw [HD.out]; simp only [List.map_cons, mxs]; omega⟩, by simp only [intOf]; omega⟩
  ·obtain rfl:i=ks.length:=by omega
   have hnot:¬ (ks.length:Int) < (ks.length:Int):=by omega
   have HM:Hid (mxs (ks.map wgt)=m):=by show _=_; rw [HR.out, List.drop_length]; simp [mxs]
   clear HR
   go_wp2_with fail
   go_ret
   exact ⟨by rw [HM.out]; rfl, HBR.out⟩
theorem fit_9 {h:Hd} {l:Nat} (e:fitB h l=true) (hk:h.k=9):l=1:=by
 unfold fitB at e
 simp [hk] at e
 omega
theorem fit_7 {h:Hd} {l:Nat} (e:fitB h l=true) (hk:h.k=7):l=3:=by
 unfold fitB at e
 simp [hk] at e
 omega
theorem len1 {l:List Nd} (h:l.length=1):∃ x, l=[x]:=by
 match l, h with
 | [x], _ => exact ⟨x, rfl⟩
theorem len3 {l:List Nd} (h:l.length=3):∃ x y z, l=[x, y, z]:=by
 match l, h with
 | [x, y, z], _ => exact ⟨x, y, z, rfl⟩
theorem weigh_9 (h:Hd) (a:Option Addr) (c:Nat) (x:Nd) (hx:WgC x) (hk:h.k=9) (F:Nat) (hF:EntF F) (hA:AddF F) (w0 w:World) (g s:Nat) (hl:Lies w0 (.mk h a c [x])) (ha:Ac w0 w g s) (hb:s + wgt (.mk h a c [x])≤9000000000000000000) :
  Calls zG 61 #[.agg (Nd.mk h a c [x]).vals, .func (.func F) #[] #[.pointer (some ⟨g, 0, none⟩)]] w fun e w' => e=.returned (.tuple #[])∧Ac w0 w' g ((s + wgt (.mk h a c [x]):Nat):Int)∧Mv w w' (fun k => k=g):=by
 have eW:wgt (.mk h a c [x])=wgt x:=by simp only [wgt, hk, wgts, if_true]; rfl
 rw [eW] at hb ⊢
 obtain ⟨b, o, e, hat⟩:=hl.kid 0 (by show 0 < 1; omega)
 have e2:a=some ⟨b, o, none⟩:=e
 have hat2:NdAt w0 b o x:=by have h:=hat; rw [Nat.zero_mul, Nat.add_zero] at h; exact h
 have hlx:Lies w0 x:=hl.sub x (by show x ∈ [x]; simp)
 subst e2
 have hb1:=Bn w (.cells zNd h (some ⟨b, o, none⟩) 1 c 28)
 have hn1:=Hn w (.cells zNd h (some ⟨b, o, none⟩) 1 c 28)
 obtain ⟨W1, e1⟩:∃ W, w.alloc (.cells zNd h (some ⟨b, o, none⟩) 1 c 28)=W:=⟨_, rfl⟩
 have E1:Hid (w.alloc (.cells zNd h (some ⟨b, o, none⟩) 1 c 28)=W1):=e1
 rw [e1] at hb1 hn1
 have HB1:Hid (Below w§ w W1):=hb1
 have HN1:Hid (W1.heap[w§]?=some (.cells zNd h (some ⟨b, o, none⟩) 1 c 28 (0, 0))):=hn1
 have HNE:Hid (w§ ≠ g):=by have:=(Array.getElem?_eq_some_iff.1 ha.C).1; show _ ≠ _; omega
 have HA1:Hid (Ac w0 W1 g s):=ha.on hb1
 have y0:W1.cell? ⟨w§, 0, none⟩=some (zU h.k):=Co hn1 0
 have y6:W1.cell? ⟨w§, 6, none⟩=some (.slice (some ⟨b, o, none⟩) 1 c):=Co hn1 6
 have h1c:(1:Int)≤(c:Int):=by have:=hl.cap; simp only [Nd.ks, Nd.c, List.length_cons, List.length_nil] at this; omega
 obtain ⟨z0, z1, z2, z3, z4, z5, z6, z7⟩:=hat2.on HA1.out.B
 have cI:Calls zG 61 #[.agg zNd x.h x.a x.ks.length x.c, .func (.func F) #[] #[.pointer (some ⟨g, 0, none⟩)]] W1 fun e w' => e=.returned (.tuple #[])∧Ac w0 w' g ((s + wgt x:Nat):Int)∧Mv W1 w' (fun k => k=g):=hx F hF hA w0 W1 g s hlx HA1.out hb
 have hK:(h.k == 9)=true:=by simpa using hk
 clear hb1 hn1 e1 hl ha hat hat2 hlx hx hA eW e hk
 show Calls zG 61 #[.agg zNd h (some ⟨b, o, none⟩) 1 c, .func (.func F) #[] #[.pointer (some ⟨g, 0, none⟩)]] w _
 go_enter Tryz.func61, Tryz.ntmps61
 go_upto_region 1 with fail
 rw [E1.out]
 clear E1
 go_wp2_with fail
 refine cI.mono ?_
 rintro e w3 ⟨rfl, hac, hmv⟩
 have HH:Hid (Ac w0 w3 g ((s + wgt x:Nat):Int)∧Mv w w3 (fun k => k=g)):=⟨hac, (Mv.bel HB1.out).two hmv⟩
 clear hac hmv cI
 go_wp2_with fail
 go_end0
 exact ⟨rfl, HH.out⟩
theorem weigh_7 (h:Hd) (a:Option Addr) (c:Nat) (x y z:Nd) (hx:WgC x) (hy:WgC y) (hz:WgC z) (hk:h.k=7) (F:Nat) (hF:EntF F) (hA:AddF F) (w0 w:World) (g s:Nat) (hl:Lies w0 (.mk h a c [x, y, z])) (ha:Ac w0 w g s) (hb:s + wgt (.mk h a c [x, y, z])≤9000000000000000000) :
  Calls zG 61 #[.agg (Nd.mk h a c [x, y, z]).vals, .func (.func F) #[] #[.pointer (some ⟨g, 0, none⟩)]] w fun e w' => e=.returned (.tuple #[])∧Ac w0 w' g ((s + wgt (.mk h a c [x, y, z]):Nat):Int)∧Mv w w' (fun k => k=g):=by
 have eW:wgt (.mk h a c [x, y, z])=2 + wgt x + mxs ([y, z].map wgt):=by simp [wgt, hk, wgts]
 rw [eW] at hb ⊢
 obtain ⟨MX, eM⟩:∃ m, mxs ([y, z].map wgt)=m:=⟨_, rfl⟩
 have hyM:wgt y≤MX:=by rw [← eM]; simp only [List.map_cons, mxs]; omega
 have hzM:wgt z≤MX:=by rw [← eM]; simp only [List.map_cons, mxs]; omega
 obtain ⟨b, o, e, hat⟩:=hl.kid 0 (by show 0 < 3; omega)
 have e2:a=some ⟨b, o, none⟩:=e
 have hat0:NdAt w0 b o x:=by have h:=hat; rw [Nat.zero_mul, Nat.add_zero] at h; exact h
 subst e2
 have hat1:NdAt w0 b (o + 8) y:=by
  obtain ⟨b', o', e', h'⟩:=hl.kid 1 (by show 1 < 3; omega)
  simp only [Nd.a, Option.some.injEq, Addr.mk.injEq] at e'
  obtain ⟨rfl, rfl, _⟩:=e'
  exact h'
 have hat2:NdAt w0 b (o + 8 + 8) z:=by
  obtain ⟨b', o', e', h'⟩:=hl.kid 2 (by show 2 < 3; omega)
  simp only [Nd.a, Option.some.injEq, Addr.mk.injEq] at e'
  obtain ⟨rfl, rfl, _⟩:=e'
  rw [show o + 8 + 8=o + 2 * 8 by omega]
  exact h'
 have hlx:Lies w0 x:=hl.sub x (by show x ∈ [x, y, z]; simp)
 have hly:Lies w0 y:=hl.sub y (by show y ∈ [x, y, z]; simp)
 have hlz:Lies w0 z:=hl.sub z (by show z ∈ [x, y, z]; simp)
 have hb1:=Bn w (.cells zNd h (some ⟨b, o, none⟩) 3 c 28)
 have hn1:=Hn w (.cells zNd h (some ⟨b, o, none⟩) 3 c 28)
 obtain ⟨W1, e1⟩:∃ W, w.alloc (.cells zNd h (some ⟨b, o, none⟩) 3 c 28)=W:=⟨_, rfl⟩
 have E1:Hid (w.alloc (.cells zNd h (some ⟨b, o, none⟩) 3 c 28)=W1):=e1
 rw [e1] at hb1 hn1
 have HB1:Hid (Below w§ w W1):=hb1
 have HN1:Hid (W1.heap[w§]?=some (.cells zNd h (some ⟨b, o, none⟩) 3 c 28 (0, 0))):=hn1
 have HNE:Hid (w§ ≠ g):=by have:=(Array.getElem?_eq_some_iff.1 ha.C).1; show _ ≠ _; omega
 have HA1:Hid (Ac w0 W1 g s):=ha.on hb1
 have y0:W1.cell? ⟨w§, 0, none⟩=some (zU h.k):=Co hn1 0
 have y6:W1.cell? ⟨w§, 6, none⟩=some (.slice (some ⟨b, o, none⟩) 3 c):=Co hn1 6
 have h3c:(3:Int)≤(c:Int):=by have:=hl.cap; simp only [Nd.ks, Nd.c, List.length_cons, List.length_nil] at this; omega
 have h1c:(1:Int)≤(c:Int):=by omega
 have hcm:(c:Int)≤9223372036854775807:=by have:=hl.max; simp only [Nd.c] at this; omega
 have cA:=hA 2 s g W1 HA1.out.C (by decide) (by omega) (by rw [eM] at hb; omega)
 have HX:Hid (∀ v s', Ac w0 v g ((s':Nat):Int)→s' + wgt x≤9000000000000000000→Calls zG 61 #[.agg zNd x.h x.a x.ks.length x.c, .func (.func F) #[] #[.pointer (some ⟨g, 0, none⟩)]] v fun e w' => e=.returned (.tuple #[])∧Ac w0 w' g ((s' + wgt x:Nat):Int)∧Mv v w' (fun k => k=g)):=fun v s' h1 h2 => hx F hF hA w0 v g s' hlx h1 h2
 have HG:Hid (∀ v, Below w0§ w0 v→Calls zG 100 #[.slice (some ⟨b, o + 8, none⟩) 2 (c - 1), .func (.func 32) #[] #[]] v fun e w' => e=.returned (zI (MX:Nat))∧Below v§ v w'):=fun v hv => by
  have:=grt_of [y, z] (some ⟨b, o + 8, none⟩) (c - 1) v (by simp) (fun i hi => ?_) (fun k hk => ?_)
  ·rw [eM] at this; exact this
  ·match i, hi with
   | 0, _ => exact ⟨b, o + 8, rfl, by simpa using hat1.on hv⟩
   | 1, _ => exact ⟨b, o + 8, rfl, by simpa using hat2.on hv⟩
  ·simp only [List.mem_cons, List.not_mem_nil, or_false] at hk
   rcases hk with rfl | rfl
   ·exact ⟨hly.on hv, hy, by omega⟩
   ·exact ⟨hlz.on hv, hz, by omega⟩
 have HAD:Hid (∀ (v:World) (s':Nat), Ac w0 v g s'→s' + MX≤9000000000000000000→Calls zG F #[zI (MX:Nat), .pointer (some ⟨g, 0, none⟩)] v fun e w' => e=.returned (.tuple #[])∧w'=v.setCell ⟨g, 0, none⟩ (zI ((s':Int) + (MX:Nat)))):=fun v s' h1 h2 => hA _ _ g v h1.C (by omega) (by omega) (by omega)
 have HAT:Hid (NdAt w0 b o x):=hat0
 rw [eM] at hb ⊢
 have HBD:Hid (s + (2 + wgt x + MX)≤9000000000000000000):=hb
 have hK:(h.k == 7)=true:=by simpa using hk
 have hK9:(h.k == 9)=false:=by rw [hk]; rfl
 clear hb1 hn1 e1 hl ha hat hat0 hat1 hat2 hlx hly hlz hx hy hz hA eW e hk hyM hzM eM hb
 show Calls zG 61 #[.agg zNd h (some ⟨b, o, none⟩) 3 c, .func (.func F) #[] #[.pointer (some ⟨g, 0, none⟩)]] w _
 go_enter Tryz.func61, Tryz.ntmps61
 go_upto_region 1 with fail
 rw [E1.out]
 clear E1
 unfold EntF at hF
 go_wp2_with fail
 refine cA.mono ?_
 rintro e w2 ⟨rfl, rfl⟩
 have HA2:Hid (Ac w0 (W1.setCell ⟨g, 0, none⟩ (zI (s + 2))) g ((s + 2:Nat):Int)):=by
  have:=HA1.out.set (t:=(s:Int) + 2)
  rw [show ((s + 2:Nat):Int)=(s:Int) + 2 by omega]; exact this
 have HM2:Hid (Mv w (W1.setCell ⟨g, 0, none⟩ (zI (s + 2))) (fun k => k=g)):=(Mv.bel HB1.out).two (mv_set _ _ _)
 have HN2:Hid ((W1.setCell ⟨g, 0, none⟩ (zI (s + 2))).heap[w§]?=some (.cells zNd h (some ⟨b, o, none⟩) 3 c 28 (0, 0))):=(Below.heap_setCell _ _ _ _ HNE.out).trans HN1.out
 generalize W1.setCell ⟨g, 0, none⟩ (zI (s + 2))=W2 at HA2 HM2 HN2 ⊢
 have cX:=HX.out W2 (s + 2) HA2.out (by have:=HBD.out; omega)
 have x6:W2.cell? ⟨w§, 6, none⟩=some (.slice (some ⟨b, o, none⟩) 3 c):=Co HN2.out 6
 obtain ⟨z0, z1, z2, z3, z4, z5, z6, z7⟩:=HAT.out.on HA2.out.B
 clear cA y0 y6
 go_wp2_with fail
 refine cX.mono ?_
 rintro e w3 ⟨rfl, hac, hmv⟩
 have HA3:Hid (Ac w0 w3 g ((s + 2 + wgt x:Nat):Int)):=hac
 have HM3:Hid (Mv w w3 (fun k => k=g)):=HM2.out.two hmv
 have g6:w3.cell? ⟨w§, 6, none⟩=some (.slice (some ⟨b, o, none⟩) 3 c):=Co ((hmv.block _ (Array.getElem?_eq_some_iff.1 HN2.out).1 HNE.out).trans HN2.out) 6
 have cG:=HG.out w3 HA3.out.B
 clear cX hac hmv x6 z0 z1 z2 z3 z4 z5 z6 z7 HA2 HM2 HN2 HX HG
 go_wp2_with fail
 refine cG.mono ?_
 rintro e w4 ⟨rfl, hb4⟩
 have HA4:Hid (Ac w0 w4 g ((s + 2 + wgt x:Nat):Int)):=HA3.out.on hb4
 have HM4:Hid (Mv w w4 (fun k => k=g)):=HM3.out.two (Mv.bel hb4)
 have cD:=HAD.out w4 (s + 2 + wgt x) HA4.out (by have:=HBD.out; omega)
 clear cG hb4 g6
 go_wp2_with fail
 refine cD.mono ?_
 rintro e w5 ⟨rfl, rfl⟩
 have HF:Hid (Ac w0 (w4.setCell ⟨g, 0, none⟩ (zI (((s + 2 + wgt x:Nat):Int) + (MX:Nat)))) g ((s + (2 + wgt x + MX):Nat):Int)∧Mv w (w4.setCell ⟨g, 0, none⟩ (zI (((s + 2 + wgt x:Nat):Int) + (MX:Nat)))) (fun k => k=g)):=by
  refine ⟨?_, HM4.out.two (mv_set _ _ _)⟩
  rw [show ((s + (2 + wgt x + MX):Nat):Int)=((s + 2 + wgt x:Nat):Int) + (MX:Nat) by omega]
  exact HA4.out.set
 clear cD
 generalize w4.setCell ⟨g, 0, none⟩ (zI (((s + 2 + wgt x:Nat):Int) + (MX:Nat)))=W5 at HF ⊢
 go_wp2_with fail
 go_end0
 exact ⟨rfl, HF.out⟩
theorem weigh_n (h:Hd) (a:Option Addr) (c:Nat) (ks:List Nd) (hx:∀ k ∈ ks, WgC k) (hk9:¬ h.k=9) (hk7:¬ h.k=7) (F:Nat) (hF:EntF F) (hA:AddF F) (w0 w:World) (g s:Nat) (hl:Lies w0 (.mk h a c ks)) (ha:Ac w0 w g s) (hb:s + wgt (.mk h a c ks)≤9000000000000000000) :
  Calls zG 61 #[.agg (Nd.mk h a c ks).vals, .func (.func F) #[] #[.pointer (some ⟨g, 0, none⟩)]] w fun e w' => e=.returned (.tuple #[])∧Ac w0 w' g ((s + wgt (.mk h a c ks):Nat):Int)∧Mv w w' (fun k => k=g):=by
 have eW:wgt (.mk h a c ks)=1 + (ks.map wgt).sum:=by simp only [wgt, hk9, hk7, if_false, wgts_map]
 rw [eW] at hb ⊢
 have hb1:=Bn w (.cells zNd h a ks.length c 28)
 have hn1:=Hn w (.cells zNd h a ks.length c 28)
 obtain ⟨W1, e1⟩:∃ W, w.alloc (.cells zNd h a ks.length c 28)=W:=⟨_, rfl⟩
 have E1:Hid (w.alloc (.cells zNd h a ks.length c 28)=W1):=e1
 rw [e1] at hb1 hn1
 have HB1:Hid (Below w§ w W1):=hb1
 have HN1:Hid (W1.heap[w§]?=some (.cells zNd h a ks.length c 28 (0, 0))):=hn1
 have HNE:Hid (w§ ≠ g):=by have:=(Array.getElem?_eq_some_iff.1 ha.C).1; show _ ≠ _; omega
 have HA1:Hid (Ac w0 W1 g s):=ha.on hb1
 have y0:W1.cell? ⟨w§, 0, none⟩=some (zU h.k):=Co hn1 0
 have y6:W1.cell? ⟨w§, 6, none⟩=some (.slice a ks.length c):=Co hn1 6
 have cA:=hA 1 s g W1 HA1.out.C (by decide) (by omega) (by omega)
 have HL:Hid (Lies w0 (.mk h a c ks)):=hl
 have HX:Hid (∀ k ∈ ks, ∀ v s', Ac w0 v g ((s':Nat):Int)→s' + wgt k≤9000000000000000000→Calls zG 61 #[.agg k.vals, .func (.func F) #[] #[.pointer (some ⟨g, 0, none⟩)]] v fun e w' => e=.returned (.tuple #[])∧Ac w0 w' g ((s' + wgt k:Nat):Int)∧Mv v w' (fun k => k=g)):=fun k hk v s' h1 h2 => hx k hk F hF hA w0 v g s' (hl.sub k hk) h1 h2
 have HBD:Hid (s + (1 + (ks.map wgt).sum)≤9000000000000000000):=hb
 have HCP:Hid (ks.length≤9223372036854775807):=by have h1:=hl.cap; have h2:=hl.max; simp only [Nd.ks, Nd.c] at h1 h2; show _≤_; omega
 have hK7:(h.k == 7)=false:=by simpa using hk7
 have hK9:(h.k == 9)=false:=by simpa using hk9
 clear hb1 hn1 e1 hl ha hx hA eW hk9 hk7 hb
 show Calls zG 61 #[.agg zNd h a ks.length c, .func (.func F) #[] #[.pointer (some ⟨g, 0, none⟩)]] w _
 go_enter Tryz.func61, Tryz.ntmps61
 go_upto_region 1 with fail
 rw [E1.out]
 clear E1
 unfold EntF at hF
 go_wp2_with fail
 refine cA.mono ?_
 rintro e w2 ⟨rfl, rfl⟩
 have HA2:Hid (Ac w0 (W1.setCell ⟨g, 0, none⟩ (zI (s + 1))) g ((s + 1:Nat):Int)):=by
  have:=HA1.out.set (t:=(s:Int) + 1)
  rw [show ((s + 1:Nat):Int)=(s:Int) + 1 by omega]; exact this
 have HM2:Hid (Mv w (W1.setCell ⟨g, 0, none⟩ (zI (s + 1))) (fun k => k=g)):=(Mv.bel HB1.out).two (mv_set _ _ _)
 have HN2:Hid ((W1.setCell ⟨g, 0, none⟩ (zI (s + 1))).heap[w§]?=some (.cells zNd h a ks.length c 28 (0, 0))):=(Below.heap_setCell _ _ _ _ HNE.out).trans HN1.out
 generalize W1.setCell ⟨g, 0, none⟩ (zI (s + 1))=W2 at HA2 HM2 HN2 ⊢
 have x6:W2.cell? ⟨w§, 6, none⟩=some (.slice a ks.length c):=Co HN2.out 6
 clear cA y0 y6 HN2
 go_wp2_with fail
 go_loopw [13] (fun t wr => ∃ (i m:Nat), i≤ks.length∧t=zI i∧Hid (Ac w0 wr g (m:Nat))∧Hid (Mv w wr (fun k => k=g))∧Hid (s + (1 + (ks.map wgt).sum)=m + ((ks.drop i).map wgt).sum)) (fun t _ => ks.length - (intOf t).toNat)
 case atStart => exact ⟨0, s + 1, by omega, rfl, HA2, HM2, by show _=_; rw [List.drop_zero]; omega⟩
 case round =>
  obtain ⟨i, m, hi, rfl, HAR, HMR, HR⟩:=hrel
  by_cases hlt:i < ks.length
  ·have hlt':(i:Int) < (ks.length:Int):=by omega
   have hmx:(i:Int) + 1≤9223372036854775807:=by have:=HCP.out; omega
   obtain ⟨b, o, e, hat⟩:=HL.out.kid i hlt
   have e2:a=some ⟨b, o, none⟩:=e
   clear e
   subst e2
   have HMEM:Hid (ks[i] ∈ ks):=List.getElem_mem hlt
   have HD:Hid (s + (1 + (ks.map wgt).sum)=m + (wgt ks[i] + ((ks.drop (i + 1)).map wgt).sum)):=by show _=_; rw [HR.out, List.drop_eq_getElem_cons hlt, List.map_cons, List.sum_cons]
   obtain ⟨k, ek⟩:∃ k, ks[i]=k:=⟨_, rfl⟩
   have hat2:NdAt wr b (o + i * 8) k:=by rw [← ek]; exact hat.on HAR.out.B
   rw [ek] at HD HMEM
   obtain ⟨z0, z1, z2, z3, z4, z5, z6, z7⟩:=hat2
   have hbx:=Bn wr (.cells zNd k.h k.a k.ks.length k.c 28)
   have cI:Calls zG 61 #[.agg zNd k.h k.a k.ks.length k.c, .func (.func F) #[] #[.pointer (some ⟨g, 0, none⟩)]] (wr.alloc (.cells zNd k.h k.a k.ks.length k.c 28)) fun e w' => e=.returned (.tuple #[])∧Ac w0 w' g ((m + wgt k:Nat):Int)∧Mv (wr.alloc (.cells zNd k.h k.a k.ks.length k.c 28)) w' (fun k => k=g):=HX.out k HMEM.out _ m (HAR.out.on hbx) (by have h1:=HBD.out; have h2:=HD.out; omega)
   have HMX:Hid (Mv w (wr.alloc (.cells zNd k.h k.a k.ks.length k.c 28)) (fun k => k=g)):=HMR.out.two (Mv.bel hbx)
   clear hbx ek hat HR HAR HMR
   go_wp2_with fail
   refine cI.mono ?_
   rintro e w5 ⟨rfl, hac, hmv⟩
   have HA5:Hid (Ac w0 w5 g ((m + wgt k:Nat):Int)):=hac
   have HM5:Hid (Mv w w5 (fun k => k=g)):=HMX.out.two hmv
   clear cI hac hmv z0 z1 z2 z3 z4 z5 z6 z7
   go_wp2_with fail
   exact ⟨⟨i + 1, m + wgt k, hlt, rfl, HA5, HM5, by show _=_; have:=HD.out; omega⟩, by simp only [intOf]; omega⟩
  ·obtain rfl:i=ks.length:=by omega
   have hnot:¬ (ks.length:Int) < (ks.length:Int):=by omega
   have HM:Hid (Ac w0 wr g ((s + (1 + (ks.map wgt).sum):Nat):Int)):=by rw [show s + (1 + (ks.map wgt).sum)=m by have:=HR.out; rw [List.drop_length] at this; simpa using this]; exact HAR
   clear HR HAR
   go_wp2_with fail
   go_end0
   exact ⟨rfl, HM.out, HMR.out⟩
theorem wgC_all:∀ m:Nd, formB m=true→WgC m:=by
 refine Nd.ind fun h a c ks ih hf => ?_
 simp only [formB, oneH, Bool.and_eq_true] at hf
 have hs:∀ k ∈ ks, WgC k:=fun k hk => ih k hk (formsB_mem ks hf.2 k hk)
 by_cases h9:h.k=9
 ·obtain ⟨x, rfl⟩:=len1 (fit_9 hf.1.2 h9)
  exact fun F hF hA w0 w g s hl ha hb => weigh_9 h a c x (hs x (by simp)) h9 F hF hA w0 w g s hl ha hb
 by_cases h7:h.k=7
 ·obtain ⟨x, y, z, rfl⟩:=len3 (fit_7 hf.1.2 h7)
  exact fun F hF hA w0 w g s hl ha hb => weigh_7 h a c x y z (hs x (by simp)) (hs y (by simp)) (hs z (by simp)) h7 F hF hA w0 w g s hl ha hb
 ·exact fun F hF hA w0 w g s hl ha hb => weigh_n h a c ks hs h9 h7 F hF hA w0 w g s hl ha hb
end Go.Proofs.YtjimaceccllnlaaGreatDoor
