import Derived.Test.YtjimaceccllnlaaGreatDoorA0
import Derived.Test.YtjimaceccllnlaaGreatDoorA26
import Derived.Test.YtjimaceccllnlaaGreatDoorA25
namespace Go.Proofs.YtjimaceccllnlaaGreatDoor
set_option maxRecDepth 100000
set_option maxHeartbeats 16000000
open Go.RowKit Go.Maps
set_option linter.unusedVariables false
set_option linter.unusedSimpArgs false
def rusE (L:ByteArray→Option Int) (S2 S3:List ByteArray):List RuleM→Option (Int × Int)
 | [] => none
 | r :: rs => match ruE L S2 S3 r with
  | some e => some e
  | none => rusE L S2 S3 rs
def stsE (L:ByteArray→Option Int) (S2 S3:List ByteArray):List StateM→Option (Int × Int)
 | [] => none
 | x :: xs => match rusE L S2 S3 x.rs with
  | some e => some e
  | none => stsE L S2 S3 xs
theorem rusE_none {L:ByteArray→Option Int} {S2 S3:List ByteArray} {r:RuleM} {rs:List RuleM} (h:ruE L S2 S3 r=none):rusE L S2 S3 (r :: rs)=rusE L S2 S3 rs:=by simp only [rusE, h]
theorem rusE_some {L:ByteArray→Option Int} {S2 S3:List ByteArray} {r:RuleM} {rs:List RuleM} {e:Int × Int} (h:ruE L S2 S3 r=some e):rusE L S2 S3 (r :: rs)=some e:=by simp only [rusE, h]
theorem stsE_none {L:ByteArray→Option Int} {S2 S3:List ByteArray} {x:StateM} {xs:List StateM} (h:rusE L S2 S3 x.rs=none):stsE L S2 S3 (x :: xs)=stsE L S2 S3 xs:=by simp only [stsE, h]
theorem stsE_some {L:ByteArray→Option Int} {S2 S3:List ByteArray} {x:StateM} {xs:List StateM} {e:Int × Int} (h:rusE L S2 S3 x.rs=some e):stsE L S2 S3 (x :: xs)=some e:=by simp only [stsE, h]
def chkE (S:StratM):Option (Int × Int):=if stratE S=0 then (match decE S with
 | some e => some e
 | none => stsE (regL S.rs) (S.ss.map SlotM.x) (S.ts.map StateM.x) S.ts) else some (0, stratE S)
theorem tyCheck_any (S:StratM) (w:World) (hl:StratL w S) (hz:StratZ S) (ht:Tab w) (hf:FTab w) (hg:Ety w):Calls zG 38 #[.agg S.vals] w (OutC w (chkE S)):=by
 have hb1:=Bn w (.cells #[.string S.x, .slice S.ra S.rs.length S.rc, .slice S.sa S.ss.length S.sc, .slice S.ta S.ts.length S.tc] 38)
 have hn1:=Hn w (.cells #[.string S.x, .slice S.ra S.rs.length S.rc, .slice S.sa S.ss.length S.sc, .slice S.ta S.ts.length S.tc] 38)
 obtain ⟨W1, e1⟩:∃ W, w.alloc (.cells #[.string S.x, .slice S.ra S.rs.length S.rc, .slice S.sa S.ss.length S.sc, .slice S.ta S.ts.length S.tc] 38)=W:=⟨_, rfl⟩
 have E1:Hid (w.alloc (.cells #[.string S.x, .slice S.ra S.rs.length S.rc, .slice S.sa S.ss.length S.sc, .slice S.ta S.ts.length S.tc] 38)=W1):=e1
 rw [e1] at hb1 hn1
 have HB1:Hid (Below w§ w W1):=hb1
 have HN1:Hid (W1.heap[w§]?=some (.cells #[.string S.x, .slice S.ra S.rs.length S.rc, .slice S.sa S.ss.length S.sc, .slice S.ta S.ts.length S.tc] 38 (0, 0))):=hn1
 have HH:Hid (StratL w S∧FTab w∧Ety w):=⟨hl, hf, hg⟩
 have cC:Calls zG 64 #[.agg #[.string S.x, .slice S.ra S.rs.length S.rc, .slice S.sa S.ss.length S.sc, .slice S.ta S.ts.length S.tc]] W1 fun e w' => e=.returned (zI (stratE S))∧Below W1§ W1 w':=check_any S W1 (hl.on hb1) hz (ht.on hb1)
 obtain ⟨E, eE⟩:∃ E, stratE S=E:=⟨_, rfl⟩
 have HE:Hid (stratE S=E):=eE
 rw [eE] at cC
 have s0:W1.cell? ⟨w§, 0, none⟩=some (.string S.x):=Co hn1 0
 have s1:W1.cell? ⟨w§, 1, none⟩=some (.slice S.ra S.rs.length S.rc):=Co hn1 1
 have s2:W1.cell? ⟨w§, 2, none⟩=some (.slice S.sa S.ss.length S.sc):=Co hn1 2
 have s3:W1.cell? ⟨w§, 3, none⟩=some (.slice S.ta S.ts.length S.tc):=Co hn1 3
 clear hb1 hn1 e1 hl hz ht hf hg eE
 show Calls zG 38 #[.agg #[.string S.x, .slice S.ra S.rs.length S.rc, .slice S.sa S.ss.length S.sc, .slice S.ta S.ts.length S.tc]] w _
 go_enter Tryz.func38, Tryz.ntmps38
 go_upto_region 1 with fail
 rw [E1.out]
 clear E1
 go_wp2_with fail
 refine cC.mono ?_
 rintro e w2 ⟨rfl, hb2⟩
 have HB2:Hid (Below w§ w w2):=below2 HB1.out hb2
 have g:=(hb2.block _ (Array.getElem?_eq_some_iff.1 HN1.out).1).trans HN1.out
 have HN2:Hid (w2.heap[w§]?=some (.cells #[.string S.x, .slice S.ra S.rs.length S.rc, .slice S.sa S.ss.length S.sc, .slice S.ta S.ts.length S.tc] 38 (0, 0))):=g
 clear cC hb2 s0 s1 s2 s3 HB1 HN1
 by_cases h0:E=0
 ·subst h0
  have s0:w2.cell? ⟨w§, 0, none⟩=some (.string S.x):=Co g 0
  have s1:w2.cell? ⟨w§, 1, none⟩=some (.slice S.ra S.rs.length S.rc):=Co g 1
  have s2:w2.cell? ⟨w§, 2, none⟩=some (.slice S.sa S.ss.length S.sc):=Co g 2
  have s3:w2.cell? ⟨w§, 3, none⟩=some (.slice S.ta S.ts.length S.tc):=Co g 3
  have cD:Calls zG 66 #[.agg #[.string S.x, .slice S.ra S.rs.length S.rc, .slice S.sa S.ss.length S.sc, .slice S.ta S.ts.length S.tc]] w2 (OutK w2 S):=declared_any S w2 (HH.out.1.on HB2.out) (HH.out.2.1.on HB2.out) (strat_ok HE.out (regL S.rs)).1
  have HF:Hid (chkE S=match decE S with
   | some e => some e
   | none => stsE (regL S.rs) (S.ss.map SlotM.x) (S.ts.map StateM.x) S.ts):=by show _=_; unfold chkE; rw [if_pos HE.out]
  clear g
  go_wp2_with fail
  refine cD.mono ?_
  rintro e w3 (⟨p, no, c, h1, rfl, h2, h3, hb3⟩ | ⟨b, b2, b3, h1, rfl, hk, hb3⟩)
  ·have HR:Hid (chkE S=some (p, no)):=by show _=_; rw [HF.out, h1]
   have h4:=Bn w3 (.cells #[.map none, .map none, .map none] 118)
   have HB3:Hid (Below w§ w (w3.alloc (.cells #[.map none, .map none, .map none] 118))∧Er (w3.alloc (.cells #[.map none, .map none, .map none] 118)) (.iface 95 (.pointer (some ⟨c, 0, none⟩))) no p):=⟨below2 HB2.out (below2 hb3 h4), h3.er.on h4⟩
   clear h1 h2 h3 h4 hb3 cD s0 s1 s2 s3
   go_wp2_with fail
   go_ret
   exact .inr ⟨p, no, _, _, HR.out, rfl, HB3.out.2, HB3.out.1⟩
  ·obtain ⟨L, eL⟩:∃ L, regL S.rs=L:=⟨_, rfl⟩
   obtain ⟨S2, eS2⟩:∃ l, S.ss.map SlotM.x=l:=⟨_, rfl⟩
   obtain ⟨S3, eS3⟩:∃ l, S.ts.map StateM.x=l:=⟨_, rfl⟩
   have HOK:Hid (∀ x ∈ S.ts, ∀ r ∈ x.rs, RuOk L r):=(strat_ok HE.out L).2
   have HR0:Hid (chkE S=stsE L S2 S3 S.ts):=by show _=_; rw [HF.out, h1, eL, eS2, eS3]
   rw [eL, eS2, eS3] at hk
   have h4:=Bn w3 (.cells #[.map (some b), .map (some b2), .map (some b3)] 118)
   have n4:=Hn w3 (.cells #[.map (some b), .map (some b2), .map (some b3)] 118)
   have hb4:=below2 hb3 h4
   have s3':(w3.alloc (.cells #[.map (some b), .map (some b2), .map (some b3)] 118)).cell? ⟨w§, 3, none⟩=some (.slice S.ta S.ts.length S.tc):=Co ((hb4.block _ (Array.getElem?_eq_some_iff.1 HN2.out).1).trans HN2.out) 3
   have HK4:Hid (Kn (w3.alloc (.cells #[.map (some b), .map (some b2), .map (some b3)] 118)) b b2 b3 L S2 S3):=hk.on h4
   have HB4:Hid (Below w§ w (w3.alloc (.cells #[.map (some b), .map (some b2), .map (some b3)] 118))):=below2 HB2.out hb4
   obtain ⟨WK, eWK⟩:∃ W, w3.alloc (.cells #[.map (some b), .map (some b2), .map (some b3)] 118)=W:=⟨_, rfl⟩
   have EWK:Hid (w3.alloc (.cells #[.map (some b), .map (some b2), .map (some b3)] 118)=WK):=eWK
   obtain ⟨M4, eM4⟩:∃ m, w3§=m:=⟨_, rfl⟩
   have EM4:Hid (w3§=M4):=eM4
   rw [eWK] at s3' HK4 HB4 n4
   rw [eM4] at n4
   have HN4:Hid (WK.heap[M4]?=some (.cells #[.map (some b), .map (some b2), .map (some b3)] 118 (0, 0))):=n4
   have HSL:Hid (SlAt w 3 S.ta S.tc (S.ts.map StateM.vals)):=HH.out.1.2.2.2.2.1
   have HST:Hid (∀ x ∈ S.ts, StateL w x):=HH.out.1.2.2.2.2.2.1
   obtain ⟨R, eR⟩:∃ R, chkE S=R:=⟨_, rfl⟩
   have ER:Hid (chkE S=R):=eR
   rw [eR] at HR0
   obtain ⟨ts, ets⟩:∃ ts, S.ts=ts:=⟨_, rfl⟩
   rw [ets] at HOK HR0 HSL HST s3'
   obtain ⟨ta, eta⟩:∃ q, S.ta=q:=⟨_, rfl⟩
   rw [eta] at HSL s3'
   clear h1 hk h4 n4 hb4 hb3 cD s0 s1 s2 s3 eWK eM4 eL eS2 eS3 HF HE HN2 eR ets eta
   go_upto_region 5 with fail
   rw [EWK.out, EM4.out]
   clear EWK EM4
   go_wp2_with fail
   go_loopw [28] (fun t wr => ∃ i:Nat, i≤ts.length∧t=zI i∧Hid (Below WK§ WK wr)∧Hid (R=stsE L S2 S3 (ts.drop i))) (fun t _ => ts.length - (intOf t).toNat)
   case atStart => exact ⟨0, by omega, rfl, Below.refl _ _, HR0⟩
   case round =>
    obtain ⟨i, hi, rfl, HBR, HR⟩:=hrel
    by_cases hlt:i < ts.length
    ·have hlt':(i:Int) < (ts.length:Int):=by omega
     have hmx:(i:Int) + 1≤9223372036854775807:=by have h1:=HSL.out.1; have h2:=HSL.out.2.1; rw [List.length_map] at h1; omega
     obtain ⟨bb, o, ea, hat⟩:=(HSL.out.on (mapz StateM.sz _) (below2 HB4.out HBR.out)).2.2 i (by rw [List.length_map]; exact hlt)
     simp only [List.getElem_map] at hat
     have HMEM:Hid (ts[i] ∈ ts):=List.getElem_mem hlt
     have HC:Hid (R=stsE L S2 S3 (ts[i] :: ts.drop (i + 1))):=by show _=_; rw [HR.out, List.drop_eq_getElem_cons hlt]
     obtain ⟨d, ed⟩:∃ d, ts[i]=d:=⟨_, rfl⟩
     rw [ed] at hat HC HMEM
     have HRG:Hid (wr.rangeAt bb (o + i * 3) d.vals.toList):=fun j v hv => by
      have hj:j < 3:=(List.getElem?_eq_some_iff.1 hv).1
      rw [hat j hj, ← hv]; simp
     have HZ:Hid ((wr.alloc (.cells #[.string ⟨#[]⟩, .slice none 0 0, zI 0] 65)).heap[wr§]?=some (.cells #[.string ⟨#[]⟩, .slice none 0 0, zI 0] 65 (0, 0))):=Hn _ _
     have hbx:Below wr§ wr ((wr.alloc (.cells #[.string ⟨#[]⟩, .slice none 0 0, zI 0] 65)).setRow wr§ d.vals):=below_row (Bn _ _) (Nat.le_refl _) _
     have HBX:Hid (Below WK§ WK ((wr.alloc (.cells #[.string ⟨#[]⟩, .slice none 0 0, zI 0] 65)).setRow wr§ d.vals)):=below2 HBR.out hbx
     have HNX:Hid (((wr.alloc (.cells #[.string ⟨#[]⟩, .slice none 0 0, zI 0] 65)).setRow wr§ d.vals).heap[wr§]?=some (.cells d.vals 65 (0, 0))):=setRow_heap _ _ _ _ _ _ HZ.out
     subst ea
     clear hat ed hbx HR HBR
     go_upto_region 10 with (first | (refine wpList_load_mid rfl 65 (.tmp 30) rfl bb (o + i * 3) rfl d.vals.toList _ HRG.out Tryz.underlying65 rfl (by show _=some 3; exact size87') ?_; rw [Array.toArray_toList]) | (refine wpList_store_row rfl 65 (.tmp 7) (.tmp 31) rfl wr§ d.vals rfl rfl 65 #[.string ⟨#[]⟩, .slice none 0 0, zI 0] HZ.out size87' rfl (all3' d) ?_))
     generalize hWX:World.setRow _ _ _=WX
     rw [hWX] at HBX HNX
     clear hWX HZ HRG
     have x1:WX.cell? ⟨wr§, 1, none⟩=some (.slice d.a d.rs.length d.c):=Co HNX.out 1
     have HRL:Hid (SlAt w 10 d.a d.c (d.rs.map RuleM.vals)):=(HST.out d HMEM.out).1
     have HRS:Hid (∀ r ∈ d.rs, RuleL w r∧RuOk L r):=fun r hr => ⟨(HST.out d HMEM.out).2.1 r hr, HOK.out d HMEM.out r hr⟩
     have HC2:Hid (∀ e, rusE L S2 S3 d.rs=some e→R=some e):=fun e he => HC.out.trans (stsE_some he)
     have HC3:Hid (rusE L S2 S3 d.rs=none→R=stsE L S2 S3 (ts.drop (i + 1))):=fun he => HC.out.trans (stsE_none he)
     obtain ⟨rs, ers⟩:∃ rs, d.rs=rs:=⟨_, rfl⟩
     rw [ers] at HRL HRS HC2 HC3 x1
     obtain ⟨da, eda⟩:∃ q, d.a=q:=⟨_, rfl⟩
     rw [eda] at HRL x1
     clear ers eda HC HMEM HNX
     generalize wr§=M1 at x1 ⊢
     go_wp2_with fail
     go_loopw [35] (fun t wr => ∃ j:Nat, j≤rs.length∧t=zI j∧Hid (Below WK§ WK wr)∧Hid (rusE L S2 S3 rs=rusE L S2 S3 (rs.drop j))) (fun t _ => rs.length - (intOf t).toNat)
     case atStart => exact ⟨0, by omega, rfl, HBX, rfl⟩
     case round =>
      obtain ⟨j, hj, rfl, HBQ, HRQ⟩:=hrel
      by_cases hjl:j < rs.length
      ·have hjl':(j:Int) < (rs.length:Int):=by omega
       have hjx:(j:Int) + 1≤9223372036854775807:=by have h1:=HRL.out.1; have h2:=HRL.out.2.1; rw [List.length_map] at h1; omega
       obtain ⟨b7, o7, ea7, hat7⟩:=(HRL.out.on (mapz RuleM.sz _) (below2 HB4.out HBQ.out)).2.2 j (by rw [List.length_map]; exact hjl)
       simp only [List.getElem_map] at hat7
       have HMQ:Hid (rs[j] ∈ rs):=List.getElem_mem hjl
       have HCQ:Hid (rusE L S2 S3 rs=rusE L S2 S3 (rs[j] :: rs.drop (j + 1))):=by show _=_; rw [HRQ.out, List.drop_eq_getElem_cons hjl]
       obtain ⟨q, eq⟩:∃ q, rs[j]=q:=⟨_, rfl⟩
       rw [eq] at hat7 HCQ HMQ
       have HRG7:Hid (wr.rangeAt b7 (o7 + j * 10) q.vals.toList):=fun j v hv => by
        have hj:j < 10:=(List.getElem?_eq_some_iff.1 hv).1
        rw [hat7 j hj, ← hv]; simp
       have HZ7:Hid ((wr.alloc (.cells #[zU 0, zU 0, zU 0, zI 0, zU 0, .string ⟨#[]⟩, .slice none 0 0, zI 0, .slice none 0 0, zI 0] 88)).heap[wr§]?=some (.cells #[zU 0, zU 0, zU 0, zI 0, zU 0, .string ⟨#[]⟩, .slice none 0 0, zI 0, .slice none 0 0, zI 0] 88 (0, 0))):=Hn _ _
       have hbx7:Below wr§ wr ((wr.alloc (.cells #[zU 0, zU 0, zU 0, zI 0, zU 0, .string ⟨#[]⟩, .slice none 0 0, zI 0, .slice none 0 0, zI 0] 88)).setRow wr§ q.vals):=below_row (Bn _ _) (Nat.le_refl _) _
       have HBX7:Hid (Below WK§ WK ((wr.alloc (.cells #[zU 0, zU 0, zU 0, zI 0, zU 0, .string ⟨#[]⟩, .slice none 0 0, zI 0, .slice none 0 0, zI 0] 88)).setRow wr§ q.vals)):=below2 HBQ.out hbx7
       have HNX7:Hid (((wr.alloc (.cells #[zU 0, zU 0, zU 0, zI 0, zU 0, .string ⟨#[]⟩, .slice none 0 0, zI 0, .slice none 0 0, zI 0] 88)).setRow wr§ q.vals).heap[wr§]?=some (.cells q.vals 88 (0, 0))):=setRow_heap _ _ _ _ _ _ HZ7.out
       subst ea7
       clear hat7 eq hbx7 HRQ HBQ
       go_upto_region 13 with (first | (refine wpList_load_mid rfl 88 (.tmp 37) rfl b7 (o7 + j * 10) rfl q.vals.toList _ HRG7.out Tryz.underlying88 rfl (by show _=some 10; exact size106') ?_; rw [Array.toArray_toList]) | (refine wpList_store_row rfl 88 (.tmp 9) (.tmp 38) rfl wr§ q.vals rfl rfl 88 #[zU 0, zU 0, zU 0, zI 0, zU 0, .string ⟨#[]⟩, .slice none 0 0, zI 0, .slice none 0 0, zI 0] HZ7.out size106' rfl (all10' q) ?_))
       generalize hWQ:World.setRow _ _ _=WQ
       rw [hWQ] at HBX7 HNX7
       clear hWQ HZ7 HRG7
       have hwq:=below2 HB4.out HBX7.out
       have hkq:=(HBX7.out.block _ (Array.getElem?_eq_some_iff.1 HN4.out).1).trans HN4.out
       have k0:WQ.cell? ⟨M4, 0, none⟩=some (.map (some b)):=Co hkq 0
       have k1:WQ.cell? ⟨M4, 1, none⟩=some (.map (some b2)):=Co hkq 1
       have k2:WQ.cell? ⟨M4, 2, none⟩=some (.map (some b3)):=Co hkq 2
       have cC:Calls zG 67 #[.agg #[.map (some b), .map (some b2), .map (some b3)], .agg q.vals] WQ (OutC WQ (ruE L S2 S3 q)):=checkRule_any b b2 b3 L S2 S3 q WQ (HK4.out.on HBX7.out) (HH.out.2.1.on hwq) (HH.out.2.2.on hwq) ((HRS.out q HMQ.out).1.on hwq) (HRS.out q HMQ.out).2
       clear hwq hkq
       go_wp2_with (refine wpList_load_row rfl 88 (.tmp 9) rfl wr§ rfl 88 q.vals (0, 0) _ HNX7.out Tryz.underlying88 rfl size106' ?_)
       refine cC.mono ?_
       rintro e w8 (⟨hn, rfl, hb8⟩ | ⟨p, no, T, v, hn, rfl, her, hb8⟩)
       ·have HB8:Hid (Below WK§ WK w8):=below2 HBX7.out hb8
        have HN8:Hid (rusE L S2 S3 rs=rusE L S2 S3 (rs.drop (j + 1))):=HCQ.out.trans (rusE_none hn)
        clear cC hb8 hn k0 k1 k2
        go_wp2_with fail
        exact ⟨⟨j + 1, hjl, rfl, HB8, HN8⟩, by simp only [intOf]; omega⟩
       ·have HB8:Hid (Below w§ w w8∧Er w8 (.iface T v) no p):=⟨below2 HB4.out (below2 HBX7.out hb8), her⟩
        have HD:Hid (R=some (p, no)):=HC2.out _ (HCQ.out.trans (rusE_some hn))
        clear cC hb8 hn her k0 k1 k2
        go_wp2_with fail
        go_ret
        exact .inr ⟨p, no, T, v, ER.out.trans HD.out, rfl, HB8.out.2, HB8.out.1⟩
      ·obtain rfl:j=rs.length:=by omega
       have hnot:¬ (rs.length:Int) < (rs.length:Int):=by omega
       have HN0:Hid (R=stsE L S2 S3 (ts.drop (i + 1))):=HC3.out (by rw [HRQ.out, List.drop_length]; rfl)
       clear HRQ
       go_wp2_with fail
       exact ⟨⟨i + 1, hlt, rfl, HBQ, HN0⟩, by simp only [intOf]; omega⟩
    ·obtain rfl:i=ts.length:=by omega
     have hnot:¬ (ts.length:Int) < (ts.length:Int):=by omega
     have HD:Hid (R=none):=by show _=_; rw [HR.out, List.drop_length]; rfl
     clear HR
     go_wp2_with fail
     go_ret
     exact .inl ⟨ER.out.trans HD.out, rfl, below2 HB4.out HBR.out⟩
 ·have hE:(E == 0)=false:=by simpa using h0
  have HF:Hid (chkE S=some (0, E)):=by show _=_; unfold chkE; rw [HE.out, if_neg h0]
  clear h0 g
  go_wp2_with fail
  refine (wrong_any _ _ _).mono ?_
  rintro e w7 ⟨rfl, hf7, hb7⟩
  have HB7:Hid (Below w§ w w7∧Er w7 (.iface 95 (.pointer (some ⟨w2§, 0, none⟩))) E 0):=⟨below2 HB2.out hb7, hf7.er⟩
  clear hb7 hf7
  go_wp2_with fail
  go_ret
  exact .inr ⟨0, E, _, _, HF.out, rfl, HB7.out.2, HB7.out.1⟩
def actB (d:DoM):Bool:=d.k == 1 || d.k == 2 || d.k == 3
def actL:List DoM→Nat
 | [] => 0
 | d :: ds => (if actB d then 1 else 0) + actL ds
theorem acts_any (r:RuleM) (w:World) (hl:RuleL w r):Calls zG 110 #[.agg r.vals] w fun e w' => e=.returned (zI (actL r.ds))∧Below w§ w w':=by
 have hb1:=Bn w (.cells r.vals 88)
 have hn1:=Hn w (.cells r.vals 88)
 obtain ⟨W1, e1⟩:∃ W, w.alloc (.cells r.vals 88)=W:=⟨_, rfl⟩
 have E1:Hid (w.alloc (.cells r.vals 88)=W1):=e1
 rw [e1] at hb1 hn1
 have HB1:Hid (Below w§ w W1):=hb1
 have c8:W1.cell? ⟨w§, 8, none⟩=some (.slice r.a r.ds.length r.c):=Co hn1 8
 have HSL:Hid (SlAt w 36 r.a r.c (r.ds.map DoM.vals)):=hl.2.1
 obtain ⟨ds, eds⟩:∃ ds, r.ds=ds:=⟨_, rfl⟩
 obtain ⟨ra, era⟩:∃ q, r.a=q:=⟨_, rfl⟩
 rw [eds] at HSL c8 ⊢
 rw [era] at HSL c8
 clear hb1 hn1 e1 hl eds era
 go_enter Tryz.func110, Tryz.ntmps110
 go_upto_region 1 with fail
 rw [E1.out]
 clear E1
 go_wp2_with fail
 go_loopw [3, 9] (fun f t wr => ∃ (i m:Nat), i≤ds.length∧t=zI i∧f=zI m∧Hid (Below w§ w wr)∧Hid (m≤i∧actL ds=m + actL (ds.drop i))) (fun _ t _ => ds.length - (intOf t).toNat)
 case atStart => exact ⟨0, 0, by omega, rfl, rfl, HB1, by show _∧_; simp⟩
 case round =>
  obtain ⟨i, m, hi, rfl, rfl, HBR, HR⟩:=hrel
  by_cases hlt:i < ds.length
  ·have hlt':(i:Int) < (ds.length:Int):=by omega
   have hmx:(i:Int) + 1≤9223372036854775807:=by have h1:=HSL.out.1; have h2:=HSL.out.2.1; rw [List.length_map] at h1; omega
   obtain ⟨bb, o, ea, hat⟩:=(HSL.out.on (mapz DoM.sz _) HBR.out).2.2 i (by rw [List.length_map]; exact hlt)
   simp only [List.getElem_map] at hat
   have HD:Hid (m≤i∧actL ds=m + ((if actB ds[i] then 1 else 0) + actL (ds.drop (i + 1)))):=⟨HR.out.1, by rw [HR.out.2, List.drop_eq_getElem_cons hlt]; rfl⟩
   obtain ⟨d, ed⟩:∃ d, ds[i]=d:=⟨_, rfl⟩
   rw [ed] at hat HD
   clear HR
   have HRG:Hid (wr.rangeAt bb (o + i * 36) d.vals.toList):=fun j v hv => by
    have hj:j < 36:=(List.getElem?_eq_some_iff.1 hv).1
    rw [hat j hj, ← hv]; simp
   have HZ:Hid ((wr.alloc (.cells #[zU 0, zU 0, .string ⟨#[]⟩, zU 0, zU 0, zU 0, zI 0, zU 0, .string ⟨#[]⟩, .slice none 0 0, zI 0, zU 0, zU 0, zU 0, zI 0, zU 0, .string ⟨#[]⟩, .slice none 0 0, zI 0, zU 0, zU 0, zU 0, zI 0, zU 0, .string ⟨#[]⟩, .slice none 0 0, zI 0, zU 0, zU 0, zU 0, zI 0, zU 0, .string ⟨#[]⟩, .slice none 0 0, zI 0, zI 0] 92)).heap[wr§]?=some (.cells #[zU 0, zU 0, .string ⟨#[]⟩, zU 0, zU 0, zU 0, zI 0, zU 0, .string ⟨#[]⟩, .slice none 0 0, zI 0, zU 0, zU 0, zU 0, zI 0, zU 0, .string ⟨#[]⟩, .slice none 0 0, zI 0, zU 0, zU 0, zU 0, zI 0, zU 0, .string ⟨#[]⟩, .slice none 0 0, zI 0, zU 0, zU 0, zU 0, zI 0, zU 0, .string ⟨#[]⟩, .slice none 0 0, zI 0, zI 0] 92 (0, 0))):=Hn _ _
   have hbx:Below wr§ wr ((wr.alloc (.cells #[zU 0, zU 0, .string ⟨#[]⟩, zU 0, zU 0, zU 0, zI 0, zU 0, .string ⟨#[]⟩, .slice none 0 0, zI 0, zU 0, zU 0, zU 0, zI 0, zU 0, .string ⟨#[]⟩, .slice none 0 0, zI 0, zU 0, zU 0, zU 0, zI 0, zU 0, .string ⟨#[]⟩, .slice none 0 0, zI 0, zU 0, zU 0, zU 0, zI 0, zU 0, .string ⟨#[]⟩, .slice none 0 0, zI 0, zI 0] 92)).setRow wr§ d.vals):=below_row (Bn _ _) (Nat.le_refl _) _
   have HWX:Hid (Below wr§ wr ((wr.alloc (.cells #[zU 0, zU 0, .string ⟨#[]⟩, zU 0, zU 0, zU 0, zI 0, zU 0, .string ⟨#[]⟩, .slice none 0 0, zI 0, zU 0, zU 0, zU 0, zI 0, zU 0, .string ⟨#[]⟩, .slice none 0 0, zI 0, zU 0, zU 0, zU 0, zI 0, zU 0, .string ⟨#[]⟩, .slice none 0 0, zI 0, zU 0, zU 0, zU 0, zI 0, zU 0, .string ⟨#[]⟩, .slice none 0 0, zI 0, zI 0] 92)).setRow wr§ d.vals)):=hbx
   have HNX:Hid (((wr.alloc (.cells #[zU 0, zU 0, .string ⟨#[]⟩, zU 0, zU 0, zU 0, zI 0, zU 0, .string ⟨#[]⟩, .slice none 0 0, zI 0, zU 0, zU 0, zU 0, zI 0, zU 0, .string ⟨#[]⟩, .slice none 0 0, zI 0, zU 0, zU 0, zU 0, zI 0, zU 0, .string ⟨#[]⟩, .slice none 0 0, zI 0, zU 0, zU 0, zU 0, zI 0, zU 0, .string ⟨#[]⟩, .slice none 0 0, zI 0, zI 0] 92)).setRow wr§ d.vals).heap[wr§]?=some (.cells d.vals 92 (0, 0))):=setRow_heap _ _ _ _ _ _ HZ.out
   subst ea
   clear hat ed hbx
   go_upto_region 5 with (first | (refine wpList_load_mid rfl 92 (.tmp 11) rfl bb (o + i * 36) rfl d.vals.toList _ HRG.out Tryz.underlying92 rfl (by show _=some 36; exact size110') ?_; rw [Array.toArray_toList]) | (refine wpList_store_row rfl 92 (.tmp 5) (.tmp 12) rfl wr§ d.vals rfl rfl 92 #[zU 0, zU 0, .string ⟨#[]⟩, zU 0, zU 0, zU 0, zI 0, zU 0, .string ⟨#[]⟩, .slice none 0 0, zI 0, zU 0, zU 0, zU 0, zI 0, zU 0, .string ⟨#[]⟩, .slice none 0 0, zI 0, zU 0, zU 0, zU 0, zI 0, zU 0, .string ⟨#[]⟩, .slice none 0 0, zI 0, zU 0, zU 0, zU 0, zI 0, zU 0, .string ⟨#[]⟩, .slice none 0 0, zI 0, zI 0] HZ.out size110' rfl (all36 ..) ?_))
   generalize hWX:World.setRow _ _ _=WX
   rw [hWX] at HWX HNX
   clear hWX HZ HRG
   have HBX:Hid (Below w§ w WX):=below2 HBR.out HWX.out
   have c0:WX.cell? ⟨wr§, 0, none⟩=some (zU d.k):=Co HNX.out 0
   have hm1:(m:Int) + 1≤9223372036854775807:=by have:=HD.out.1; omega
   cases h1:(d.k == 1) with
   | true =>
    have HE:Hid (m + 1≤i + 1∧actL ds=(m + 1) + actL (ds.drop (i + 1))):=⟨by have:=HD.out.1; omega, by have:=HD.out.2; simp [actB, h1] at this; omega⟩
    clear HD
    go_wp2_with fail
    exact ⟨⟨i + 1, m + 1, hlt, rfl, rfl, HBX, HE⟩, by simp only [intOf]; omega⟩
   | false =>
    cases h2:(d.k == 2) with
    | true =>
     have HE:Hid (m + 1≤i + 1∧actL ds=(m + 1) + actL (ds.drop (i + 1))):=⟨by have:=HD.out.1; omega, by have:=HD.out.2; simp [actB, h1, h2] at this; omega⟩
     clear HD
     go_wp2_with fail
     exact ⟨⟨i + 1, m + 1, hlt, rfl, rfl, HBX, HE⟩, by simp only [intOf]; omega⟩
    | false =>
     cases h3:(d.k == 3) with
     | true =>
      have HE:Hid (m + 1≤i + 1∧actL ds=(m + 1) + actL (ds.drop (i + 1))):=⟨by have:=HD.out.1; omega, by have:=HD.out.2; simp [actB, h1, h2, h3] at this; omega⟩
      clear HD
      go_wp2_with fail
      exact ⟨⟨i + 1, m + 1, hlt, rfl, rfl, HBX, HE⟩, by simp only [intOf]; omega⟩
     | false =>
      have HE:Hid (m≤i + 1∧actL ds=m + actL (ds.drop (i + 1))):=⟨by have:=HD.out.1; omega, by have:=HD.out.2; simp [actB, h1, h2, h3] at this; omega⟩
      clear HD
      go_wp2_with fail
      exact ⟨⟨i + 1, m, hlt, rfl, rfl, HBX, HE⟩, by simp only [intOf]; omega⟩
  ·obtain rfl:i=ds.length:=by omega
   have hnot:¬ (ds.length:Int) < (ds.length:Int):=by omega
   have HM:Hid (actL ds=m):=by show _=_; rw [HR.out.2, List.drop_length]; simp [actL]
   clear HR
   go_wp2_with fail
   go_ret
   exact ⟨by rw [HM.out]; rfl, HBR.out⟩
theorem grtR_of (F:Nat) (hF:EntF F) (f:RuleM→Nat) (rs:List RuleM) (a:Option Addr) (c:Nat) (w:World) (hk:SlAt w 10 a c (rs.map RuleM.vals)) (hs:∀ r ∈ rs, ∀ v, Below w§ w v→Calls zG F #[.agg r.vals] v fun e w' => e=.returned (zI (f r))∧Below v§ v w') :
  Calls zG 107 #[.slice a rs.length c, .func (.func F) #[] #[]] w fun e w' => e=.returned (zI (mxs (rs.map f)))∧Below w§ w w':=by
 have hmx0:=run_max
 have HSL:Hid (SlAt w 10 a c (rs.map RuleM.vals)):=hk
 have HS:Hid (∀ r ∈ rs, ∀ v, Below w§ w v→Calls zG F #[.agg r.vals] v fun e w' => e=.returned (zI (f r))∧Below v§ v w'):=hs
 unfold EntF at hF
 clear hk hs
 go_enter Tryz.func107, Tryz.ntmps107
 go_wp2_with fail
 go_loopw [5, 10] (fun fv t wr => ∃ (i m:Nat), i≤rs.length∧t=zI i∧fv=zI m∧Hid (Below w§ w wr)∧Hid (mxs (rs.map f)=max m (mxs ((rs.drop i).map f)))) (fun _ t _ => rs.length - (intOf t).toNat)
 case atStart => exact ⟨0, 0, by omega, rfl, rfl, Below.refl _ _, by show _=_; simp⟩
 case round =>
  obtain ⟨i, m, hi, rfl, rfl, HBR, HR⟩:=hrel
  by_cases hlt:i < rs.length
  ·have hlt':(i:Int) < (rs.length:Int):=by omega
   have hmx:(i:Int) + 1≤9223372036854775807:=by have h1:=HSL.out.1; have h2:=HSL.out.2.1; rw [List.length_map] at h1; omega
   obtain ⟨bb, o, ea, hat⟩:=(HSL.out.on (mapz RuleM.sz _) HBR.out).2.2 i (by rw [List.length_map]; exact hlt)
   simp only [List.getElem_map] at hat
   have HMEM:Hid (rs[i] ∈ rs):=List.getElem_mem hlt
   have HD:Hid (mxs (rs.map f)=max m (mxs ((rs[i] :: rs.drop (i + 1)).map f))):=by show _=_; rw [HR.out, List.drop_eq_getElem_cons hlt]
   obtain ⟨d, ed⟩:∃ d, rs[i]=d:=⟨_, rfl⟩
   rw [ed] at hat HD HMEM
   clear HR
   have HRG:Hid (wr.rangeAt bb (o + i * 10) d.vals.toList):=fun j v hv => by
    have hj:j < 10:=(List.getElem?_eq_some_iff.1 hv).1
    rw [hat j hj, ← hv]; simp
   have HZ:Hid ((wr.alloc (.cells #[zU 0, zU 0, zU 0, zI 0, zU 0, .string ⟨#[]⟩, .slice none 0 0, zI 0, .slice none 0 0, zI 0] 88)).heap[wr§]?=some (.cells #[zU 0, zU 0, zU 0, zI 0, zU 0, .string ⟨#[]⟩, .slice none 0 0, zI 0, .slice none 0 0, zI 0] 88 (0, 0))):=Hn _ _
   have hbx:Below wr§ wr ((wr.alloc (.cells #[zU 0, zU 0, zU 0, zI 0, zU 0, .string ⟨#[]⟩, .slice none 0 0, zI 0, .slice none 0 0, zI 0] 88)).setRow wr§ d.vals):=below_row (Bn _ _) (Nat.le_refl _) _
   have HWX:Hid (Below wr§ wr ((wr.alloc (.cells #[zU 0, zU 0, zU 0, zI 0, zU 0, .string ⟨#[]⟩, .slice none 0 0, zI 0, .slice none 0 0, zI 0] 88)).setRow wr§ d.vals)):=hbx
   have HNX:Hid (((wr.alloc (.cells #[zU 0, zU 0, zU 0, zI 0, zU 0, .string ⟨#[]⟩, .slice none 0 0, zI 0, .slice none 0 0, zI 0] 88)).setRow wr§ d.vals).heap[wr§]?=some (.cells d.vals 88 (0, 0))):=setRow_heap _ _ _ _ _ _ HZ.out
   subst ea
   clear hat ed hbx
   go_upto_region 5 with (first | (refine wpList_load_mid rfl 88 (.tmp 12) rfl bb (o + i * 10) rfl d.vals.toList _ HRG.out Tryz.underlying88 rfl (by show _=some 10; exact size106') ?_; rw [Array.toArray_toList]) | (refine wpList_store_row rfl 88 (.tmp 7) (.tmp 13) rfl wr§ d.vals rfl rfl 88 #[zU 0, zU 0, zU 0, zI 0, zU 0, .string ⟨#[]⟩, .slice none 0 0, zI 0, .slice none 0 0, zI 0] HZ.out size106' rfl (all10' d) ?_))
   generalize hWX:World.setRow _ _ _=WX
   rw [hWX] at HWX HNX
   clear hWX HZ HRG
   have HBX:Hid (Below w§ w WX):=below2 HBR.out HWX.out
   have cI:=HS.out d HMEM.out WX HBX.out
   go_wp2_with (refine wpList_load_row rfl 88 (.tmp 7) rfl wr§ rfl 88 d.vals (0, 0) _ HNX.out Tryz.underlying88 rfl size106' ?_)
   refine cI.mono ?_
   rintro e w5 ⟨rfl, hb5⟩
   have HB5:Hid (Below w§ w w5):=below2 HBX.out hb5
   clear cI hb5
   go_wp2_with fail
   exact ⟨⟨i + 1, max m (f d), hlt, rfl, by congr 1; split <;> omega, HB5, by show _=_; rw [HD.out]; simp only [List.map_cons, mxs]; omega⟩, by simp only [intOf]; omega⟩
  ·obtain rfl:i=rs.length:=by omega
   have hnot:¬ (rs.length:Int) < (rs.length:Int):=by omega
   have HM:Hid (mxs (rs.map f)=m):=by show _=_; rw [HR.out, List.drop_length]; simp [mxs]
   clear HR
   go_wp2_with fail
   go_ret
   exact ⟨by rw [HM.out]; rfl, HBR.out⟩
end Go.Proofs.YtjimaceccllnlaaGreatDoor
