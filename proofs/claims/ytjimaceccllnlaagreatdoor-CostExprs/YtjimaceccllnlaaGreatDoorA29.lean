import Derived.Test.YtjimaceccllnlaaGreatDoorA0
import Derived.Test.YtjimaceccllnlaaGreatDoorA28
import Derived.Laws.MakeOwn
import Derived.WalkMore
import Derived.Test.YtjimaceccllnlaaGreatDoorA14
import Derived.Test.YtjimaceccllnlaaGreatDoorA19
namespace Go.Proofs.YtjimaceccllnlaaGreatDoor
set_option maxRecDepth 100000
set_option maxHeartbeats 8000000
open Go.RowKit
set_option linter.unusedVariables false
set_option linter.unusedSimpArgs false
def costS (x:StateM):Nat × Nat:=if x.rs.isEmpty then (0, 0) else (stp x.rs, mxs (x.rs.map rA))
structure CoF (w:World) (G n:Nat) (f:Nat→Nat × Nat):Prop where
 c0:∀ j, j < n→w.cell? ⟨G, j * 2, none⟩=some (zI (f j).1)
 c1:∀ j, j < n→w.cell? ⟨G, j * 2 + 1, none⟩=some (zI (f j).2)
 f0:∀ k, w.frozen? ⟨G, k, none⟩=false
 lt:G < w§
theorem CoF.blk {w w':World} {G n:Nat} {f:Nat→Nat × Nat} (h:CoF w G n f) (k:w'.heap[G]?=w.heap[G]?) (hs:w§≤w'§):CoF w' G n f :=
 ⟨fun j hj => by rw [World.cell?_of_block k]; exact h.c0 j hj, fun j hj => by rw [World.cell?_of_block k]; exact h.c1 j hj, fun j => by rw [← h.f0 j]; unfold World.frozen?; rw [k], Nat.lt_of_lt_of_le h.lt hs⟩
theorem CoF.on {w w':World} {G n:Nat} {f:Nat→Nat × Nat} (h:CoF w G n f) (k:Below w§ w w'):CoF w' G n f:=h.blk (k.block G h.lt) k.size
theorem CoF.ext {w:World} {G n:Nat} {f g:Nat→Nat × Nat} (h:CoF w G n f) (e:∀ j, j < n→f j=g j):CoF w G n g:=⟨fun j hj => by rw [← e j hj]; exact h.c0 j hj, fun j hj => by rw [← e j hj]; exact h.c1 j hj, h.f0, h.lt⟩
theorem cs_same {w:World} {a:Addr} {u:Value} (v:Value) (h:w.cell? a=some u):(w.setCell a v).cell? a=some v:=World.cell?_setCell_same (h:=h) ..
theorem cs_other {w:World} {G x y:Nat} (v:Value) (h:x ≠ y):(w.setCell ⟨G, x, none⟩ v).cell? ⟨G, y, none⟩=w.cell? ⟨G, y, none⟩:=World.cell?_setCell_other (h:=fun e => h (by injection e)) ..
theorem CoF.set {w:World} {G n:Nat} {f:Nat→Nat × Nat} (h:CoF w G n f) (i:Nat) (hi:i < n) (p:Nat × Nat):CoF ((w.setCell ⟨G, i * 2, none⟩ (zI p.1)).setCell ⟨G, i * 2 + 1, none⟩ (zI p.2)) G n (fun j => if j=i then p else f j):=by
 refine ⟨fun j hj => ?_, fun j hj => ?_, fun k => ?_, ?_⟩
 ·rw [cs_other _ (by omega)]
  by_cases e:j=i
  ·subst e
   show _=some (Value.int .i64 (if j=j then p else f j).1)
   rw [if_pos rfl]
   exact cs_same _ (h.c0 j hi)
  ·show _=some (Value.int .i64 (if j=i then p else f j).1)
   rw [if_neg e, cs_other _ (by omega)]
   exact h.c0 j hj
 ·by_cases e:j=i
  ·subst e
   show _=some (Value.int .i64 (if j=j then p else f j).2)
   rw [if_pos rfl]
   exact cs_same _ (by rw [cs_other _ (by omega)]; exact h.c1 j hi)
  ·show _=some (Value.int .i64 (if j=i then p else f j).2)
   rw [if_neg e, cs_other _ (by omega), cs_other _ (by omega)]
   exact h.c1 j hj
 ·rw [World.frozen?_setCell, World.frozen?_setCell]; exact h.f0 k
 ·rw [World.size_setCell, World.size_setCell]; exact h.lt
theorem inf56:(Tryz.prog.info? 56).map (fun i => (i.zero, i.size, i.bytes))=some (some (.agg #[zI 0, zI 0]), 2, 16):=by kernel_rfl
theorem made2 (w:World) (n:Nat):CoF (w.alloc (.cells (madeCells #[zI 0, zI 0] (n * 2)) 56)) w§ n (fun _ => (0, 0)):=by
 have hn:=Hn w (.cells (madeCells #[zI 0, zI 0] (n * 2)) 56)
 refine ⟨fun j hj => ?_, fun j hj => ?_, fun k => Fo hn k, (Array.getElem?_eq_some_iff.1 hn).1⟩
 ·rw [Co hn]
  simp only [madeCells, Array.getElem?_map]
  rw [Array.getElem?_eq_getElem (by simp; omega)]
  simp
 ·rw [Co hn]
  simp only [madeCells, Array.getElem?_map]
  rw [Array.getElem?_eq_getElem (by simp; omega)]
  simp [show (j * 2 + 1) % 2=1 by omega]
def StW (x:StateM):Prop:=(∀ r ∈ x.rs, RuW r)∧stp x.rs≤9000000000000000000
theorem costs_any (ts:List StateM) (a:Option Addr) (c:Nat) (w:World) (hk:SlAt w 3 a c (ts.map StateM.vals)) (hl:∀ x ∈ ts, StateL w x∧StW x) (hn:ts.length≤1000000) :
  Calls zG 39 #[.slice a ts.length c] w fun e w' => ∃ G, e=.returned (.slice (some ⟨G, 0, none⟩) ts.length ts.length)∧CoF w' G ts.length (fun j => (ts.map costS).getD j (0, 0))∧Below w§ w w':=by
 obtain ⟨i0, hi, hz0, hz1, hz2⟩:=info_parts inf56
 have hmk:∀ W:World, (Instr.makeSlice 41 (zI (ts.length:Int)) (zI (ts.length:Int))).run Tryz.prog W=.ok (.slice (some ⟨W§, 0, none⟩) ts.length ts.length) (W.alloc (.cells (madeCells #[zI 0, zI 0] (ts.length * 2)) 56)):=by
  intro W
  have:=run_make (P:=Tryz.prog) W 41 56 i0 _ Tryz.underlying41 hi hz0 .i64 .i64 (ts.length:Int) (ts.length:Int) (by omega) (Int.le_refl _) (by rw [hz2]; omega) (by omega)
  rw [this, hz1]
  rfl
 have HSL:Hid (SlAt w 3 a c (ts.map StateM.vals)):=hk
 have HLL:Hid (∀ x ∈ ts, StateL w x∧StW x):=hl
 have HC1:Hid (CoF (w.alloc (.cells (madeCells #[zI 0, zI 0] (ts.length * 2)) 56)) w§ ts.length (fun _ => (0, 0))):=made2 w ts.length
 have HB1:Hid (Below w§ w (w.alloc (.cells (madeCells #[zI 0, zI 0] (ts.length * 2)) 56))):=Bn _ _
 obtain ⟨W1, e1⟩:∃ W, w.alloc (.cells (madeCells #[zI 0, zI 0] (ts.length * 2)) 56)=W:=⟨_, rfl⟩
 have E1:Hid (w.alloc (.cells (madeCells #[zI 0, zI 0] (ts.length * 2)) 56)=W1):=e1
 rw [e1] at HC1 HB1
 obtain ⟨T, eT⟩:∃ T:Nat→Nat × Nat, (fun j => (ts.map costS).getD j (0, 0))=T:=⟨_, rfl⟩
 have HT:Hid (∀ j (hj:j < ts.length), T j=costS ts[j]):=fun j hj => by rw [← eT]; simp [List.getD_eq_getElem?_getD, hj]
 rw [eT]
 clear hi hz0 hz1 hz2 hk hl e1 eT
 go_enter Tryz.func39, Tryz.ntmps39
 go_wp2_with fail
 go_step3
 go_wp2_with fail
 rw [E1.out]
 clear E1 hmk
 obtain ⟨G, eG⟩:∃ G, w§=G:=⟨_, rfl⟩
 have HG:Hid (w§≤G):=by show _≤_; omega
 rw [eG] at HC1 ⊢
 clear eG
 go_step3
 go_wp2_with fail
 go_loopw [11] (fun t wr => ∃ i:Nat, i≤ts.length∧t=zI i∧Hid (Below w§ w wr)∧Hid (CoF wr G ts.length (fun j => if j < i then T j else (0, 0)))) (fun t _ => ts.length - (intOf t).toNat)
 case atStart => exact ⟨0, by omega, rfl, HB1, HC1.out.ext fun j _ => by simp⟩
 case round =>
  obtain ⟨i, hi, rfl, HBR, HCR⟩:=hrel
  by_cases hlt:i < ts.length
  ·have hlt':(i:Int) < (ts.length:Int):=by omega
   have hmx:(i:Int) + 1≤9223372036854775807:=by have h1:=HSL.out.1; have h2:=HSL.out.2.1; rw [List.length_map] at h1; omega
   obtain ⟨bb, o, ea, hat⟩:=(HSL.out.on (mapz StateM.sz _) HBR.out).2.2 i (by rw [List.length_map]; exact hlt)
   simp only [List.getElem_map] at hat
   have HMEM:Hid (ts[i] ∈ ts):=List.getElem_mem hlt
   have HTI:Hid (T i=costS ts[i]):=HT.out i hlt
   obtain ⟨d, ed⟩:∃ d, ts[i]=d:=⟨_, rfl⟩
   rw [ed] at hat HMEM HTI
   have HRG:Hid (wr.rangeAt bb (o + i * 3) d.vals.toList):=fun j v hv => by
    have hj:j < 3:=(List.getElem?_eq_some_iff.1 hv).1
    rw [hat j hj, ← hv]; simp
   have HZ:Hid ((wr.alloc (.cells #[.string ⟨#[]⟩, .slice none 0 0, zI 0] 65)).heap[wr§]?=some (.cells #[.string ⟨#[]⟩, .slice none 0 0, zI 0] 65 (0, 0))):=Hn _ _
   have hbx:Below wr§ wr ((wr.alloc (.cells #[.string ⟨#[]⟩, .slice none 0 0, zI 0] 65)).setRow wr§ d.vals):=below_row (Bn _ _) (Nat.le_refl _) _
   have HWX:Hid (Below wr§ wr ((wr.alloc (.cells #[.string ⟨#[]⟩, .slice none 0 0, zI 0] 65)).setRow wr§ d.vals)):=hbx
   have HNX:Hid (((wr.alloc (.cells #[.string ⟨#[]⟩, .slice none 0 0, zI 0] 65)).setRow wr§ d.vals).heap[wr§]?=some (.cells d.vals 65 (0, 0))):=setRow_heap _ _ _ _ _ _ HZ.out
   subst ea
   clear hat ed hbx
   go_upto_region 5 with (first | (refine wpList_load_mid rfl 65 (.tmp 14) rfl bb (o + i * 3) rfl d.vals.toList _ HRG.out Tryz.underlying65 rfl (by show _=some 3; exact size87') ?_; rw [Array.toArray_toList]) | (refine wpList_store_row rfl 65 (.tmp 5) (.tmp 15) rfl wr§ d.vals rfl rfl 65 #[.string ⟨#[]⟩, .slice none 0 0, zI 0] HZ.out size87' rfl (all3' d) ?_))
   generalize hWX:World.setRow _ _ _=WX
   rw [hWX] at HWX HNX
   clear hWX HZ HRG
   have HBX:Hid (Below w§ w WX):=below2 HBR.out HWX.out
   have HCX:Hid (CoF WX G ts.length (fun j => if j < i then T j else (0, 0))):=HCR.out.on HWX.out
   have x1:WX.cell? ⟨wr§, 1, none⟩=some (.slice d.a d.rs.length d.c):=Co HNX.out 1
   have HDL:Hid (StateL w d∧StW d):=HLL.out d HMEM.out
   have hi2:(i:Int) < (ts.length:Int):=by omega
   clear HBR HCR HWX HNX HMEM
   cases he:d.rs.isEmpty with
   | true =>
    have hz:d.rs.length=0:=by rw [List.isEmpty_iff] at he; rw [he]; rfl
    have HN:Hid (CoF WX G ts.length (fun j => if j < i + 1 then T j else (0, 0))):=HCX.out.ext fun j hj => by
     by_cases h1:j < i
     ·rw [if_pos h1, if_pos (by omega)]
     ·by_cases h2:j=i
      ·rw [if_neg h1, if_pos (by omega), h2, HTI.out]; unfold costS; rw [he]; rfl
      ·rw [if_neg h1, if_neg (by omega)]
    rw [hz] at x1
    clear HCX HTI he hz
    go_wp2_with fail
    exact ⟨⟨i + 1, hlt, rfl, HBX, HN⟩, by simp only [intOf]; omega⟩
   | false =>
    have hz:((d.rs.length:Int) == 0)=false:=by
     cases h:d.rs with
     | nil => rw [h] at he; cases he
     | cons r l => simp; omega
    have cO:=costOf_any d.rs d.a d.c WX (HDL.out.1.1.on (mapz RuleM.sz _) HBX.out) (fun r hr => ⟨(HDL.out.1.2.1 r hr).on HBX.out, HDL.out.2.1 r hr⟩) HDL.out.2.2
    have HTJ:Hid (T i=(stp d.rs, mxs (d.rs.map rA))):=by show _=_; rw [HTI.out]; unfold costS; rw [he]; rfl
    clear HTI he
    go_wp2_with fail
    refine cO.mono ?_
    rintro e w5 ⟨rfl, hb5⟩
    have HC5:Hid (CoF w5 G ts.length (fun j => if j < i then T j else (0, 0))):=HCX.out.on hb5
    have HB5:Hid (Below w§ w w5):=below2 HBX.out hb5
    obtain ⟨P1, eP1⟩:∃ p, stp d.rs=p:=⟨_, rfl⟩
    obtain ⟨P2, eP2⟩:∃ p, mxs (d.rs.map rA)=p:=⟨_, rfl⟩
    rw [eP1, eP2] at HTJ ⊢
    have t0:=HC5.out.c0 i hlt
    have t1:=HC5.out.c1 i hlt
    have f0:=HC5.out.f0 (i * 2)
    have f1:=HC5.out.f0 (i * 2 + 1)
    have hU:=HC5.out.set i hlt (P1, P2)
    have HU:Hid (CoF ((w5.setCell ⟨G, i * 2, none⟩ (zI (P1:Nat))).setCell ⟨G, i * 2 + 1, none⟩ (zI (P2:Nat))) G ts.length (fun j => if j < i + 1 then T j else (0, 0))):=hU.ext fun j hj => by
     by_cases h2:j=i
     ·rw [if_pos h2, if_pos (by omega), h2, HTJ.out]
     ·rw [if_neg h2]
      by_cases h1:j < i
      ·rw [if_pos h1, if_pos (by omega)]
      ·rw [if_neg h1, if_neg (by omega)]
    have HBU:Hid (Below w§ w ((w5.setCell ⟨G, i * 2, none⟩ (zI (P1:Nat))).setCell ⟨G, i * 2 + 1, none⟩ (zI (P2:Nat)))):=(HB5.out.setCell HG.out _).setCell HG.out _
    clear cO hb5 hU eP1 eP2 hz x1 HCX HTJ
    go_upto_region 7 with fail
    generalize (w5.setCell ⟨G, i * 2, none⟩ (zI (P1:Nat))).setCell ⟨G, i * 2 + 1, none⟩ (zI (P2:Nat))=U at HU HBU ⊢
    clear t0 t1 f0 f1
    go_wp2_with fail
    exact ⟨⟨i + 1, hlt, rfl, HBU, HU⟩, by simp only [intOf]; omega⟩
  ·obtain rfl:i=ts.length:=by omega
   have hnot:¬ (ts.length:Int) < (ts.length:Int):=by omega
   have HN:Hid (CoF wr G ts.length T):=HCR.out.ext fun j hj => if_pos hj
   go_wp2_with fail
   try rw [Exit.noGoto_ret]
   go_ret
   exact ⟨G, rfl, HN.out, HBR.out⟩
def coT (S:StratM):Nat→Nat × Nat:=fun j => (S.ts.map costS).getD j (0, 0)
def OutSt (w:World) (S:StratM) (e:Ending) (w':World):Prop :=
 (chkE S=none∧∃ G, e=.returned (.tuple #[.slice (some ⟨G, 0, none⟩) S.ts.length S.ts.length, .nilIface])∧CoF w' G S.ts.length (coT S)∧Below w§ w w') ∨
 (∃ p no T v, chkE S=some (p, no)∧e=.returned (.tuple #[.slice none 0 0, .iface T v])∧Er w' (.iface T v) no p∧Below w§ w w')
def StratW (S:StratM):Prop:=chkE S=none→(∀ x ∈ S.ts, StW x)∧S.ts.length≤1000000
theorem states_any (S:StratM) (w:World) (hl:StratL w S) (hz:StratZ S) (hw:StratW S) (ht:Tab w) (hf:FTab w) (hg:Ety w):Calls zG 17 #[.agg S.vals] w (OutSt w S):=by
 have hb1:=Bn w (.cells #[.string S.x, .slice S.ra S.rs.length S.rc, .slice S.sa S.ss.length S.sc, .slice S.ta S.ts.length S.tc] 38)
 have hn1:=Hn w (.cells #[.string S.x, .slice S.ra S.rs.length S.rc, .slice S.sa S.ss.length S.sc, .slice S.ta S.ts.length S.tc] 38)
 obtain ⟨W1, e1⟩:∃ W, w.alloc (.cells #[.string S.x, .slice S.ra S.rs.length S.rc, .slice S.sa S.ss.length S.sc, .slice S.ta S.ts.length S.tc] 38)=W:=⟨_, rfl⟩
 have E1:Hid (w.alloc (.cells #[.string S.x, .slice S.ra S.rs.length S.rc, .slice S.sa S.ss.length S.sc, .slice S.ta S.ts.length S.tc] 38)=W1):=e1
 rw [e1] at hb1 hn1
 have HB1:Hid (Below w§ w W1):=hb1
 have HN1:Hid (W1.heap[w§]?=some (.cells #[.string S.x, .slice S.ra S.rs.length S.rc, .slice S.sa S.ss.length S.sc, .slice S.ta S.ts.length S.tc] 38 (0, 0))):=hn1
 have HH:Hid (StratL w S∧StratW S):=⟨hl, hw⟩
 have cC:Calls zG 38 #[.agg #[.string S.x, .slice S.ra S.rs.length S.rc, .slice S.sa S.ss.length S.sc, .slice S.ta S.ts.length S.tc]] W1 (OutC W1 (chkE S)):=tyCheck_any S W1 (hl.on hb1) hz (ht.on hb1) (hf.on hb1) (hg.on hb1)
 have s0:W1.cell? ⟨w§, 0, none⟩=some (.string S.x):=Co hn1 0
 have s1:W1.cell? ⟨w§, 1, none⟩=some (.slice S.ra S.rs.length S.rc):=Co hn1 1
 have s2:W1.cell? ⟨w§, 2, none⟩=some (.slice S.sa S.ss.length S.sc):=Co hn1 2
 have s3:W1.cell? ⟨w§, 3, none⟩=some (.slice S.ta S.ts.length S.tc):=Co hn1 3
 clear hb1 hn1 e1 hl hz ht hf hg hw
 show Calls zG 17 #[.agg #[.string S.x, .slice S.ra S.rs.length S.rc, .slice S.sa S.ss.length S.sc, .slice S.ta S.ts.length S.tc]] w _
 go_enter Tryz.func17, Tryz.ntmps17
 go_upto_region 1 with fail
 rw [E1.out]
 clear E1
 go_wp2_with fail
 refine cC.mono ?_
 rintro e w2 (⟨h1, rfl, hb2⟩ | ⟨p, no, T, v, h1, rfl, her, hb2⟩)
 ·have HB2:Hid (Below w§ w w2):=below2 HB1.out hb2
  have g3:w2.cell? ⟨w§, 3, none⟩=some (.slice S.ta S.ts.length S.tc):=Co ((hb2.block _ (Array.getElem?_eq_some_iff.1 HN1.out).1).trans HN1.out) 3
  have HR:Hid (chkE S=none):=h1
  have cS:=costs_any S.ts S.ta S.tc w2 ((HH.out.1.on HB2.out).2.2.2.2.1) (fun x hx => ⟨(HH.out.1.on HB2.out).2.2.2.2.2.1 x hx, (HH.out.2 h1).1 x hx⟩) (HH.out.2 h1).2
  clear h1 hb2 cC s0 s1 s2 s3
  go_wp2_with fail
  refine cS.mono ?_
  rintro e w3 ⟨G, rfl, hco, hb3⟩
  have HB3:Hid (Below w§ w w3∧CoF w3 G S.ts.length (coT S)):=⟨below2 HB2.out hb3, hco⟩
  clear cS hco hb3
  go_wp2_with fail
  go_ret2
  exact .inl ⟨HR.out, G, rfl, HB3.out.2, HB3.out.1⟩
 ·have HB2:Hid (Below w§ w w2∧Er w2 (.iface T v) no p):=⟨below2 HB1.out hb2, her⟩
  have HR:Hid (chkE S=some (p, no)):=h1
  clear h1 hb2 her cC s0 s1 s2 s3
  go_wp2_with fail
  go_ret2
  exact .inr ⟨p, no, T, v, HR.out, rfl, HB2.out.2, HB2.out.1⟩
def gmx (f:Nat × Nat→Nat) (T:Nat→Nat × Nat):Nat→Nat
 | 0 => 0
 | k + 1 => max (gmx f T k) (f (T k))
theorem ent45:EntF 45:=fun _ _ => by kernel_rfl
theorem ent46:EntF 46:=fun _ _ => by kernel_rfl
theorem steps_any (a b:Nat) (w:World):Calls zG 45 #[.agg #[zI a, zI b]] w fun e w' => e=.returned (zI a)∧Below w§ w w':=by
 go_enter Tryz.func45, Tryz.ntmps45
 go_wp2_with fail
 go_ret
 exact ⟨rfl, Bn _ _⟩
theorem actsO_any (a b:Nat) (w:World):Calls zG 46 #[.agg #[zI a, zI b]] w fun e w' => e=.returned (zI b)∧Below w§ w w':=by
 go_enter Tryz.func46, Tryz.ntmps46
 go_wp2_with fail
 go_ret
 exact ⟨rfl, Bn _ _⟩
theorem grtC_of (F:Nat) (hF:EntF F) (f:Nat × Nat→Nat) (hs:∀ (a b:Nat) (v:World), Calls zG F #[.agg #[zI a, zI b]] v fun e w' => e=.returned (zI (f (a, b)))∧Below v§ v w') (G n:Nat) (T:Nat→Nat × Nat) (w:World) (hn:n≤1000000) (hc:CoF w G n T) :
  Calls zG 44 #[.slice (some ⟨G, 0, none⟩) n n, .func (.func F) #[] #[]] w fun e w' => e=.returned (zI (gmx f T n))∧Below w§ w w':=by
 have hmx0:=run_max
 have HC:Hid (CoF w G n T):=hc
 have HS:Hid (∀ (a b:Nat) (v:World), Calls zG F #[.agg #[zI a, zI b]] v fun e w' => e=.returned (zI (f (a, b)))∧Below v§ v w'):=hs
 unfold EntF at hF
 clear hc hs
 go_enter Tryz.func44, Tryz.ntmps44
 go_wp2_with fail
 go_loopw [5, 10] (fun fv t wr => ∃ (i m:Nat), i≤n∧t=zI i∧fv=zI m∧Hid (Below w§ w wr)∧Hid (gmx f T i=m)) (fun _ t _ => n - (intOf t).toNat)
 case atStart => exact ⟨0, 0, by omega, rfl, rfl, Below.refl _ _, rfl⟩
 case round =>
  obtain ⟨i, m, hi, rfl, rfl, HBR, HR⟩:=hrel
  by_cases hlt:i < n
  ·have hlt':(i:Int) < (n:Int):=by omega
   have hmx:(i:Int) + 1≤9223372036854775807:=by omega
   have t0:=(HC.out.on HBR.out).c0 i hlt
   have t1:=(HC.out.on HBR.out).c1 i hlt
   obtain ⟨a, ea⟩:∃ a, (T i).1=a:=⟨_, rfl⟩
   obtain ⟨b, eb⟩:∃ b, (T i).2=b:=⟨_, rfl⟩
   have HTI:Hid (T i=(a, b)):=by show _=_; rw [← ea, ← eb]
   rw [ea] at t0
   rw [eb] at t1
   have cI:=HS.out a b (wr.alloc (.cells #[zI a, zI b] 56))
   have HX:Hid (∀ w5, Below (wr.alloc (.cells #[zI a, zI b] 56))§ (wr.alloc (.cells #[zI a, zI b] 56)) w5→Below w§ w w5):=fun w5 h5 => below2 (below2 HBR.out (Bn _ _)) h5
   clear ea eb
   go_wp2_with fail
   refine cI.mono ?_
   rintro e w5 ⟨rfl, hb5⟩
   have HB5:Hid (Below w§ w w5):=HX.out _ hb5
   clear cI hb5 t0 t1
   go_wp2_with fail
   exact ⟨⟨i + 1, max m (f (a, b)), hlt, rfl, by congr 1; split <;> omega, HB5, by show _=_; simp only [gmx, HR.out, HTI.out]⟩, by simp only [intOf]; omega⟩
  ·obtain rfl:i=n:=by omega
   have hnot:¬ (i:Int) < (i:Int):=by omega
   go_wp2_with fail
   go_ret
   exact ⟨by rw [HR.out]; rfl, HBR.out⟩
theorem strategy_ok (S:StratM) (w:World) (hl:StratL w S) (hz:StratZ S) (hw:StratW S) (ht:Tab w) (hf:FTab w) (hg:Ety w) (hk:chkE S=none) (hs:gmx (fun p => p.1) (coT S) S.ts.length≤500) :
  Calls zG 22 #[.agg S.vals] w fun e w' => e=.returned (.tuple #[.agg #[zI (gmx (fun p => p.1) (coT S) S.ts.length), zI (gmx (fun p => p.2) (coT S) S.ts.length)], .nilIface])∧Below w§ w w':=by
 have hb1:=Bn w (.cells #[.string S.x, .slice S.ra S.rs.length S.rc, .slice S.sa S.ss.length S.sc, .slice S.ta S.ts.length S.tc] 38)
 have hn1:=Hn w (.cells #[.string S.x, .slice S.ra S.rs.length S.rc, .slice S.sa S.ss.length S.sc, .slice S.ta S.ts.length S.tc] 38)
 have hs1:=Sa w (.cells #[.string S.x, .slice S.ra S.rs.length S.rc, .slice S.sa S.ss.length S.sc, .slice S.ta S.ts.length S.tc] 38)
 obtain ⟨W1, e1⟩:∃ W, w.alloc (.cells #[.string S.x, .slice S.ra S.rs.length S.rc, .slice S.sa S.ss.length S.sc, .slice S.ta S.ts.length S.tc] 38)=W:=⟨_, rfl⟩
 have E1:Hid (w.alloc (.cells #[.string S.x, .slice S.ra S.rs.length S.rc, .slice S.sa S.ss.length S.sc, .slice S.ta S.ts.length S.tc] 38)=W1):=e1
 rw [e1] at hb1 hn1 hs1
 have hb2:=Bn W1 (.cells #[zI 0, zI 0] 56)
 have hn2:=Hn W1 (.cells #[zI 0, zI 0] 56)
 have hk2:=(hb2.block _ (Array.getElem?_eq_some_iff.1 hn1).1).trans hn1
 have hbw:=below2 hb1 hb2
 rw [hs1] at hn2
 have HS1:Hid (W1§=w§ + 1):=hs1
 obtain ⟨W2, e2⟩:∃ W, W1.alloc (.cells #[zI 0, zI 0] 56)=W:=⟨_, rfl⟩
 have E2:Hid (W1.alloc (.cells #[zI 0, zI 0] 56)=W2):=e2
 rw [e2] at hn2 hk2 hbw
 have HB2:Hid (Below w§ w W2):=hbw
 have HN2:Hid (W2.heap[w§ + 1]?=some (.cells #[zI 0, zI 0] 56 (0, 0))):=hn2
 have cC:Calls zG 17 #[.agg #[.string S.x, .slice S.ra S.rs.length S.rc, .slice S.sa S.ss.length S.sc, .slice S.ta S.ts.length S.tc]] W2 (OutSt W2 S):=states_any S W2 (hl.on hbw) hz hw (ht.on hbw) (hf.on hbw) (hg.on hbw)
 have HLN:Hid (S.ts.length≤1000000∧chkE S=none):=⟨(hw hk).2, hk⟩
 have s0:W2.cell? ⟨w§, 0, none⟩=some (.string S.x):=Co hk2 0
 have s1:W2.cell? ⟨w§, 1, none⟩=some (.slice S.ra S.rs.length S.rc):=Co hk2 1
 have s2:W2.cell? ⟨w§, 2, none⟩=some (.slice S.sa S.ss.length S.sc):=Co hk2 2
 have s3:W2.cell? ⟨w§, 3, none⟩=some (.slice S.ta S.ts.length S.tc):=Co hk2 3
 obtain ⟨P1, eP1⟩:∃ p, gmx (fun p => p.1) (coT S) S.ts.length=p:=⟨_, rfl⟩
 obtain ⟨P2, eP2⟩:∃ p, gmx (fun p => p.2) (coT S) S.ts.length=p:=⟨_, rfl⟩
 have HP:Hid (gmx (fun p => p.1) (coT S) S.ts.length=P1∧gmx (fun p => p.2) (coT S) S.ts.length=P2):=⟨eP1, eP2⟩
 rw [eP1] at hs
 have hs5:¬ (500:Int) < (P1:Int):=by omega
 rw [eP1, eP2]
 clear hb1 hn1 hs1 hb2 hn2 hk2 hbw e1 e2 hl hz ht hf hg hw hk eP1 eP2 hs
 show Calls zG 22 #[.agg #[.string S.x, .slice S.ra S.rs.length S.rc, .slice S.sa S.ss.length S.sc, .slice S.ta S.ts.length S.tc]] w _
 go_enter Tryz.func22, Tryz.ntmps22
 go_upto_region 1 with fail
 rw [E1.out]
 try rw [HS1.out]
 rw [E2.out]
 clear E1 E2 HS1
 go_wp2_with fail
 refine cC.mono ?_
 rintro e w3 (⟨h1, G, rfl, hco, hb3⟩ | ⟨p, no, T, v, h1, _⟩)
 ·have HB3:Hid (Below w§ w w3):=below2 HB2.out hb3
  have HN3:Hid (w3.heap[w§ + 1]?=some (.cells #[zI 0, zI 0] 56 (0, 0))):=(hb3.block _ (Array.getElem?_eq_some_iff.1 HN2.out).1).trans HN2.out
  have HCO:Hid (CoF w3 G S.ts.length (coT S)):=hco
  have c1:=grtC_of 45 ent45 (fun p => p.1) (fun a b v => steps_any a b v) G S.ts.length (coT S) w3 HLN.out.1 hco
  rw [HP.out.1] at c1
  clear h1 hco hb3 cC s0 s1 s2 s3 HB2 HN2
  go_wp2_with fail
  refine c1.mono ?_
  rintro e w4 ⟨rfl, hb4⟩
  have HB4:Hid (Below w§ w w4):=below2 HB3.out hb4
  have HN4:Hid (w4.heap[w§ + 1]?=some (.cells #[zI 0, zI 0] 56 (0, 0))):=(hb4.block _ (Array.getElem?_eq_some_iff.1 HN3.out).1).trans HN3.out
  have c2:=grtC_of 46 ent46 (fun p => p.2) (fun a b v => actsO_any a b v) G S.ts.length (coT S) w4 HLN.out.1 (HCO.out.on hb4)
  rw [HP.out.2] at c2
  clear c1 hb4 HN3 HB3
  go_wp2_with fail
  refine c2.mono ?_
  rintro e w5 ⟨rfl, hb5⟩
  have h6:=Bn w5 (.cells #[zI (P1:Nat), zI (P2:Nat)] 56)
  have hb6:=below2 hb5 h6
  have n6:=Hn w5 (.cells #[zI (P1:Nat), zI (P2:Nat)] 56)
  have r6:=(hb6.block _ (Array.getElem?_eq_some_iff.1 HN4.out).1).trans HN4.out
  have HB6:Hid (Below w§ w (w5.alloc (.cells #[zI (P1:Nat), zI (P2:Nat)] 56))):=below2 HB4.out hb6
  clear c2 h6 hb6 hb5
  go_upto_region 5 with fail
  obtain ⟨W6, e6⟩:∃ W, w5.alloc (.cells #[zI (P1:Nat), zI (P2:Nat)] 56)=W:=⟨_, rfl⟩
  rw [e6] at n6 r6 HB6 ⊢
  clear e6
  generalize w5§=M5 at n6 ⊢
  have m0:W6.cell? ⟨M5, 0, none⟩=some (zI (P1:Nat)):=Co n6 0
  have m1:W6.cell? ⟨M5, 1, none⟩=some (zI (P2:Nat)):=Co n6 1
  have r0:W6.cell? ⟨w§ + 1, 0, none⟩=some (zI 0):=Co r6 0
  have r1:W6.cell? ⟨w§ + 1, 1, none⟩=some (zI 0):=Co r6 1
  have f0:W6.frozen? ⟨w§ + 1, 0, none⟩=false:=Fo r6 0
  have f1:W6.frozen? ⟨w§ + 1, 1, none⟩=false:=Fo r6 1
  have hu1:=heap_setCell_same W6 (w§ + 1) 0 _ _ (zI (P1:Nat)) r6
  have hu2:=heap_setCell_same (W6.setCell ⟨w§ + 1, 0, none⟩ (zI (P1:Nat))) (w§ + 1) 1 _ _ (zI (P2:Nat)) hu1
  have HU:Hid (((W6.setCell ⟨w§ + 1, 0, none⟩ (zI (P1:Nat))).setCell ⟨w§ + 1, 1, none⟩ (zI (P2:Nat))).heap[w§ + 1]?=some (.cells #[zI (P1:Nat), zI (P2:Nat)] 56 (0, 0))∧Below w§ w ((W6.setCell ⟨w§ + 1, 0, none⟩ (zI (P1:Nat))).setCell ⟨w§ + 1, 1, none⟩ (zI (P2:Nat)))):=⟨hu2, (HB6.out.setCell (Nat.le_succ _) _).setCell (Nat.le_succ _) _⟩
  clear hu1 hu2 r6 n6
  go_wp2_with fail
  exact bodyPost_ret (Rt2 (p:=2) (u:=3) (ty:=56) rfl _ _ (w§ + 1) 56 #[zI (P1:Nat), zI (P2:Nat)] (0, 0) _ rfl HU.out.1 Tryz.underlying56 rfl zK) rfl ⟨rfl, HU.out.2⟩
 ·rw [HLN.out.2] at h1
  cases h1
mutual
def ndT:Tr→Nd
 | .mk h ks => .mk h none 0 (ndTs ks)
def ndTs:List Tr→List Nd
 | [] => []
 | k :: ks => ndT k :: ndTs ks
end
def bare (m:Nd):Nd:=ndT (treeOf m)
theorem bares:∀ ks:List Nd, ndTs (treesOf ks)=ks.map bare
 | [] => rfl
 | k :: ks => by simp only [treesOf, ndTs, List.map_cons, bares ks]; rfl
theorem bare_mk (h:Hd) (a:Option Addr) (c:Nat) (ks:List Nd):bare (.mk h a c ks)=.mk h none 0 (ks.map bare):=by
 show ndT (treeOf (.mk h a c ks))=_
 rw [treeOf, ndT, bares]
theorem bare_h (m:Nd):(bare m).h=m.h:=by cases m; rw [bare_mk]; rfl
theorem bare_ks (m:Nd):(bare m).ks=m.ks.map bare:=by cases m; rw [bare_mk]; rfl
theorem formsB_b:∀ l:List Nd, (∀ k ∈ l, formB (bare k)=formB k)→formsB (l.map bare)=formsB l
 | [], _ => rfl
 | k :: l, h => by simp only [List.map_cons, formsB]; rw [h k (by simp), formsB_b l fun x hx => h x (by simp [hx])]
theorem formB_b:∀ m, formB (bare m)=formB m:=by
 refine Nd.ind fun h a c ks ih => ?_
 rw [bare_mk]
 simp only [formB, List.length_map]
 rw [formsB_b ks ih]
theorem sizes_b:∀ l:List Nd, (∀ k ∈ l, size (bare k)=size k)→sizes (l.map bare)=sizes l
 | [], _ => rfl
 | k :: l, h => by simp only [List.map_cons, sizes]; rw [h k (by simp), sizes_b l fun x hx => h x (by simp [hx])]
theorem size_b:∀ m, size (bare m)=size m:=by
 refine Nd.ind fun h a c ks ih => ?_
 rw [bare_mk]
 simp only [size]
 rw [sizes_b ks ih]
theorem deps_b (h:Hd):∀ (l:List Nd) (i:Nat), (∀ k ∈ l, dep (bare k)=dep k)→deps h i (l.map bare)=deps h i l
 | [], i, _ => rfl
 | k :: l, i, hk => by simp only [List.map_cons, deps]; rw [hk k (by simp), deps_b h l (i + 1) fun x hx => hk x (by simp [hx]), bare_h]
theorem dep_b:∀ m, dep (bare m)=dep m:=by
 refine Nd.ind fun h a c ks ih => ?_
 rw [bare_mk]
 simp only [dep]
 rw [deps_b h ks 0 ih]
theorem wgts_b:∀ l:List Nd, (∀ k ∈ l, wgt (bare k)=wgt k)→wgts (l.map bare)=wgts l
 | [], _ => rfl
 | k :: l, h => by simp only [List.map_cons, wgts]; rw [h k (by simp), wgts_b l fun x hx => h x (by simp [hx])]
theorem wgt_b:∀ m, wgt (bare m)=wgt m:=by
 refine Nd.ind fun h a c ks ih => ?_
 rw [bare_mk]
 simp only [wgt]
 rw [wgts_b ks ih]
theorem tysR_b (L:ByteArray→Option Int):∀ l:List Nd, (∀ k ∈ l, tyR L (bare k)=tyR L k)→tysR L (l.map bare)=tysR L l
 | [], _ => rfl
 | k :: l, h => by simp only [List.map_cons, tysR]; rw [h k (by simp), tysR_b L l fun x hx => h x (by simp [hx])]
theorem tyR_b (L:ByteArray→Option Int):∀ m, tyR L (bare m)=tyR L m:=by
 refine Nd.ind fun h a c ks ih => ?_
 rw [bare_mk]
 simp only [tyR, List.length_map]
 rw [tysR_b L ks ih]
theorem samesB_b:∀ (l js:List Nd), (∀ k ∈ l, ∀ n, sameB (bare k) n=sameB k n)→samesB (l.map bare) js=samesB l js
 | [], _, _ => rfl
 | k :: l, [], _ => rfl
 | k :: l, j :: js, h => by simp only [List.map_cons, samesB]; rw [h k (by simp), samesB_b l js fun x hx => h x (by simp [hx])]
theorem sameB_b:∀ m n, sameB (bare m) n=sameB m n:=by
 refine Nd.ind fun h a c ks ih n => ?_
 rw [bare_mk]
 simp only [sameB, List.length_map]
 rw [samesB_b ks _ ih]
theorem cE_b (m:Nd):cE (bare m)=cE m:=by unfold cE; rw [formB_b, dep_b]
theorem exW_b (m:Nd):exW (bare m)=exW m:=by unfold exW; rw [formB_b, wgt_b]
theorem fE_b (m:Nd):fE (bare m)=fE m:=by unfold fE; rw [formB_b]
theorem kid0_b (m:Nd):(kid0 (bare m)).h=(kid0 m).h:=by
 unfold kid0
 rw [bare_ks]
 cases m.ks with
 | nil => rfl
 | cons k l => exact bare_h k
def bReg (r:RegM):RegM:=⟨r.x, r.t, bare r.m, r.p⟩
def bDo (d:DoM):DoM:=⟨d.k, d.o, d.x, bare d.sd, bare d.qt, bare d.pr, bare d.vl, d.p⟩
def bRule (r:RuleM):RuleM:=⟨bare r.m, none, 0, r.ds.map bDo, r.p⟩
def bState (x:StateM):StateM:=⟨x.x, none, 0, x.rs.map bRule, x.p⟩
def bStr (S:StratM):StratM:=⟨S.x, none, 0, S.rs.map bReg, none, 0, S.ss, none, 0, S.ts.map bState⟩
def rgOf (r:RegT):RegM:=⟨r.x, r.t, ndT r.m, r.p⟩
def slOf (r:SlotT):SlotM:=⟨r.x, r.p⟩
def doOf (d:DoT):DoM:=⟨d.k, d.o, d.x, ndT d.sd, ndT d.qt, ndT d.pr, ndT d.vl, d.p⟩
def ruOf (r:RuleT):RuleM:=⟨ndT r.m, none, 0, r.ds.map doOf, r.p⟩
def stOfT (x:StateT):StateM:=⟨x.x, none, 0, x.rs.map ruOf, x.p⟩
def sT (S:StratT):StratM:=⟨S.x, none, 0, S.rs.map rgOf, none, 0, S.ss.map slOf, none, 0, S.ts.map stOfT⟩
theorem bStr_tr (S:StratM):bStr S=sT S.tr:=by
 unfold bStr sT StratM.tr
 simp only [List.map_map]
 congr 1
 ·exact (List.map_id _).symm
 ·refine List.map_congr_left fun x _ => ?_
  show bState x=stOfT x.tr
  unfold bState stOfT StateM.tr
  simp only [List.map_map]
  congr 1
  refine List.map_congr_left fun r _ => ?_
  show bRule r=ruOf r.tr
  unfold bRule ruOf RuleM.tr
  simp only [List.map_map]
  rfl
theorem regL_b (l:List RegM):regL (l.map bReg)=regL l:=by
 funext x
 unfold regL
 induction l with
 | nil => rfl
 | cons r l ih =>
  simp only [List.map_cons, List.find?_cons]
  show Option.map _ (match decide (r.x=x) with | true => _ | false => _)=_
  cases decide (r.x=x) with
  | true => rfl
  | false => exact ih
theorem regE_b (r:RegM):regE (bReg r)=regE r:=by
 unfold regE initE bReg
 simp only [fE_b, bare_h, kid0_b]
theorem doE_b (d:DoM):doE (bDo d)=doE d:=by
 unfold doE partE
 simp only [bDo, ndO, ndN, ndS, ndQ, ndP, ndV, cE_b, sameB_b]
 rfl
theorem ruleE_b (r:RuleM):ruleE (bRule r)=ruleE r:=by
 unfold ruleE bRule
 simp only [cE_b, List.length_map, List.map_map]
 rw [show (doE ∘ bDo)=doE from funext doE_b]
theorem stateE_b (x:StateM):stateE (bState x)=stateE x:=by
 unfold stateE bState
 simp only [List.length_map, List.map_map]
 rw [show (ruleE ∘ bRule)=ruleE from funext ruleE_b]
theorem stratE_b (S:StratM):stratE (bStr S)=stratE S:=by
 unfold stratE bStr
 simp only [List.length_map, List.map_map]
 rw [show (regE ∘ bReg)=regE from funext regE_b, show (stateE ∘ bState)=stateE from funext stateE_b]
theorem dRegs_b:∀ (rs l:List RegM), dRegs (l.map bReg) (rs.map bReg)=dRegs l rs
 | [], _ => rfl
 | r :: rs, l => by
  simp only [List.map_cons, dRegs, regL_b]
  have h:=dRegs_b rs (l ++ [r])
  rw [List.map_append] at h
  simp only [bReg, tyR_b] at h ⊢
  rw [← h]
  rfl
theorem decE_b (S:StratM):decE (bStr S)=decE S:=by
 unfold decE
 have h:=dRegs_b S.rs []
 have e:(bStr S).ts.map stN=S.ts.map stN:=by
  unfold bStr
  simp only [List.map_map]
  rfl
 rw [e]
 show (match dRegs [] (S.rs.map bReg) with | some e => some e | none => match dNms [] (S.ss.map slN) with | some e => some e | none => dNms [] (S.ts.map stN))=_
 rw [show dRegs [] (S.rs.map bReg)=dRegs [] S.rs from h]
 rfl
theorem ptsL_b (L:ByteArray→Option Int) (d:DoM):ptsL L (bDo d)=(ptsL L d).map fun q => (bare q.1, q.2):=by
 unfold ptsL bDo
 repeat' split
 all_goals simp_all
theorem pcE_b (L:ByteArray→Option Int) (q:Nd × Int):pcE L (bare q.1, q.2)=pcE L q:=by
 unfold pcE
 simp only [tyR_b, bare_h]
theorem psE_b (L:ByteArray→Option Int):∀ l:List (Nd × Int), psE L (l.map fun q => (bare q.1, q.2))=psE L l
 | [] => rfl
 | q :: l => by simp only [List.map_cons, psE]; rw [pcE_b, psE_b L l]
theorem dosE_b (L:ByteArray→Option Int) (S2 S3:List ByteArray):∀ (l:List DoM) (en:Bool), dosE L S2 S3 en (l.map bDo)=dosE L S2 S3 en l
 | [], en => by cases en <;> rfl
 | d :: l, en => by
  simp only [List.map_cons, dosE]
  rw [ptsL_b, psE_b]
  show (if en then some (d.p, 153) else if standB L S2 S3 d.k d.x then (match psE L (ptsL L d) with | some e => some e | none => dosE L S2 S3 (d.k == 5 || d.k == 6) (l.map bDo)) else some (d.p, 151))=_
  rw [dosE_b L S2 S3 l]
  rfl
theorem ruE_b (L:ByteArray→Option Int) (S2 S3:List ByteArray) (r:RuleM):ruE L S2 S3 (bRule r)=ruE L S2 S3 r:=by
 unfold ruE
 rw [show pcE L ((bRule r).m, 5)=pcE L (r.m, 5) from pcE_b L (r.m, 5), show (bRule r).ds=r.ds.map bDo from rfl, dosE_b]
theorem rusE_b (L:ByteArray→Option Int) (S2 S3:List ByteArray):∀ l:List RuleM, rusE L S2 S3 (l.map bRule)=rusE L S2 S3 l
 | [] => rfl
 | r :: l => by simp only [List.map_cons, rusE]; rw [ruE_b, rusE_b L S2 S3 l]
theorem stsE_b (L:ByteArray→Option Int) (S2 S3:List ByteArray):∀ l:List StateM, stsE L S2 S3 (l.map bState)=stsE L S2 S3 l
 | [] => rfl
 | x :: l => by
  simp only [List.map_cons, stsE]
  rw [show (bState x).rs=x.rs.map bRule from rfl, rusE_b, stsE_b L S2 S3 l]
theorem chkE_b (S:StratM):chkE (bStr S)=chkE S:=by
 unfold chkE
 rw [stratE_b, decE_b, show (bStr S).rs=S.rs.map bReg from rfl, regL_b, show (bStr S).ts=S.ts.map bState from rfl, stsE_b, List.map_map, show (StateM.x ∘ bState)=StateM.x from rfl]
 rfl
theorem rsW_b (d:DoM) (j:Nat):rsW (bDo d) j=rsW d j:=by
 unfold rsW pw bDo
 split <;> simp only [bare_h, wgt_b]
theorem bdy_b:∀ l:List DoM, bdy (l.map bDo)=bdy l
 | [] => rfl
 | d :: l => by simp only [List.map_cons, bdy]; rw [rsW_b, bdy_b l]
theorem actL_b:∀ l:List DoM, actL (l.map bDo)=actL l
 | [] => rfl
 | d :: l => by simp only [List.map_cons, actL]; rw [actL_b l]; rfl
theorem rB_b (r:RuleM):rB (bRule r)=rB r:=bdy_b r.ds
theorem rA_b (r:RuleM):rA (bRule r)=rA r:=actL_b r.ds
theorem rW_b (r:RuleM):rW (bRule r)=rW r:=wgt_b r.m
theorem stp_b (l:List RuleM):stp (l.map bRule)=stp l:=by
 unfold stp
 simp only [List.map_map]
 rw [show (rB ∘ bRule)=rB from funext rB_b, show (rW ∘ bRule)=rW from funext rW_b]
theorem costS_b (x:StateM):costS (bState x)=costS x:=by
 unfold costS
 rw [show (bState x).rs=x.rs.map bRule from rfl, stp_b, List.map_map, show (rA ∘ bRule)=rA from funext rA_b]
 cases x.rs <;> rfl
theorem coT_b (S:StratM):coT (bStr S)=coT S:=by
 unfold coT
 rw [show (bStr S).ts=S.ts.map bState from rfl, List.map_map, show (costS ∘ bState)=costS from funext costS_b]
def doWB (d:DoM):Bool:=[d.sd, d.qt, d.pr, d.vl].all fun m => decide (m.h.k=0) || formB m
def ruWB (r:RuleM):Bool:=formB r.m && r.ds.all doWB && decide (bdy r.ds≤9000000000000000000)
def stWB (x:StateM):Bool:=x.rs.all ruWB && decide (stp x.rs≤9000000000000000000)
def doZB (d:DoM):Bool:=[d.sd, d.qt, d.pr, d.vl].all fun m => decide (size m≤1000000000000)
def stZB (x:StateM):Bool:=x.rs.all fun r => decide (size r.m≤1000000000000) && r.ds.all doZB
def allB (S:StratM):Bool:=S.ts.all (fun x => stWB x && stZB x) && decide (S.ts.length≤1000000)
theorem doWB_b (d:DoM):doWB (bDo d)=doWB d:=by simp only [doWB, bDo, List.all_cons, List.all_nil, bare_h, formB_b]
theorem doZB_b (d:DoM):doZB (bDo d)=doZB d:=by simp only [doZB, bDo, List.all_cons, List.all_nil, size_b]
theorem ruWB_b (r:RuleM):ruWB (bRule r)=ruWB r:=by
 unfold ruWB bRule
 simp only [formB_b, bdy_b, List.all_map]
 rw [show (doWB ∘ bDo)=doWB from funext doWB_b]
theorem stWB_b (x:StateM):stWB (bState x)=stWB x:=by
 unfold stWB bState
 simp only [stp_b, List.all_map]
 rw [show (ruWB ∘ bRule)=ruWB from funext ruWB_b]
theorem stZB_b (x:StateM):stZB (bState x)=stZB x:=by
 unfold stZB bState
 simp only [List.all_map]
 congr 1
 funext r
 show (decide (size (bare r.m)≤1000000000000) && (r.ds.map bDo).all doZB)=_
 rw [size_b, List.all_map, show (doZB ∘ bDo)=doZB from funext doZB_b]
theorem allB_b (S:StratM):allB (bStr S)=allB S:=by
 unfold allB bStr
 simp only [List.all_map, List.length_map]
 rw [show ((fun x => stWB x && stZB x) ∘ bState)=(fun x => stWB x && stZB x) from funext fun x => by show (stWB (bState x) && stZB (bState x))=_; rw [stWB_b, stZB_b]]
theorem allB_w {S:StratM} (h:allB S=true):StratW S∧StratZ S:=by
 simp only [allB, Bool.and_eq_true, List.all_eq_true, decide_eq_true_eq] at h
 refine ⟨fun _ => ⟨fun x hx => ?_, h.2⟩, fun x hx r hr => ?_⟩
 ·have h1:=(h.1 x hx).1
  simp only [stWB, ruWB, Bool.and_eq_true, List.all_eq_true, decide_eq_true_eq] at h1
  refine ⟨fun r hr => ⟨(h1.1 r hr).1.1, fun d hd m hm hk => ?_, (h1.1 r hr).2⟩, h1.2⟩
  have h2:=(h1.1 r hr).1.2 d hd
  simp only [doWB, List.all_cons, List.all_nil, Bool.and_true, Bool.and_eq_true, Bool.or_eq_true, decide_eq_true_eq] at h2
  rcases hm with rfl | rfl | rfl | rfl
  ·exact h2.1.resolve_left hk
  ·exact h2.2.1.resolve_left hk
  ·exact h2.2.2.1.resolve_left hk
  ·exact h2.2.2.2.resolve_left hk
 ·have h1:=(h.1 x hx).2
  simp only [stZB, Bool.and_eq_true, List.all_eq_true, decide_eq_true_eq] at h1
  refine ⟨(h1 r hr).1, fun d hd => ?_⟩
  have h2:=(h1 r hr).2 d hd
  simp only [doZB, List.all_cons, List.all_nil, Bool.and_true, Bool.and_eq_true, decide_eq_true_eq] at h2
  exact h2
def gEnd (ts:List Tk):Except Ft Unit:=do
 let t ← gLook ts
 gNeed (decide (t.k=0)) 130 ts
def gWhole (s:ByteArray):Except Ft Tr :=
 match exprT (rdT s) with
 | .error f=>.error f
 | .ok q=>match gEnd q.2 with
  | .error f=>.error f
  | .ok _=>.ok q.1
theorem whole_err {s:ByteArray}{f:Ft}(h:dEnd (stOf (exprT (rdT s)))=.error f):gWhole s=.error f:=by
 unfold gWhole
 cases hr:exprT (rdT s) with
 | error f'=>rw [hr] at h; cases h; rfl
 | ok q =>
  obtain⟨q1,q2⟩:=q
  rw [hr] at h
  cases q2 with
  | nil=>cases h; rfl
  | cons u r =>
   simp only [stOf,nf,dEnd] at h
   by_cases c:u.k=0
   ·rw [if_pos c] at h; cases h
   ·rw [if_neg c] at h
    cases h
    simp [gEnd,gLook,bind,Except.bind,gNeed,c]
theorem whole_ok {s:ByteArray}{ts:List Tk}(h:dEnd (stOf (exprT (rdT s)))=.ok ts):∃ q,exprT (rdT s)=.ok q∧gWhole s=.ok q.1:=by
 unfold gWhole
 cases hr:exprT (rdT s) with
 | error f'=>rw [hr] at h; cases h
 | ok q =>
  obtain⟨q1,q2⟩:=q
  rw [hr] at h
  cases q2 with
  | nil=>cases h
  | cons u r =>
   simp only [stOf,nf,dEnd] at h
   by_cases c:u.k=0
   ·exact⟨_,rfl,by simp [gEnd,gLook,bind,Except.bind,gNeed,c]⟩
   ·rw [if_neg c] at h; cases h
def ftT (s:ByteArray):Ft→Int × Int × Bool
 | .tok no p=>(no,p,false)
 | .lex=>(tksE s,tksB s,true)
def OutX (s:ByteArray) (w:World) (e:Ending) (w':World):Prop :=
 (match gWhole s with
 | .ok t=>∃ m,e=.returned (.tuple #[.agg m.vals,.agg #[zI 0,zI 0,.bool false]])∧treeOf m=t∧Lies w' m∧Bkn (fun k=>w§≤k∧k < w'§) m
 | .error f=>(ftT s f).1≠0∧e=.returned (.tuple #[.agg nul8,.agg #[zI (ftT s f).1,zI (ftT s f).2.1,.bool (ftT s f).2.2]]))∧Below w§ w w'
theorem fin3f {U:World}{b:Nat}{a0 a1 a2:Value}(h:U.heap[b]?=some (.cells #[a0,a1,a2] 68 (0,0))) (v0 v1 v2:Value) :
  ∃ Y,(((U.setCell ⟨b,0,none⟩ v0).setCell ⟨b,1,none⟩ v1).setCell ⟨b,2,none⟩ v2)=Y∧Y.heap[b]?=some (.cells #[v0,v1,v2] 68 (0,0))∧Y§=U§∧(∀ k,k≠b→Y.heap[k]?=U.heap[k]?)∧(∀ (w:World) (F:Nat→Prop),Mv w U F→w§≤b→Mv w Y F):=by
 have h1:(U.setCell ⟨b,0,none⟩ v0).heap[b]?=some (.cells #[v0,a1,a2] 68 (0,0)):=Hs0 v0 h
 have h2:((U.setCell ⟨b,0,none⟩ v0).setCell ⟨b,1,none⟩ v1).heap[b]?=some (.cells #[v0,v1,a2] 68 (0,0)):=Hs0 v1 h1
 refine⟨_,rfl,Hs0 v2 h2,by simp [World.setCell],fun k hk=>?_,fun w F m hb=>((m.setCell (a:=⟨b,0,none⟩) (.inr hb) v0).setCell (a:=⟨b,1,none⟩) (.inr hb) v1).setCell (a:=⟨b,2,none⟩) (.inr hb) v2⟩
 iterate 3 (refine (Below.heap_setCell _ _ _ _ (show k≠b from hk)).trans ?_)
 rfl
structure XZ (w:World) (V:World):Prop where
 B:Below w§ w V
 z:V.heap[w§]?=some (.cells zNo 28 (0,0))
 f:V.heap[w§+1]?=some (.cells #[zI 0,zI 0,.bool false] 68 (0,0))
theorem XZ.hid {w V:World}(h:XZ w V):Hid (XZ w V):=h
theorem XZ.new (w:World):XZ w ((w.alloc (.cells zA9 28)).alloc (.cells zA17 68)):=by
 have b1:=Bn w (.cells zA9 28)
 have s1:=Sa w (.cells zA9 28)
 have n1:=Hn w (.cells zA9 28)
 have b2:=Bn (w.alloc (.cells zA9 28)) (.cells zA17 68)
 have n2:=Hn (w.alloc (.cells zA9 28)) (.cells zA17 68)
 rw [s1] at n2
 exact⟨below2 b1 b2,(b2.block _ (by omega)).trans n1,n2⟩
theorem XZ.mv {w V V':World}(h:XZ w V) {F:Nat→Prop}(m:Mv V V' F) (hF:∀ k,F k→w§+1 < k):XZ w V':=by
 have hz:=(Array.getElem?_eq_some_iff.1 h.z).1
 have hf:=(Array.getElem?_eq_some_iff.1 h.f).1
 have hs:=h.B.size
 refine⟨?_,(m.block _ hz (fun e=>by have:=hF _ e; omega)).trans h.z,(m.block _ hf (fun e=>by have:=hF _ e; omega)).trans h.f⟩
 have m1:Mv w V (fun k=>w§+1 < k):=Mv.ofBelow h.B
 exact (m1.trans m (fun k e=>.inl (hF k e))).below (Nat.le_refl _) (fun k e=>by omega)
theorem XZ.on {w V V':World}(h:XZ w V) (k:Below V§ V V'):XZ w V':=h.mv (F:=fun _=>False) (Mv.ofBelow k) (fun _ e=>e.elim)
theorem exprX (s:ByteArray) (t0:Tr) (hgw:gWhole s=.ok t0) (w:World):Calls zG 28 #[.string s] w (OutX s w):=by
 have HGW:Hid (gWhole s=.ok t0):=hgw
 clear hgw
 have HX:=(XZ.new w).hid
 obtain⟨W0,eW0⟩:∃ W,(w.alloc (.cells zA9 28)).alloc (.cells zA17 68)=W:=⟨_,rfl⟩
 rw [eW0] at HX
 have cB:=begin_d s W0
 go_enter Tryz.func28,Tryz.ntmps28
 go_wp2_with fail
 try rw [eW0]
 refine cB.mono ?_
 rintro e w1 ⟨b,K,rfl,hb,hs,hK,hgd,hT,hE,hB⟩
 have HX1:=(HX.out.on hB).hid
 have hz0:=(Array.getElem?_eq_some_iff.1 HX.out.f).1
 have HB1:Hid (w§+1 < b):=by show _ < _; omega
 have HBL:Hid (b < w1§):=hs.lw.1
 have HK:Hid (KOk K):=hK
 have HT:Hid (K.T=rdT s):=hT
 have HE:=zH hE
 have cE:=expr0_d hK w1 (nf (rdT s)) hs
 rw [rd_nf exprT_nil] at cE
 clear cB hb hs hK hgd hT hE hB hz0 HX eW0
 go_wp2_with fail
 refine cE.mono ?_
 rintro e w2 ⟨⟨⟨k2,o2,ty2,n2,f2,x2,p2⟩,am2,cm2,ks2⟩,rfl,hl,hk,hs,hm,ht⟩
 simp only [Nd.vals,Nd.h,Nd.a,Nd.c,Nd.ks,hdA]
 have HX2:=((HX1.out.mv hm (fun k e=>by rw [e]; exact HB1.out)).on (Bn w2 (.cells (zN k2 o2 ty2 n2 f2 x2 am2 ks2 cm2 p2) 28))).hid
 have hn:=Bn w2 (.cells (zN k2 o2 ty2 n2 f2 x2 am2 ks2 cm2 p2) 28)
 have hN:=Hn w2 (.cells (zN k2 o2 ty2 n2 f2 x2 am2 ks2 cm2 p2) 28)
 have HL2:=(hl.on hn).hid
 have hs2:=hs.on hn
 have hz1:=(Array.getElem?_eq_some_iff.1 HX1.out.f).1
 have HQ:Hid (w1§≤w2§∧w§+1 < w1§∧b < w1§):=⟨hm.size,hz1,HBL.out⟩
 have HK2:=zH hk
 have HT2:=zH ht
 have HN2:=zH hN
 have cF:=end_s hs2
 have hsz:=Sa w2 (.cells (zN k2 o2 ty2 n2 f2 x2 am2 ks2 cm2 p2) 28)
 have HSZ:=zH hsz
 clear cE hl hk hs hm ht hN hn hs2 hz1 HX1 hsz
 obtain⟨s2,es2⟩:∃ q,dEnd (stOf (exprT (rdT s)))=q:=⟨_,rfl⟩
 have HS2:=zH es2
 rw [es2] at cF
 clear es2
 go_wp2_with fail
 refine cF.mono ?_
 rintro e w3 ⟨rfl,hs,hm⟩
 have HX3:=(HX2.out.mv hm (fun k e=>by rw [e]; exact HB1.out)).hid
 have hN3:w3.heap[w2§]?=some (.cells (zN k2 o2 ty2 n2 f2 x2 am2 ks2 cm2 p2) 28 (0,0)):=(hm.block _ (by have:=HSZ.out; omega) (by have:=HQ.out; omega)).trans HN2.out
 have HL3:=zH (HL2.out.bkn HK2.out fun j hj=>hm.block j (by have:=HSZ.out; omega) (by have:=HQ.out; omega))
 have HZ3:Hid (w2§+1≤w3§):=by have:=hm.size; have:=HSZ.out; show _≤_; omega
 clear cF hm HX2 HL2 HN2
 cases s2 with
 | ok ts =>
  obtain⟨q,e1,e2⟩:=whole_ok HS2.out
  have HW:Hid (gWhole s=.ok q.1):=e2
  have HTR:=zH (HT2.out q e1)
  obtain⟨i,p,u,hp,_⟩:Lv w3 b K ts:=hs
  have cO:=over_no hp
  clear hp e1 e2
  go_upto_region 4 with fail
  go_wp2_with fail
  refine cO.mono ?_
  rintro e w4 ⟨rfl,e9⟩
  obtain rfl:=e9.symm
  clear cO e9
  have x0':w3.cell? ⟨w2§,0,none⟩=some (zU k2):=Co hN3 0
  have z0:w3.cell? ⟨w§,0,none⟩=some (zU 0):=Co HX3.out.z 0
  have q0:=Fo HX3.out.z 0
  have x1':w3.cell? ⟨w2§,1,none⟩=some (zU o2):=Co hN3 1
  have z1:w3.cell? ⟨w§,1,none⟩=some (zU 0):=Co HX3.out.z 1
  have q1:=Fo HX3.out.z 1
  have x2':w3.cell? ⟨w2§,2,none⟩=some (zU ty2):=Co hN3 2
  have z2:w3.cell? ⟨w§,2,none⟩=some (zU 0):=Co HX3.out.z 2
  have q2:=Fo HX3.out.z 2
  have x3':w3.cell? ⟨w2§,3,none⟩=some (zI n2):=Co hN3 3
  have z3:w3.cell? ⟨w§,3,none⟩=some (zI 0):=Co HX3.out.z 3
  have q3:=Fo HX3.out.z 3
  have x4':w3.cell? ⟨w2§,4,none⟩=some (zU f2):=Co hN3 4
  have z4:w3.cell? ⟨w§,4,none⟩=some (zU 0):=Co HX3.out.z 4
  have q4:=Fo HX3.out.z 4
  have x5':w3.cell? ⟨w2§,5,none⟩=some (.string x2):=Co hN3 5
  have z5:w3.cell? ⟨w§,5,none⟩=some (.string ⟨#[]⟩):=Co HX3.out.z 5
  have q5:=Fo HX3.out.z 5
  have x6':w3.cell? ⟨w2§,6,none⟩=some (.slice am2 ks2.length cm2):=Co hN3 6
  have z6:w3.cell? ⟨w§,6,none⟩=some (.slice none 0 0):=Co HX3.out.z 6
  have q6:=Fo HX3.out.z 6
  have x7':w3.cell? ⟨w2§,7,none⟩=some (zI p2):=Co hN3 7
  have z7:w3.cell? ⟨w§,7,none⟩=some (zI 0):=Co HX3.out.z 7
  have q7:=Fo HX3.out.z 7
  obtain⟨Y,eY,hY1,hY2,hY3,hY4⟩:=fin8 HX3.out.z (zU k2) (zU o2) (zU ty2) (zI n2) (zU f2) (.string x2) (.slice am2 ks2.length cm2) (zI p2)
  have hYf:Y.heap[w§+1]?=some (.cells zA17 68 (0,0)):=(hY3 _ (by omega)).trans HX3.out.f
  obtain⟨U,eU,hU1,hU2,hU3,hU4⟩:=fin3f hYf (zI 0) (zI 0) (.bool false)
  have HEY:=zH eY
  have HEU:=zH eU
  obtain⟨fg0,fg1,fg2⟩:=cl3 HX3.out.f
  obtain⟨fk0,fk1,fk2⟩:=fz3 HX3.out.f
  have HF:Hid (U.heap[w§]?=some (.cells (Nd.mk ⟨k2,o2,ty2,n2,f2,x2,p2⟩ am2 cm2 ks2).vals 28 (0,0))∧U.heap[w§+1]?=some (.cells zA17 68 (0,0))∧Lies U (Nd.mk ⟨k2,o2,ty2,n2,f2,x2,p2⟩ am2 cm2 ks2)∧Bkn (fun k=>w§≤k∧k < U§) (Nd.mk ⟨k2,o2,ty2,n2,f2,x2,p2⟩ am2 cm2 ks2)∧Below w§ w U):=by
   have hq:=HQ.out
   have hz:=HZ3.out
   refine⟨(hU3 _ (by omega)).trans hY1,hU1,HL3.out.bkn HK2.out fun j hj=>(hU3 j (by omega)).trans (hY3 j (by omega)),HK2.out.mono fun j hj=>⟨by omega,by omega⟩,?_⟩
   exact (hU4 w (fun _=>False) (hY4 w (fun _=>False) (Mv.ofBelow HX3.out.B) (Nat.le_refl _)) (by omega)).below (Nat.le_refl _) (fun _ e=>e.elim)
  clear hN3 eY eU hY1 hY2 hY3 hY4 hU1 hU2 hU3 hU4 hYf
  go_wp2_with fail
  rw [HEY.out,HEU.out]
  refine bodyPost_ret (results_cc rfl _ _ w§ (w§+1) 28 68 (Nd.mk ⟨k2,o2,ty2,n2,f2,x2,p2⟩ am2 cm2 ks2).vals zA17 (0,0) (0,0) _ _ rfl HF.out.1 Tryz.underlying28 rfl zK rfl HF.out.2.1 Tryz.underlying68 rfl zK) rfl ⟨?_,HF.out.2.2.2.2⟩
  rw [HW.out]
  exact⟨_,rfl,HTR.out,HF.out.2.2.1,HF.out.2.2.2.1⟩
 | error f =>
  have HW:Hid (gWhole s=.error f):=whole_err HS2.out
  exact absurd (HGW.out.symm.trans HW.out) (fun h=>by cases h)
def txE:ByteArray:=⟨#[100, 111, 110, 101, 32, 63, 32, 98, 105, 100, 32, 58, 32, 98, 105, 100, 32, 43, 32, 49, 112]⟩
def txS:ByteArray:=⟨#[115, 116, 114, 97, 116, 101, 103, 121, 32, 115, 32, 123, 32, 114, 101, 103, 32, 110, 32, 105, 110, 116, 32, 61, 32, 48, 59, 32, 115, 108, 111, 116, 32, 111, 59, 32, 115, 116, 97, 116, 101, 32, 97, 32, 123, 32, 119, 104, 101, 110, 32, 104, 97, 115, 32, 98, 105, 100, 32, 100, 111, 32, 115, 117, 98, 109, 105, 116, 32, 98, 117, 121, 32, 111, 102, 32, 50, 113, 32, 97, 116, 32, 98, 105, 100, 32, 43, 32, 49, 112, 32, 108, 105, 109, 105, 116, 44, 32, 104, 97, 108, 116, 59, 32, 119, 104, 101, 110, 32, 110, 111, 119, 32, 62, 32, 53, 116, 32, 100, 111, 32, 115, 101, 116, 32, 110, 32, 61, 32, 110, 32, 43, 32, 49, 44, 32, 99, 97, 110, 99, 101, 108, 32, 111, 44, 32, 99, 97, 110, 99, 101, 108, 32, 111, 59, 32, 125, 32, 115, 116, 97, 116, 101, 32, 98, 32, 123, 125, 32, 125]⟩
def tE:Tr:=match gWhole txE with
 | .ok t => t
 | .error _ => tr0
def sS:StratT:=(pWhole txS).getD ⟨txE, [], [], []⟩
set_option maxRecDepth 1000000
theorem gE1:gWhole txE=.ok tE:=by kernel_rfl
theorem pS1:pWhole txS=some sS:=by kernel_rfl
theorem exE:exW (ndT tE)=6:=by kernel_rfl
theorem szE:size (ndT tE)=6:=by kernel_rfl
theorem chS:chkE (sT sS)=none:=by kernel_rfl
theorem alS:allB (sT sS)=true:=by kernel_rfl
theorem lnS:(sT sS).ts.length=2:=by kernel_rfl
theorem g1S:gmx (fun p => p.1) (coT (sT sS)) 2=9:=by kernel_rfl
theorem g2S:gmx (fun p => p.2) (coT (sT sS)) 2=2:=by kernel_rfl
theorem c1S:coT (sT sS) 1=(0, 0):=by kernel_rfl
def s0:StratM:=⟨⟨#[]⟩, none, 0, [], none, 0, [], none, 0, []⟩
theorem ch0:chkE s0=some (0, 120):=by kernel_rfl
theorem ex0:exW nd0T=0:=by kernel_rfl
theorem sz0:size nd0T=1:=by kernel_rfl
end Go.Proofs.YtjimaceccllnlaaGreatDoor
