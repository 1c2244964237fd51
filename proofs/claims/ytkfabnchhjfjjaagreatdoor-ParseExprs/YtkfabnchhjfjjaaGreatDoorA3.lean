import Derived.Test.YtkfabnchhjfjjaaGreatDoorA0
import Derived.Test.YtkfabnchhjfjjaaGreatDoorA1
import Derived.WalkMore
import Derived.Test.YtkfabnchhjfjjaaGreatDoorA2
import Derived.Deep.RegionHeld3
import Derived.Deep.QuietTactic
import Derived.BigQuiet
import Derived.Below
import Derived.WalkKit
import Derived.ProofKit
import Derived.OwnWalk
import Derived.WalkSmall
import Derived.Outline
import Derived.Deep.AppendLies
import Derived.Deep.RegionLaw
namespace Go.Proofs.YtkfabnchhjfjjaaGreatDoor
open Go.RowKit
set_option maxRecDepth 100000 in
set_option maxHeartbeats 8000000 in
theorem start_any (s : ByteArray) (a : Nat) (hs : s.size ≤ 140737488355328) (ha : a ≤ s.size) (d : Nat) (hd : Hid (d = a + ov (rest s a) false)) (w : World) :
  Calls zG 142 #[.string s,zI a] w fun e w' => e = .returned (zI d) ∧ w' = w := by
 go_enter Tryz.func142,Tryz.ntmps142
 go_wp2_with fail
 go_step3
 go_wp2_with fail
 go_step3
 go_wp2_with fail
 go_loop [1,5] (fun t r => ∃ (i : Nat) (b : Bool),a ≤ i ∧ i ≤ s.size ∧ t = zI i ∧ r = .bool b ∧ Hid (d = i + ov (rest s i) b)) (fun t _ => s.size - (intOf t).toNat)
 case atStart => exact ⟨a,false,Nat.le_refl _,ha,rfl,rfl,hd⟩
 case round =>
  obtain ⟨i,b,hi1,hi2,rfl,rfl,HR⟩ := hrel
  clear hd
  by_cases hlt : i < s.size
  ·have hlt' : (i : Int) < (s.size : Int) := by omega
   have hr := rest_at s i hlt
   obtain ⟨c,hc⟩ : ∃ c,s[i] = c := ⟨_,rfl⟩
   rw [hc] at hr
   have hcl := byte_lt c
   have hq : Hid (rest s i = c :: rest s (i + 1)) := hr
   clear hr
   by_cases k10 : c.toNat = 10
   ·have x10 : ((c.toNat : Int) == 10) = true := by rw [k10]; rfl
    have hs2 : Hid (d = (i + 1) + ov (rest s (i + 1)) false) := by
     show _ = _
     have e : remB b c = false := by unfold remB; rw [if_neg (by omega),if_pos k10]
     have e2 : blankB c = true := by unfold blankB; simp [k10]
     rw [HR.out,hq.out,ov_go (by rw [e2]; simp),e]; omega
    go_wp2_with fail
    exact ⟨⟨i + 1,false,by omega,by omega,by go_num,rfl,hs2⟩,by simp only [intOf]; omega⟩
   ·have x10 : ((c.toNat : Int) == 10) = false := beq_false_of_ne (by omega)
    by_cases kb : c.toNat = 32 ∨ c.toNat = 9 ∨ c.toNat = 13
    ·have e : remB b c = b := by unfold remB; rw [if_neg (by omega),if_neg (by omega)]
     have e2 : blankB c = true := by unfold blankB; simp; omega
     have hs2 : Hid (d = (i + 1) + ov (rest s (i + 1)) b) := by
      show _ = _
      rw [HR.out,hq.out,ov_go (by rw [e2]; simp),e]; omega
     clear e e2
     rcases kb with h | h | h
     ·have x32 : ((c.toNat : Int) == 32) = true := by rw [h]; rfl
      go_wp2_with fail
      exact ⟨⟨i + 1,b,by omega,by omega,by go_num,rfl,hs2⟩,by simp only [intOf]; omega⟩
     ·have x32 : ((c.toNat : Int) == 32) = false := beq_false_of_ne (by omega)
      have x9 : ((c.toNat : Int) == 9) = true := by rw [h]; rfl
      go_wp2_with fail
      exact ⟨⟨i + 1,b,by omega,by omega,by go_num,rfl,hs2⟩,by simp only [intOf]; omega⟩
     ·have x32 : ((c.toNat : Int) == 32) = false := beq_false_of_ne (by omega)
      have x9 : ((c.toNat : Int) == 9) = false := beq_false_of_ne (by omega)
      have x13 : ((c.toNat : Int) == 13) = true := by rw [h]; rfl
      go_wp2_with fail
      exact ⟨⟨i + 1,b,by omega,by omega,by go_num,rfl,hs2⟩,by simp only [intOf]; omega⟩
    ·have x32 : ((c.toNat : Int) == 32) = false := beq_false_of_ne (by omega)
     have x9 : ((c.toNat : Int) == 9) = false := beq_false_of_ne (by omega)
     have x13 : ((c.toNat : Int) == 13) = false := beq_false_of_ne (by omega)
     have e2 : blankB c = false := by unfold blankB; simp; omega
     by_cases k35 : c.toNat = 35
     ·have x35 : ((c.toNat : Int) == 35) = true := by rw [k35]; rfl
      have e : remB b c = true := by unfold remB; rw [if_pos k35]
      have hs2 : Hid (d = (i + 1) + ov (rest s (i + 1)) true) := by
       show _ = _
       rw [HR.out,hq.out,ov_go (by rw [e]; simp),e]; omega
      clear e e2
      go_wp2_with fail
      exact ⟨⟨i + 1,true,by omega,by omega,by go_num,rfl,hs2⟩,by simp only [intOf]; omega⟩
     ·have x35 : ((c.toNat : Int) == 35) = false := beq_false_of_ne (by omega)
      have e : remB b c = b := by unfold remB; rw [if_neg k35,if_neg k10]
      cases b
      ·have hs2 : Hid (i = d) := by show _ = _; rw [HR.out,hq.out,ov_stop e e2]; omega
       clear e e2
       go_wp2_with fail
       go_ret
       exact ⟨retI (by rw [hs2.out]),rfl⟩
      ·have hs2 : Hid (d = (i + 1) + ov (rest s (i + 1)) true) := by
        show _ = _
        rw [HR.out,hq.out,ov_go (by rw [e]; simp),e]; omega
       clear e e2
       go_wp2_with fail
       exact ⟨⟨i + 1,true,by omega,by omega,by go_num,rfl,hs2⟩,by simp only [intOf]; omega⟩
  ·have hn : ¬ (i : Int) < (s.size : Int) := by omega
   have hs2 : Hid (i = d) := by show _ = _; rw [HR.out,rest_end s i (by omega)]; rfl
   go_wp2_with fail
   go_ret
   exact ⟨retI (by rw [hs2.out]),rfl⟩
def fsT (s : ByteArray) (f : Nat) : Tk := if oneE s f = 0 then oneT s f else tkP (oneP s f)
def fsV (s : ByteArray) (f : Nat) : Value := .tuple #[.agg (tkA (fsT s f)),zI (oneE s f)]
set_option maxRecDepth 100000 in
set_option maxHeartbeats 2000000 in
theorem first_any (s : ByteArray) (f : Nat) (hs : s.size ≤ 140737488355328) (hf : f ≤ s.size) (w : World) (ht : Tab w) :
  Calls zG 124 #[.string s,zI f] w fun e w' => e = .returned (fsV s f) ∧ Below w§ w w' := by
 obtain ⟨d,hd⟩ : ∃ d,oneP s f = d := ⟨_,rfl⟩
 have hdl : d ≤ s.size := by rw [← hd]; exact oneP_le s f hf
 have cS := start_any s f hs hf d hd.symm
 obtain ⟨W,eW,HR,HB,hz⟩ := box_one w
 obtain ⟨r0,r1,r2,r3,r4⟩ := HR.out.cells
 obtain ⟨f0,f1,f2,f3,f4⟩ := HR.out.froz
 by_cases h0 : d = s.size
 ·have K : Hid (fsV s f = .tuple #[.agg (tkA (tkP d)),zI 0]) := by
   show _ = _
   have e0 : oneE s f = 0 := by unfold oneE; rw [hd,if_pos h0]
   unfold fsV fsT
   rw [e0,if_pos rfl]
   unfold oneT
   rw [hd,if_pos h0]; rfl
  have h0' : ((d : Int) == (s.size : Int)) = true := by rw [h0]; simp
  clear hd h0
  go_enter Tryz.func124,Tryz.ntmps124
  go_wp2_with (go_at_call 142; refine (cS _).mono ?_; rintro _ v ⟨rfl,q⟩; obtain rfl := q.symm)
  exact bodyPost_ret (results_two (p := 4) (u := 5) (ty := 82) rfl _ _ w§ 82 (tkA (tkP d)) (0,0) _ rfl (HR.out.put (tkP d)) Tryz.underlying82 rfl zK) rfl ⟨by rw [K.out]; rfl,below_put HB.out (Nat.le_refl _) _ _ _ _ _⟩
 ·have h0' : ((d : Int) == (s.size : Int)) = false := beq_false_of_ne (by omega)
  have hlt : d < s.size := by omega
  have hlt' : (d : Int) < (s.size : Int) := by omega
  obtain ⟨c,hc⟩ : ∃ c,s[d] = c := ⟨_,rfl⟩
  have hl := hd_at hlt hc letB
  have hg := hd_at hlt hc digB
  have hTW := ht.on HB.out
  cases b1 : letB c
  ·cases b2 : digB c
   ·have K : Hid (fsV s f = .tuple #[.agg (tkA (pmT s d)),zI (mkE s d)]) := by
     show _ = _
     have e0 : oneE s f = mkE s d := by unfold oneE; rw [hd,if_neg h0,hl,b1,if_neg (by decide),hg,b2,if_neg (by decide)]
     have e1 : oneT s f = mkT s d := by unfold oneT; rw [hd,if_neg h0,hl,b1,if_neg (by decide),hg,b2,if_neg (by decide)]
     unfold fsV fsT pmT
     rw [e0,e1,hd]
    have cM := markp_any s d hs hlt W
    obtain ⟨T,eT⟩ : ∃ T,pmT s d = T := ⟨_,rfl⟩
    obtain ⟨E,eE⟩ : ∃ E,mkE s d = E := ⟨_,rfl⟩
    rw [eT,eE] at cM K
    unfold tkA at cM
    clear hd h0 hl hg eT eE r0 r1 r2 r3 r4 f0 f1 f2 f3 f4
    go_enter Tryz.func124,Tryz.ntmps124
    go_wp2_with (first | (go_at_call 142; refine (cS _).mono ?_; rintro _ v ⟨rfl,q⟩; obtain rfl := q.symm) | (go_at_call 143; refine (isLetter_b b1 _).mono ?_; rintro _ v ⟨rfl,q⟩; obtain rfl := q.symm) | (go_at_call 145; refine (isDigit_b b2 _).mono ?_; rintro _ v ⟨rfl,q⟩; obtain rfl := q.symm))
    refine cM.mono ?_
    rintro _ v ⟨rfl,bb⟩
    have HR2 := (HR.out.onto bb).hid
    have HB2 : Hid (Below w§ w v) := HB.out.trans (bb.mono HB.out.size)
    obtain ⟨r0,r1,r2,r3,r4⟩ := HR2.out.cells
    obtain ⟨f0,f1,f2,f3,f4⟩ := HR2.out.froz
    clear bb
    go_wp2_with fail
    exact bodyPost_ret (results_two (p := 4) (u := 5) (ty := 82) rfl _ _ w§ 82 (tkA T) (0,0) _ rfl (HR2.out.put T) Tryz.underlying82 rfl zK) rfl ⟨by rw [K.out]; rfl,below_put HB2.out (Nat.le_refl _) _ _ _ _ _⟩
   ·have K : Hid (fsV s f = .tuple #[.agg (tkA (pbT s d)),zI (nbE s d)]) := by
     show _ = _
     have e0 : oneE s f = nbE s d := by unfold oneE; rw [hd,if_neg h0,hl,b1,if_neg (by decide),hg,b2,if_pos rfl]
     have e1 : oneT s f = nbT s d := by unfold oneT; rw [hd,if_neg h0,hl,b1,if_neg (by decide),hg,b2,if_pos rfl]
     unfold fsV fsT pbT
     rw [e0,e1,hd]
    have cM := numberp_any s d hs hlt (by rw [hg,b2]) W
    obtain ⟨T,eT⟩ : ∃ T,pbT s d = T := ⟨_,rfl⟩
    obtain ⟨E,eE⟩ : ∃ E,nbE s d = E := ⟨_,rfl⟩
    rw [eT,eE] at cM K
    unfold tkA at cM
    clear hd h0 hl hg eT eE r0 r1 r2 r3 r4 f0 f1 f2 f3 f4
    go_enter Tryz.func124,Tryz.ntmps124
    go_wp2_with (first | (go_at_call 142; refine (cS _).mono ?_; rintro _ v ⟨rfl,q⟩; obtain rfl := q.symm) | (go_at_call 143; refine (isLetter_b b1 _).mono ?_; rintro _ v ⟨rfl,q⟩; obtain rfl := q.symm) | (go_at_call 145; refine (isDigit_b b2 _).mono ?_; rintro _ v ⟨rfl,q⟩; obtain rfl := q.symm))
    refine cM.mono ?_
    rintro _ v ⟨rfl,bb⟩
    have HR2 := (HR.out.onto bb).hid
    have HB2 : Hid (Below w§ w v) := HB.out.trans (bb.mono HB.out.size)
    obtain ⟨r0,r1,r2,r3,r4⟩ := HR2.out.cells
    obtain ⟨f0,f1,f2,f3,f4⟩ := HR2.out.froz
    clear bb
    go_wp2_with fail
    exact bodyPost_ret (results_two (p := 4) (u := 5) (ty := 82) rfl _ _ w§ 82 (tkA T) (0,0) _ rfl (HR2.out.put T) Tryz.underlying82 rfl zK) rfl ⟨by rw [K.out]; rfl,below_put HB2.out (Nat.le_refl _) _ _ _ _ _⟩
  ·have K : Hid (fsV s f = .tuple #[.agg (tkA (pnT s d)),zI (nmE s d)]) := by
    show _ = _
    have e0 : oneE s f = nmE s d := by unfold oneE; rw [hd,if_neg h0,hl,b1,if_pos rfl]
    have e1 : oneT s f = nmT s d := by unfold oneT; rw [hd,if_neg h0,hl,b1,if_pos rfl]
    unfold fsV fsT pnT
    rw [e0,e1,hd]
   have cM := wordp_any s d hs hdl W hTW
   obtain ⟨T,eT⟩ : ∃ T,pnT s d = T := ⟨_,rfl⟩
   obtain ⟨E,eE⟩ : ∃ E,nmE s d = E := ⟨_,rfl⟩
   rw [eT,eE] at cM K
   unfold tkA at cM
   clear hd h0 hl hg eT eE r0 r1 r2 r3 r4 f0 f1 f2 f3 f4
   go_enter Tryz.func124,Tryz.ntmps124
   go_wp2_with (first | (go_at_call 142; refine (cS _).mono ?_; rintro _ v ⟨rfl,q⟩; obtain rfl := q.symm) | (go_at_call 143; refine (isLetter_b b1 _).mono ?_; rintro _ v ⟨rfl,q⟩; obtain rfl := q.symm))
   refine cM.mono ?_
   rintro _ v ⟨rfl,bb⟩
   have HR2 := (HR.out.onto bb).hid
   have HB2 : Hid (Below w§ w v) := HB.out.trans (bb.mono HB.out.size)
   obtain ⟨r0,r1,r2,r3,r4⟩ := HR2.out.cells
   obtain ⟨f0,f1,f2,f3,f4⟩ := HR2.out.froz
   clear bb
   go_wp2_with fail
   exact bodyPost_ret (results_two (p := 4) (u := 5) (ty := 82) rfl _ _ w§ 82 (tkA T) (0,0) _ rfl (HR2.out.put T) Tryz.underlying82 rfl zK) rfl ⟨by rw [K.out]; rfl,below_put HB2.out (Nat.le_refl _) _ _ _ _ _⟩
def nxE (s : ByteArray) (a : Int) : Int := if s.size > 4096 then 110 else if a < 0 ∨ a > s.size then 1 else oneE s a.toNat
def nxT (s : ByteArray) (a : Int) : Tk := if nxE s a = 0 then oneT s a.toNat else tk0
def nxQ (s : ByteArray) (a : Int) : Int := if nxE s a = 0 then (nxT s a).p + (nxT s a).x.size else 0
def nxV (s : ByteArray) (a : Int) : Value := .tuple #[.agg (tkA (nxT s a)),zI (nxQ s a),zI (nxE s a)]
theorem nx_bad {s : ByteArray} {a e : Int} (h : nxE s a = e) (he : e ≠ 0) : nxV s a = .tuple #[.agg (tkA tk0),zI 0,zI e] := by
 unfold nxV nxQ nxT
 rw [h,if_neg he,if_neg he]
theorem nx_ok {s : ByteArray} {a : Int} {T : Tk} (h : nxE s a = 0) (hT : oneT s a.toNat = T) : nxV s a = .tuple #[.agg (tkA T),zI (T.p + T.x.size),zI 0] := by
 unfold nxV nxQ nxT
 rw [h,if_pos rfl,hT,if_pos rfl]
def GBx (X v : World) : Prop := Below X§ X v
theorem GBx.refl (X : World) : GBx X X := Below.refl _ X
theorem GBx.drew {X v : World} (h : GBx X v) : GBx X v.drew := Below.drew h
theorem GBx.alloc {X v : World} (h : GBx X v) (o : Obj) : GBx X (v.alloc o) := Below.alloc h h.size o
theorem GBx.call {X u v : World} (k : Below u§ u v) (h : GBx X u) : GBx X v := Below.trans h (k.mono h.size)
structure GT (w : World) (b : Nat) (V v : World) : Prop where
 below : Below w§ w v
 size : V§ ≤ v§
 tok : v.heap[b]? = V.heap[b]?
theorem GT.refl {w V : World} (b : Nat) (h : Below w§ w V) : GT w b V V := ⟨h,Nat.le_refl _,rfl⟩
theorem GT.drew {w V v : World} {b : Nat} (h : GT w b V v) : GT w b V v.drew := ⟨h.below.drew,h.size,h.tok⟩
theorem GT.call {w V u v : World} {b : Nat} {T : Tk} (hT : TkH V b T) (k : Below u§ u v) (h : GT w b V u) : GT w b V v :=
 ⟨h.below.trans (k.mono h.below.size),Nat.le_trans h.size k.size,(k.block b (Nat.lt_of_lt_of_le hT.lt h.size)).trans h.tok⟩
theorem GT.set {w V v : World} {b j : Nat} {x : Value} (hb : b ≠ w§) (h : GT w b V v) : GT w b V (v.setCell ⟨w§,j,none⟩ x) :=
 ⟨h.below.setCell (p := ⟨w§,j,none⟩) (Nat.le_refl _) x,by simpa using h.size,(Below.heap_setCell _ _ _ _ (by simpa using hb)).trans h.tok⟩
theorem TkH.keep {w V v : World} {b : Nat} {t : Tk} (h : TkH V b t) (k : GT w b V v) : v.cell? ⟨b,0,none⟩ = some (zU t.k) ∧ v.cell? ⟨b,1,none⟩ = some (.string t.x) ∧ v.cell? ⟨b,2,none⟩ = some (zU t.ty) ∧ v.cell? ⟨b,3,none⟩ = some (zI t.n) ∧ v.cell? ⟨b,4,none⟩ = some (zI t.p) ∧ GT w b V v := by
 have h2 : TkH v b t := k.tok.trans h
 obtain ⟨a0,a1,a2,a3,a4⟩ := h2.cells
 exact ⟨a0,a1,a2,a3,a4,k⟩
set_option maxRecDepth 100000 in
set_option maxHeartbeats 2000000 in
theorem behind_any (T : Tk) (w : World) (h1 : -9223372036854775808 ≤ T.p + (T.x.size : Int)) (h2 : T.p + (T.x.size : Int) ≤ 9223372036854775807) :
  Calls zG 125 #[.agg (tkA T)] w fun e w' => e = .returned (zI (T.p + (T.x.size : Int))) ∧ Below w§ w w' := by
 unfold tkA
 go_enter Tryz.func125,Tryz.ntmps125
 go_wp2_with fail
 go_ret
 exact ⟨rfl,below_new w _⟩
set_option maxRecDepth 100000 in
set_option maxHeartbeats 2000000 in
theorem nextp_long (s : ByteArray) (a : Int) (h : s.size > 4096) (w : World) :
  Calls zG 128 #[.string s,zI a] w fun e w' => e = .returned (nxV s a) ∧ Below w§ w w' := by
 have hE : nxE s a = 110 := by unfold nxE; rw [if_pos h]
 have K : Hid (nxV s a = .tuple #[.agg (tkA tk0),zI 0,zI 110]) := nx_bad hE (by decide)
 have h' : (s.size : Int) > 4096 := by omega
 clear hE
 go_enter Tryz.func128,Tryz.ntmps128
 go_wp2
 exact bodyPost_ret (results_three (p := 4) (u := 5) (v := 6) (ty := 82) rfl _ _ w§ 82 (tkA tk0) (0,0) _ rfl (heap_new w _) Tryz.underlying82 rfl zK) rfl ⟨by rw [K.out]; rfl,below_new w _⟩
set_option maxRecDepth 100000 in
set_option maxHeartbeats 2000000 in
theorem nextp_out (s : ByteArray) (a : Int) (h : ¬ s.size > 4096) (ha : a < 0 ∨ a > s.size) (w : World) :
  Calls zG 128 #[.string s,zI a] w fun e w' => e = .returned (nxV s a) ∧ Below w§ w w' := by
 have hE : nxE s a = 1 := by unfold nxE; rw [if_neg h,if_pos ha]
 have K : Hid (nxV s a = .tuple #[.agg (tkA tk0),zI 0,zI 1]) := nx_bad hE (by decide)
 have h' : ¬ (s.size : Int) > 4096 := by omega
 clear hE
 go_enter Tryz.func128,Tryz.ntmps128
 by_cases h0 : a < 0
 ·go_wp2
  exact bodyPost_ret (results_three (p := 4) (u := 5) (v := 6) (ty := 82) rfl _ _ w§ 82 (tkA tk0) (0,0) _ rfl (heap_new w _) Tryz.underlying82 rfl zK) rfl ⟨by rw [K.out]; rfl,below_new w _⟩
 ·have h1 : a > (s.size : Int) := by omega
  go_wp2
  exact bodyPost_ret (results_three (p := 4) (u := 5) (v := 6) (ty := 82) rfl _ _ w§ 82 (tkA tk0) (0,0) _ rfl (heap_new w _) Tryz.underlying82 rfl zK) rfl ⟨by rw [K.out]; rfl,below_new w _⟩
set_option maxRecDepth 100000 in
set_option maxHeartbeats 2000000 in
theorem nextp_in (s : ByteArray) (f : Nat) (h : ¬ s.size > 4096) (hf : f ≤ s.size) (w : World) (ht : Tab w) :
  Calls zG 128 #[.string s,zI f] w fun e w' => e = .returned (nxV s f) ∧ Below w§ w w' := by
 have hE : nxE s f = oneE s f := by unfold nxE; rw [if_neg h,if_neg (by omega)]; rfl
 have h' : ¬ (s.size : Int) > 4096 := by omega
 have h0 : ¬ (f : Int) < 0 := by omega
 have h1 : ¬ (f : Int) > (s.size : Int) := by omega
 have hfin := one_fine s f hf
 obtain ⟨W,eW,HR,HB,hz⟩ := box_one w
 have cF := first_any s f (by omega) hf W (ht.on HB.out)
 unfold fsV fsT at cF
 obtain ⟨E,eE⟩ : ∃ E,oneE s f = E := ⟨_,rfl⟩
 rw [eE] at cF hfin hE
 have hP := oneP_le s f hf
 have KX : Hid (nxE s f = E) := hE
 by_cases hE0 : E = 0
 ·obtain ⟨T,eT⟩ : ∃ T,oneT s f = T := ⟨_,rfl⟩
  obtain ⟨q0,q1,q2,_⟩ := hfin hE0
  rw [if_pos hE0,eT] at cF
  rw [eT] at q0 q2
  have K : Hid (nxV s f = .tuple #[.agg (tkA T),zI (T.p + T.x.size),zI 0]) := nx_ok (by rw [KX.out,hE0]) eT
  subst hE0
  have cB := behind_any T
  obtain ⟨Q,eQ⟩ : ∃ Q : Int,T.p + (T.x.size : Int) = Q := ⟨_,rfl⟩
  rw [eQ] at K cB
  have cB2 := fun w => cB w (by omega) (by omega)
  unfold tkA at cF cB2
  clear hfin hE KX eT q0 q1 q2 cB eE
  go_enter Tryz.func128,Tryz.ntmps128
  go_wp2_with fail
  refine cF.mono ?_
  rintro _ v ⟨rfl,bb⟩
  have HR2 := (HR.out.onto bb).hid
  have HB2 : Hid (Below w§ w v) := HB.out.trans (bb.mono HB.out.size)
  have hlt : w§ < v§ := HR2.out.lt
  obtain ⟨V,eV⟩ : ∃ V,v.alloc (.cells (tkA T) 82) = V := ⟨_,rfl⟩
  have HR3 : Hid (TkH V w§ tk0) := by rw [← eV]; exact heap_old HR2.out hlt
  have HB4 : Hid (Below w§ w V) := by rw [← eV]; exact HB2.out.alloc (Nat.le_of_lt hlt) _
  have HT3 : Hid (TkH V v§ T) := by rw [← eV]; exact heap_new _ _
  unfold tkA at eV
  clear bb
  have hbn : v§ ≠ w§ := by omega
  obtain ⟨b,eb⟩ : ∃ b,v§ = b := ⟨_,rfl⟩
  rw [eb] at HT3 hbn
  go_wp2_with fail
  clear eV
  go_region_held3 (fun v' => v'.cell? ⟨b,0,none⟩ = some (zU T.k) ∧ v'.cell? ⟨b,1,none⟩ = some (.string T.x) ∧ v'.cell? ⟨b,2,none⟩ = some (zU T.ty) ∧ v'.cell? ⟨b,3,none⟩ = some (zI T.n) ∧ v'.cell? ⟨b,4,none⟩ = some (zI T.p) ∧ GT w b V v')
   (exact HT3.out.keep (by (repeat (first | with_reducible assumption | with_reducible exact GT.refl _ HB4.out | with_reducible apply GT.drew | with_reducible refine GT.set hbn ?_ | with_reducible refine GT.call HT3.out (by with_reducible assumption) ?_))))
   (first
    | (go_at_call 125; refine (cB2 _).mono ?_; rintro e w1 ⟨rfl,hb1⟩; have g1 : GBx V w1 := GBx.call hb1 (by repeat (first | with_reducible exact GBx.refl _ | with_reducible apply GBx.drew)); have RH := (HR3.out.onto g1).hid; obtain ⟨r0,r1,r2,r3,r4⟩ := RH.out.cells; obtain ⟨f0,f1,f2,f3,f4⟩ := RH.out.froz))
  have HBF : Hid (Below w§ w w1) := HB4.out.trans (g1.mono HB4.out.size)
  go_wp2
  exact bodyPost_ret (results_three (p := 4) (u := 5) (v := 6) (ty := 82) rfl _ _ w§ 82 (tkA T) (0,0) _ rfl (RH.out.put T) Tryz.underlying82 rfl zK) rfl ⟨by rw [K.out]; rfl,below_put HBF.out (Nat.le_refl _) _ _ _ _ _⟩
 ·have hE' : (E != 0) = true := by simp [hE0]
  have K : Hid (nxV s f = .tuple #[.agg (tkA tk0),zI 0,zI E]) := nx_bad KX.out hE0
  rw [if_neg hE0] at cF
  unfold tkA at cF
  clear hfin hE KX eE hE0
  go_enter Tryz.func128,Tryz.ntmps128
  go_wp2_with fail
  refine cF.mono ?_
  rintro _ v ⟨rfl,bb⟩
  have HR2 := (HR.out.onto bb).hid
  have HB2 : Hid (Below w§ w v) := HB.out.trans (bb.mono HB.out.size)
  have hlt : w§ < v§ := HR2.out.lt
  obtain ⟨V,eV⟩ : ∃ V,v.alloc (.cells (tkA (tkP (oneP s f))) 82) = V := ⟨_,rfl⟩
  have HR3 : Hid (TkH V w§ tk0) := by rw [← eV]; exact heap_old HR2.out hlt
  have HB4 : Hid (Below w§ w V) := by rw [← eV]; exact HB2.out.alloc (Nat.le_of_lt hlt) _
  unfold tkA at eV
  clear bb
  obtain ⟨r0,r1,r2,r3,r4⟩ := HR3.out.cells
  obtain ⟨f0,f1,f2,f3,f4⟩ := HR3.out.froz
  go_wp2
  exact bodyPost_ret (results_three (p := 4) (u := 5) (v := 6) (ty := 82) rfl _ _ w§ 82 (tkA tk0) (0,0) _ rfl (HR3.out.put tk0) Tryz.underlying82 rfl zK) rfl ⟨by rw [K.out]; rfl,below_put HB4.out (Nat.le_refl _) _ _ _ _ _⟩
theorem nextp_any (s : ByteArray) (a : Int) (w : World) (ht : Tab w) :
  Calls zG 128 #[.string s,zI a] w fun e w' => e = .returned (nxV s a) ∧ Below w§ w w' := by
 by_cases h : s.size > 4096
 ·exact nextp_long s a h w
 ·by_cases ha : a < 0 ∨ a > s.size
  ·exact nextp_out s a h ha w
  ·have e : a = ((a.toNat : Nat) : Int) := by omega
   rw [e]
   exact nextp_in s a.toNat h (by omega) w ht
def Row (w : World) (e : TypeId) (s : Nat) (v : Value) (n : Nat) (f : Nat → Value) : Prop := w.ownsRow 0 e s v n ((List.range (n * s)).map f)
theorem range_map_set (m j : Nat) (f : Nat → Value) (u : Value) : ((List.range m).map f).set j u = (List.range m).map (fun i => if i = j then u else f i) := by
 apply List.ext_getElem?
 intro i
 rw [List.getElem?_set,List.getElem?_map,List.getElem?_map,List.length_map,List.length_range]
 by_cases hi : i < m
 ·rw [List.getElem?_range hi]
  by_cases hj : j = i
  ·subst hj; simp [hi]
  ·rw [if_neg hj]
   show some (f i) = some (if i = j then u else f i)
   rw [if_neg (fun h => hj h.symm)]
 ·rw [List.getElem?_eq_none (by simpa using hi)]
  by_cases hj : j = i
  ·subst hj; simp [hi]
  ·simp [hj]
variable {w : World} {e : TypeId} {s n cap : Nat} {g : Nat} {f f' : Nat → Value} {v : Value}
theorem Row.cell (h : Row w e s (.slice (some ⟨g,0,none⟩) n cap) n f) {j : Nat} (hj : j < n * s) : w.cell? ⟨g,j,none⟩ = some (f j) := by
 rw [World.ownsRow.cellAt h j hj,List.getElem?_map,List.getElem?_range hj]; rfl
theorem Row.frozen (h : Row w e s (.slice (some ⟨g,0,none⟩) n cap) n f) (j : Nat) : w.frozen? ⟨g,j,none⟩ = false := World.ownsRow.frozenAt h j
theorem Row.set (h : Row w e s (.slice (some ⟨g,0,none⟩) n cap) n f) (j : Nat) (u : Value) : Row (w.setCell ⟨g,j,none⟩ u) e s (.slice (some ⟨g,0,none⟩) n cap) n (fun i => if i = j then u else f i) := by
 have := (World.ownsRow.stored h j u).1
 rwa [range_map_set] at this
theorem Row.congr (h : Row w e s v n f) (he : ∀ j,j < n * s → f j = f' j) : Row w e s v n f' := by
 unfold Row at h ⊢
 have : (List.range (n * s)).map f = (List.range (n * s)).map f' := List.map_congr_left (fun j hj => he j (by simpa using hj))
 rwa [this] at h
theorem Row.kept {w' : World} {row : Option Nat} (h : Row w e s v n f) (hg : w.grownBy w' row) (hne : v.ownBlock = none ∨ v.ownBlock ≠ row) : Row w' e s v n f := World.ownsRow.kept h hg hne
theorem Row.lt (h : Row w e s v n f) : ∀ k,v.ownBlock = some k → k < w§ := fun k hk => (World.ownsRow.lt h k hk).2
theorem Row.nil (w : World) (e : TypeId) (s : Nat) (f : Nat → Value) : Row w e s (.slice none 0 0) 0 f := by
 have := World.ownsRow_nil w 0 e s
 simpa [Row] using this
theorem Row.kind (h : Row w e s v n f) : ∀ k,v.ownBlock = some k → ∃ c fz,w.heap[k]? = some (.cells c e fz) := by
 intro k hk
 rcases h.2 with ⟨rfl,_⟩ | ⟨g',cap',cur,rfl,_,hg,_⟩
 ·simp [Value.ownBlock] at hk
 ·simp [Value.ownBlock] at hk
  subst hk
  exact ⟨_,_,hg⟩
theorem Row.of_block {w' : World} (h : Row w e s v n f) (hb : ∀ k,v.ownBlock = some k → w'.heap[k]? = w.heap[k]?) : Row w' e s v n f := by
 refine ⟨h.1,?_⟩
 rcases h.2 with h' | ⟨g',cap',cur,rfl,h1,hg,h2⟩
 ·exact .inl h'
 ·exact .inr ⟨g',cap',cur,rfl,h1,(hb g' rfl).trans hg,h2⟩
theorem Row.alloc (h : Row w e s v n f) (o : Obj) : Row (w.alloc o) e s v n f := World.ownsRow.alloc h o
theorem Row.form (h : Row w e s v n f) : ∃ ao c,v = .slice ao n c ∧ (0 < n → ∃ g,ao = some ⟨g,0,none⟩) ∧ ((ao = none ∧ n = 0 ∧ c = 0) ∨ ∃ g,ao = some ⟨g,0,none⟩) := by
 rcases h.2 with ⟨rfl,rfl⟩ | ⟨g',cap',cur,rfl,_⟩
 ·exact ⟨none,0,rfl,fun h => by omega,.inl ⟨rfl,rfl,rfl⟩⟩
 ·exact ⟨_,_,rfl,fun _ => ⟨g',rfl⟩,.inr ⟨g',rfl⟩⟩
theorem Row.apart {e' : TypeId} {s' n' : Nat} {v' : Value} (h : Row w e s v n f) (h' : Row w e' s' v' n' f') (hne : e ≠ e') : ∀ k,v.ownBlock = some k → v'.ownBlock ≠ some k := by
 intro k hk hk'
 obtain ⟨c,fz,h1⟩ := h.kind k hk
 obtain ⟨c',fz',h2⟩ := h'.kind k hk'
 rw [h1] at h2
 simp at h2
 exact hne h2.2.1
theorem Row.snoc {v' : Value} {news : List Value} {x : Nat → Value} (h : w.ownsRow 0 e s v' (n + 1) ((List.range (n * s)).map f ++ news)) (hl : news.length = s) (hx : ∀ j,j < s → news[j]? = some (x j)) :
  Row w e s v' (n + 1) (fun j => if j < n * s then f j else x (j - n * s)) := by
 unfold Row
 have : (List.range ((n + 1) * s)).map (fun j => if j < n * s then f j else x (j - n * s)) = (List.range (n * s)).map f ++ news := by
  apply List.ext_getElem?
  intro j
  have hm : (n + 1) * s = n * s + s := by rw [Nat.add_mul,Nat.one_mul]
  by_cases h1 : j < n * s
  ·rw [List.getElem?_append_left (by simpa using h1),List.getElem?_map,List.getElem?_map,List.getElem?_range (by omega),List.getElem?_range h1]
   simp [h1]
  ·rw [List.getElem?_append_right (by simpa using Nat.le_of_not_lt h1),List.length_map,List.length_range]
   by_cases h2 : j < (n + 1) * s
   ·rw [List.getElem?_map,List.getElem?_range h2,hx _ (by omega)]
    simp [h1]
   ·rw [List.getElem?_eq_none (by simpa using Nat.le_of_not_lt h2),List.getElem?_eq_none (by omega)]
 rw [this]; exact h
theorem Tryz.info82 : (Tryz.prog.info? 82).map (fun i => (i.zero,i.size,i.bytes)) = some (some (.agg #[zU 0,.string ⟨#[]⟩,zU 0,zI 0,zI 0]),5,48) := by kernel_rfl
def tkF (A : Nat → Tk) (j : Nat) : Value := if j % 5 = 0 then zU (A (j / 5)).k else if j % 5 = 1 then .string (A (j / 5)).x else if j % 5 = 2 then zU (A (j / 5)).ty else if j % 5 = 3 then zI (A (j / 5)).n else zI (A (j / 5)).p
def lsF (L : List Tk) : Nat → Tk := fun i => L.getD i tk0
theorem lsF_lt {L : List Tk} {y : Tk} {i : Nat} (h : i < L.length) : lsF (L ++ [y]) i = lsF L i := by
 unfold lsF
 simp [List.getD,List.getElem?_append_left h]
theorem lsF_at (L : List Tk) (y : Tk) : lsF (L ++ [y]) L.length = y := by
 unfold lsF
 simp [List.getD]
def RowL (w : World) (v : Value) (L : List Tk) : Prop := Row w 82 5 v L.length (tkF (lsF L))
structure RL (W w : World) (v : Value) (L : List Tk) : Prop where
 row : RowL w v L
 nb : ∀ k,v.ownBlock = some k → W§ ≤ k
 B : Below W§ W w
theorem RL.nil (W : World) : RL W W (.slice none 0 0) [] := ⟨Row.nil _ _ _ _,fun k h => by simp [Value.ownBlock] at h,Below.refl _ _⟩
theorem RL.call {W w w' : World} {v : Value} {L : List Tk} (h : RL W w v L) (k : Below w§ w w') : RL W w' v L :=
 ⟨h.row.of_block (fun b hb => k.block b (h.row.lt b hb)),h.nb,h.B.trans (k.mono h.B.size)⟩
theorem RL.alloc {W w : World} {v : Value} {L : List Tk} (h : RL W w v L) (o : Obj) : RL W (w.alloc o) v L := h.call (below_new w o)
theorem RL.drew {W w : World} {v : Value} {L : List Tk} (h : RL W w v L) : RL W w.drew v L := ⟨h.row.of_block (fun _ _ => rfl),h.nb,h.B.drew⟩
theorem RL.drewN {W w : World} {v : Value} {L : List Tk} (h : RL W w v L) (n : Nat) : RL W (w.drewN n) v L := ⟨h.row.of_block (fun _ _ => rfl),h.nb,below_drew h.B n⟩
theorem RL.hid {W w : World} {v : Value} {L : List Tk} (h : RL W w v L) : Hid (RL W w v L) := h
theorem tk_cells (y : Tk) : ∀ j,j < 5 → (tkA y).toList[j]? = some (tkF (fun _ => y) j) := by
 intro j hj
 match j,hj with
 | 0,_ => rfl
 | 1,_ => rfl
 | 2,_ => rfl
 | 3,_ => rfl
 | 4,_ => rfl
theorem app_core {W w0 w' : World} {v : Value} {L : List Tk} {y : Tk} {g cap : Nat} (hR : RL W w0 v L)
  (h2 : w'.ownsRow 0 82 5 (.slice (some ⟨g,0,none⟩) (L.length + 1) cap) (L.length + 1) ((List.range (L.length * 5)).map (tkF (lsF L)) ++ (tkA y).toList))
  (h3 : (w0.alloc (.cells (tkA y) 82)).grownBy w' v.ownBlock) (h4 : v.ownBlock = some g ∨ g = (w0.alloc (.cells (tkA y) 82))§) :
  RL W w' (.slice (some ⟨g,0,none⟩) (L.length + 1) cap) (L ++ [y]) ∧ w0§ ≤ w'§ ∧ ∀ b,b < w0§ → v.ownBlock ≠ some b → w'.heap[b]? = w0.heap[b]? := by
 have hsz := size_alloc w0 (.cells (tkA y) 82)
 have hB0 := hR.B.alloc hR.B.size (.cells (tkA y) 82)
 refine ⟨⟨?_,?_,hB0.grown h3 hB0.size (fun k hk => hR.nb k hk)⟩,?_,?_⟩
 ·have hr := Row.snoc (x := tkF (fun _ => y)) h2 rfl (fun j hj => tk_cells y j hj)
  unfold RowL
  rw [List.length_append,List.length_singleton]
  refine hr.congr fun j hj => ?_
  by_cases h : j < L.length * 5
  ·simp only [h,if_true]
   unfold tkF
   rw [lsF_lt (by omega)]
  ·have e : j / 5 = L.length := by omega
   simp only [h,if_false]
   unfold tkF
   rw [e,lsF_at,show (j - L.length * 5) % 5 = j % 5 by omega]
 ·intro k hk
  simp [Value.ownBlock] at hk
  subst hk
  rcases h4 with h4 | h4
  ·exact hR.nb _ h4
  ·have := hR.B.size; omega
 ·have := h3.size; omega
 ·intro b hb hne
  rw [h3.block b (by omega) (fun e => hne e.symm)]
  exact Below.heap_alloc _ _ _ hb
theorem news_core (w0 : World) (y : Tk) : ∀ j u,(tkA y).toList[j]? = some u → (w0.alloc (.cells (tkA y) 82)).cell? ((⟨w0§,0,none⟩ : Addr).add j) = some u := World.news_of_block (heap_new w0 _)
theorem one_core (y : Tk) : ∀ u ∈ (tkA y).toList,u.oneCell' = true := by
 intro u hu
 simp [tkA] at hu
 rcases hu with rfl | rfl | rfl | rfl | rfl <;> rfl
theorem append_token {W w0 : World} {ops : Array Oper} {rest : List Oper} {o : Oper} {a : Act} {Q : Exit → Act → World → Prop} (hgd : o.guard = none) (d x : Operand)
  (ho : o.op = .call { callee := .builtin .append,args := #[d,x],argTypes := #[94,94] }) (y : Tk) {v : Value} {L : List Tk} (hR : RL W w0 v L) (hs : a.eval d = v) (hx : a.eval x = .slice (some ⟨w0§,0,none⟩) 1 1) (hlen : L.length ≤ 1000000000)
  (h : ∀ v' w',RL W w' v' (L ++ [y]) → w0§ ≤ w'§ → (∀ b,b < w0§ → v.ownBlock ≠ some b → w'.heap[b]? = w0.heap[b]?) → wpList Tryz.prog ops Q rest (a.put o.dst v') w') :
  wpList Tryz.prog ops Q (o :: rest) a (w0.alloc (.cells (tkA y) 82)) := by
 obtain ⟨i0,hi,hz0,hz1,hz2⟩ := info_parts Tryz.info82
 refine wpList_append_lies _ hgd d x 94 ho 0 82 i0 _ 5 48 Tryz.underlying94 hi hz0 hz1 hz2 rfl (by decide) v L.length _ hs (hR.row.alloc _) ⟨w0§,0,none⟩ 1 1 (tkA y).toList hx rfl (news_core w0 y) (one_core y) (by decide) (by unfold maxLen; omega) (by omega) (Nat.zero_le _) _ rfl ?_
 intro g cap w' h2 h3 h4 h5
 obtain ⟨q1,q2,q3⟩ := app_core hR h2 h3 h4
 exact h _ w' q1 q2 q3
def oneQ (s : ByteArray) (f : Nat) : Nat := oneP s f + (oneT s f).x.size
def begO (s : ByteArray) (f : Nat) : List Tk × Int × Int :=
 if oneE s f ≠ 0 then ([],oneE s f,oneB s f)
 else if (oneT s f).k = 0 then ([oneT s f],0,0)
 else if _h : f < oneQ s f ∧ oneQ s f ≤ s.size then (oneT s f :: (begO s (oneQ s f)).1,(begO s (oneQ s f)).2)
 else ([],0,0)
termination_by s.size - f
decreasing_by all_goals omega
theorem beg_bad {s : ByteArray} {f : Nat} (h : oneE s f ≠ 0) : begO s f = ([],oneE s f,oneB s f) := by
 rw [begO,if_pos h]
theorem beg_end {s : ByteArray} {f : Nat} (h : oneE s f = 0) (hk : (oneT s f).k = 0) : begO s f = ([oneT s f],0,0) := by
 rw [begO,if_neg (by simp [h]),if_pos hk]
theorem beg_more {s : ByteArray} {f : Nat} (hf : f ≤ s.size) (h : oneE s f = 0) (hk : ¬ (oneT s f).k = 0) : f < oneQ s f ∧ oneQ s f ≤ s.size ∧ (oneT s f).p + ((oneT s f).x.size : Int) = (oneQ s f : Nat) ∧ begO s f = (oneT s f :: (begO s (oneQ s f)).1,(begO s (oneQ s f)).2) := by
 obtain ⟨q0,q1,q2,q3⟩ := one_fine s f hf h
 have q4 := q3 hk
 have e1 : f < oneQ s f := by unfold oneQ; omega
 have e2 : oneQ s f ≤ s.size := q2
 refine ⟨e1,e2,by rw [q0]; unfold oneQ; omega,?_⟩
 rw [begO,if_neg (by simp [h]),if_neg hk,dif_pos ⟨e1,e2⟩]
theorem results_t3 {P : Program} {fn : Func} {p u v : Tmp} (h : fn.results = #[.tmp p,.tmp u,.tmp v]) (tmps : Array Value) (w : World) : (results fn tmps).run P w = .ok (.tuple #[tmps.getD p undef,tmps.getD u undef,tmps.getD v undef]) w := by
 simp [results,h]
def tksE (s : ByteArray) : Int := if s.size > 4096 then 110 else (begO s 0).2.1
def tksB (s : ByteArray) : Int := if tksE s = 0 then 0 else if s.size > 4096 then 0 else (begO s 0).2.2
def tksL (s : ByteArray) : List Tk := if tksE s = 0 then (begO s 0).1 else []
theorem RL.none {W w : World} (h : Below W§ W w) : RL W w (.slice none 0 0) [] := ⟨Row.nil _ _ _ _,fun k h => by simp [Value.ownBlock] at h,h⟩
theorem tks_long {s : ByteArray} (h : s.size > 4096) : tksE s = 110 ∧ tksB s = 0 ∧ tksL s = [] := by
 have K1 : tksE s = 110 := by unfold tksE; rw [if_pos h]
 exact ⟨K1,by unfold tksB; rw [K1,if_neg (by decide),if_pos h],by unfold tksL; rw [K1,if_neg (by decide)]⟩
theorem tks_short {s : ByteArray} (h : ¬ s.size > 4096) {L : List Tk} {E B : Int} (hO : begO s 0 = (L,E,B)) : tksE s = E ∧ (E = 0 → tksB s = 0 ∧ tksL s = L) ∧ (E ≠ 0 → tksB s = B ∧ tksL s = []) := by
 have K1 : tksE s = E := by unfold tksE; rw [if_neg h,hO]
 refine ⟨K1,fun e => ?_,fun e => ?_⟩
 ·unfold tksB tksL; rw [K1,if_pos e,if_pos e,hO]; exact ⟨rfl,rfl⟩
 ·unfold tksB tksL; rw [K1,if_neg e,if_neg e,if_neg h,hO]; exact ⟨rfl,rfl⟩
set_option maxRecDepth 100000 in
set_option maxHeartbeats 2000000 in
theorem tokensp_any (s : ByteArray) (w : World) (ht : Tab w) :
  Calls zG 101 #[.string s] w fun e w' => ∃ v,e = .returned (.tuple #[v,zI (tksE s),zI (tksB s)]) ∧ RL w w' v (tksL s) := by
 by_cases h : s.size > 4096
 ·obtain ⟨K1,K2,K3⟩ := tks_long h
  rw [K1,K2,K3]
  have h' : (s.size : Int) > 4096 := by omega
  clear K1 K2 K3
  go_enter Tryz.func101,Tryz.ntmps101
  go_wp2
  exact bodyPost_ret (results_t3 (p := 2) (u := 3) (v := 4) rfl _ _) rfl ⟨_,rfl,RL.nil w⟩
 have h' : ¬ (s.size : Int) > 4096 := by omega
 have HTab := ht.hid
 clear ht
 go_enter Tryz.func101,Tryz.ntmps101
 go_wp2_with fail
 go_loopw [5,6] (fun l i wr => ∃ (L : List Tk) (k : Nat),k ≤ s.size ∧ i = zI k ∧ L.length ≤ k ∧ RL w wr l L ∧ Hid (begO s 0 = (L ++ (begO s k).1,(begO s k).2))) (fun _ i _ => s.size - (intOf i).toNat)
 case atStart => exact ⟨[],0,by omega,rfl,Nat.le_refl _,RL.nil w,by show _ = _; rfl⟩
 case round =>
  obtain ⟨L,k,hk,rfl,hL,hR,HG⟩ := hrel
  have cO := first_any s k (by omega) hk wr (HTab.out.on hR.B)
  unfold fsV fsT at cO
  obtain ⟨E,eE⟩ : ∃ E,oneE s k = E := ⟨_,rfl⟩
  rw [eE] at cO
  have HX := hR.hid
  have KE : Hid (oneE s k = E) := eE
  clear hR eE
  by_cases hE : E = 0
  ·have hE' : (E != 0) = false := by simp [hE]
   obtain ⟨T,eT⟩ : ∃ T,oneT s k = T := ⟨_,rfl⟩
   rw [if_pos hE,eT] at cO
   subst hE
   have KT : Hid (oneT s k = T) := eT
   unfold tkA at cO
   clear eT
   go_wp2_with fail
   refine cO.mono ?_
   rintro _ v ⟨rfl,bb⟩
   have HX2 := (HX.out.call bb).hid
   clear bb HX cO
   have HX3 := (HX2.out.alloc (.cells (tkA T) 82)).hid
   have HT : Hid (TkH (v.alloc (.cells (tkA T) 82)) v§ T) := heap_new _ _
   have HN : Hid (∀ b,(u5 : Value).ownBlock = some b → b < v§) := HX2.out.row.lt
   by_cases hk0 : T.k = 0
   ·have e0 : (T.k == 0) = true := by simp [hk0]
    have K : Hid (begO s 0 = (L ++ [T],0,0)) := by
     show _ = _
     rw [HG.out,beg_end KE.out (by rw [KT.out]; exact hk0),KT.out]
    clear HG KT KE hk0
    go_wp2_with (at_builtin; refine append_token rfl (.tmp 23) (.tmp 25) rfl T HX3.out rfl (by show Value.slice (some ⟨v§ + 1,0,none⟩) 1 1 = _; rw [size_alloc]) (by omega) ?_; intro v1 w1 hr1 hs1 hk1; have HX1 := hr1.hid; have HT1 : Hid (TkH w1 v§ T) := (hk1 _ (by simp) (fun e => by have := HN.out _ e; omega)).trans HT.out; obtain ⟨y0,y1,y2,y3,y4⟩ := HT1.out.cells; clear hk1 hs1 hr1)
    obtain ⟨z1,z2,_⟩ := tks_short h K.out
    obtain ⟨z2,z3⟩ := z2 rfl
    exact bodyPost_ret (results_t3 (p := 2) (u := 3) (v := 4) rfl _ _) rfl ⟨_,by rw [z1,z2]; rfl,by rw [z3]; exact HX1.out⟩
   ·have e0 : (T.k == 0) = false := by simp [hk0]
    obtain ⟨q1,q2,q3,q4⟩ := beg_more hk KE.out (by rw [KT.out]; exact hk0)
    obtain ⟨Q,eQ⟩ : ∃ Q,oneQ s k = Q := ⟨_,rfl⟩
    rw [KT.out,eQ] at q3
    rw [KT.out,eQ] at q4
    rw [eQ] at q1 q2
    have K : Hid (begO s 0 = ((L ++ [T]) ++ (begO s Q).1,(begO s Q).2)) := by
     show _ = _
     rw [HG.out,q4]
     simp
    have cB := behind_any T
    rw [q3] at cB
    have cB2 := fun w => cB w (by omega) (by omega)
    unfold tkA at cB2
    clear HG KT KE hk0 q4 q3 cB eQ
    go_wp2_with (at_builtin; refine append_token rfl (.tmp 23) (.tmp 25) rfl T HX3.out rfl (by show Value.slice (some ⟨v§ + 1,0,none⟩) 1 1 = _; rw [size_alloc]) (by omega) ?_; intro v1 w1 hr1 hs1 hk1; have HX1 := hr1.hid; have HT1 : Hid (TkH w1 v§ T) := (hk1 _ (by simp) (fun e => by have := HN.out _ e; omega)).trans HT.out; obtain ⟨y0,y1,y2,y3,y4⟩ := HT1.out.cells; clear hk1 hs1 hr1)
    refine (cB2 _).mono ?_
    rintro _ w2 ⟨rfl,b2⟩
    have HX4 := (HX1.out.call b2).hid
    clear b2 HX1 HT1 cB2
    go_wp2_with fail
    exact ⟨⟨L ++ [T],Q,q2,rfl,by simp; omega,HX4.out,K⟩,by simp only [intOf]; omega⟩
  ·have hE' : (E != 0) = true := by simp [hE]
   rw [if_neg hE] at cO
   obtain ⟨B,eB⟩ : ∃ B,oneP s k = B := ⟨_,rfl⟩
   have K : Hid (begO s 0 = (L,E,(B : Int))) := by
    show _ = _
    rw [HG.out,beg_bad (by rw [KE.out]; exact hE),KE.out]
    have : oneB s k = B := by unfold oneB; rw [KE.out,if_neg hE,eB]
    rw [this]
    simp
   rw [eB] at cO
   unfold tkA at cO
   have hE2 : Hid (E ≠ 0) := hE
   clear HG KE hE eB
   go_wp2_with fail
   refine cO.mono ?_
   rintro _ v ⟨rfl,bb⟩
   have HX2 := (HX.out.call bb).hid
   obtain ⟨V,eV⟩ : ∃ V,v.alloc (.cells (tkA (tkP B)) 82) = V := ⟨_,rfl⟩
   have HX3 : Hid (RL w V u5 L) := by rw [← eV]; exact HX2.out.alloc _
   have HT3 : Hid (TkH V v§ (tkP B)) := by rw [← eV]; exact heap_new _ _
   unfold tkA at eV
   clear bb cO
   go_wp2_with fail
   clear eV
   obtain ⟨y0,y1,y2,y3,y4⟩ := HT3.out.cells
   go_region
   go_wp2_with fail
   obtain ⟨z1,_,z2⟩ := tks_short h K.out
   obtain ⟨z2,z3⟩ := z2 hE2.out
   exact bodyPost_ret (results_t3 (p := 2) (u := 3) (v := 4) rfl _ _) rfl ⟨_,by rw [z1,z2]; rfl,by rw [z3]; exact RL.none HX3.out.B.drew⟩
theorem ov_lt : ∀ (l m : List UInt8) (r : Bool),ov l r < l.length → ov (l ++ m) r = ov l r
 | [],m,r,h => absurd h (by simp [ov])
 | c :: l,m,r,h => by
  rw [List.cons_append,ov,ov]
  rw [ov] at h
  split
  ·rfl
  ·rename_i hc
   rw [if_neg hc] at h
   rw [ov_lt l m _ (by simp only [List.length_cons] at h; omega)]
theorem ov_all : ∀ (l m : List UInt8) (r : Bool),ov l r = l.length → ov (l ++ m) r = l.length + ov m (l.foldl remB r)
 | [],m,r,h => by simp
 | c :: l,m,r,h => by
  rw [ov] at h
  by_cases hc : remB r c = false ∧ blankB c = false
  ·rw [if_pos hc] at h; simp at h
  ·rw [if_neg hc] at h
   rw [List.cons_append,ov_go hc,ov_all l m _ (by simp only [List.length_cons] at h; omega)]
   simp only [List.length_cons,List.foldl_cons]; omega
theorem ov_drop : ∀ (l : List UInt8) (r : Bool),ov l r < l.length → ov (l.drop (ov l r)) false = 0
 | [],r,h => absurd h (by simp [ov])
 | c :: l,r,h => by
  by_cases hc : remB r c = false ∧ blankB c = false
  ·rw [ov_stop hc.1 hc.2,List.drop_zero]
   refine ov_stop ?_ hc.2
   have := hc.1
   unfold remB at this ⊢
   split at this
   ·exact absurd this (by simp)
   ·rename_i h35
    rw [if_neg h35]
    split <;> rfl
  ·rw [ov_go hc] at h ⊢
   rw [List.drop_succ_cons]
   exact ov_drop l _ (by simp only [List.length_cons] at h; omega)
theorem oneP_end {s : ByteArray} {f : Nat} (h : oneP s f = s.size) : oneE s f = 0 ∧ oneT s f = ⟨0,⟨#[]⟩,0,0,s.size⟩ := by
 unfold oneE oneT
 rw [if_pos h,if_pos h,h]
 exact ⟨rfl,rfl⟩
theorem lx_nil_k {l : List UInt8} {d : Nat} (h : lxE l = 0) : ∃ k n ty v,lx l = some (k,n,ty,v) ∧ tkOf l d = ⟨k,⟨(l.take n).toArray⟩,ty,v,d⟩ := by
 unfold lxE at h
 unfold tkOf
 cases hl : lx l with
 | none =>
  rw [hl,if_neg (by decide)] at h
  split at h
  ·exact absurd h (by decide)
  ·split at h <;> exact absurd h (by decide)
 | some q =>
  obtain ⟨k,n,ty,v⟩ := q
  exact ⟨k,n,ty,v,rfl,rfl⟩
def arr (l : List UInt8) : ByteArray := ⟨l.toArray⟩
theorem arr_size (l : List UInt8) : (arr l).size = l.length := by unfold arr; simp [ByteArray.size]
structure Good (t : Tk) : Prop where
 kk : t.k ≠ 0
 ne : 0 < t.x.size
 bl : ov t.x.data.toList false = 0
 lk : lx t.x.data.toList = some (t.k,t.x.size,t.ty,t.n)
theorem one_good {s : ByteArray} {f : Nat} (hf : f ≤ s.size) (hE : oneE s f = 0) (h : oneP s f ≠ s.size) :
  Good (oneT s f) ∧ (oneT s f).p = (oneP s f : Nat) ∧ f ≤ oneP s f ∧ oneP s f + (oneT s f).x.size ≤ s.size ∧ s.extract (oneP s f) (oneP s f + (oneT s f).x.size) = (oneT s f).x ∧ lx (rest s (oneP s f)) = some ((oneT s f).k,(oneT s f).x.size,(oneT s f).ty,(oneT s f).n) := by
 obtain ⟨e1,e2⟩ := one_lx s f hf h
 have hP := oneP_le s f hf
 rw [hE] at e2
 obtain ⟨k,n,ty,v,h1,h2⟩ := lx_nil_k (d := oneP s f) e2.symm
 obtain ⟨l1,l2,l3⟩ := lx_len h1
 have h3 : oneT s f = ⟨k,arr ((rest s (oneP s f)).take n),ty,v,(oneP s f : Nat)⟩ := e1.trans h2
 have h4 : (arr ((rest s (oneP s f)).take n)).size = n := by rw [arr_size,List.length_take]; omega
 have h5 : (rest s (oneP s f)).length = s.size - oneP s f := rest_len _ _
 have h6 : ov (rest s (oneP s f)) false = 0 := by
  have := ov_drop (rest s f) false (by rw [rest_len]; unfold oneP at hP h; omega)
  rw [rest_drop] at this
  exact this
 rw [h3]
 refine ⟨⟨l3,?_,?_,?_⟩,rfl,by unfold oneP; omega,?_,?_,?_⟩
 ·show 0 < (arr _).size
  rw [h4]; exact l1
 ·show ov ((rest s (oneP s f)).take n) false = 0
  have ht := ov_lt ((rest s (oneP s f)).take n) ((rest s (oneP s f)).drop n) false
  rw [List.take_append_drop,h6] at ht
  by_cases hc : ov ((rest s (oneP s f)).take n) false < ((rest s (oneP s f)).take n).length
  ·exact (ht hc).symm
  ·exfalso
   have hq := ov_all ((rest s (oneP s f)).take n) ((rest s (oneP s f)).drop n) false (by have := ov_le ((rest s (oneP s f)).take n) false; omega)
   rw [List.take_append_drop,h6,List.length_take] at hq
   omega
 ·show lx ((rest s (oneP s f)).take n) = some (k,(arr _).size,ty,v)
  rw [h4]; exact lx_take h1
 ·show _ + (arr _).size ≤ _
  rw [h4]; omega
 ·show s.extract _ (_ + (arr _).size) = arr _
  rw [h4,ext_eq]; rfl
 ·show _ = some (k,(arr _).size,ty,v)
  rw [h4]; exact h1
inductive Chain (s : ByteArray) : Nat → List Tk → Prop
 | fin (f : Nat) (h1 : f ≤ s.size) (h2 : oneP s f = s.size) : Chain s f [⟨0,⟨#[]⟩,0,0,s.size⟩]
 | more (f p : Nat) (t : Tk) (L : List Tk) (hg : Good t) (hp : t.p = (p : Nat)) (h1 : f ≤ p) (h2 : p + t.x.size ≤ s.size) (h3 : s.extract p (p + t.x.size) = t.x) (h4 : oneP s f = p) (h5 : Chain s (p + t.x.size) L) : Chain s f (t :: L)
theorem beg_chain {s : ByteArray} : ∀ (d f : Nat),s.size - f ≤ d → f ≤ s.size → (begO s f).2.1 = 0 → Chain s f (begO s f).1 ∧ (begO s f).2.2 = 0 := by
 intro d
 induction d with
 | zero =>
  intro f hd hf h
  have e : f = s.size := by omega
  have hp : oneP s f = s.size := by have := oneP_le s f hf; unfold oneP at this ⊢; omega
  obtain ⟨a,b⟩ := oneP_end hp
  rw [beg_end a (by rw [b])]
  exact ⟨by rw [b]; exact .fin f hf hp,rfl⟩
 | succ d ih =>
  intro f hd hf h
  by_cases hE : oneE s f = 0
  ·by_cases hp : oneP s f = s.size
   ·obtain ⟨a,b⟩ := oneP_end hp
    rw [beg_end a (by rw [b])]
    exact ⟨by rw [b]; exact .fin f hf hp,rfl⟩
   ·obtain ⟨g1,g2,g3,g4,g5,_⟩ := one_good hf hE hp
    obtain ⟨b1,b2,b3,b4⟩ := beg_more hf hE g1.kk
    rw [b4] at h ⊢
    obtain ⟨i1,i2⟩ := ih (oneQ s f) (by omega) b2 h
    exact ⟨.more f (oneP s f) _ _ g1 g2 g3 g4 g5 rfl i1,i2⟩
  ·rw [beg_bad hE] at h
   exact absurd h hE
theorem Chain.len {s : ByteArray} {f : Nat} {L : List Tk} (h : Chain s f L) : 0 < L.length := by cases h <;> simp
theorem last_end {s : ByteArray} {f : Nat} {L : List Tk} (h : Chain s f L) : ∃ K,L = K ++ [⟨0,⟨#[]⟩,0,0,s.size⟩] := by
 induction h with
 | fin f h1 h2 => exact ⟨[],rfl⟩
 | more f p t L hg hp h1 h2 h3 h4 h5 ih => obtain ⟨K,rfl⟩ := ih; exact ⟨t :: K,rfl⟩
end Go.Proofs.YtkfabnchhjfjjaaGreatDoor
