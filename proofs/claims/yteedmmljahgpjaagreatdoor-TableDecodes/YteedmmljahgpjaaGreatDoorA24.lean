import Derived.Test.YteedmmljahgpjaaGreatDoorA0
import Derived.Test.YteedmmljahgpjaaGreatDoorA23
namespace Go.Proofs.YteedmmljahgpjaaGreatDoor
set_option maxRecDepth 100000
set_option maxHeartbeats 4000000
open Go.RowKit
set_option linter.unusedVariables false
set_option linter.unusedSimpArgs false
theorem rstands_any (t : TbM) (a : Nat) (b : Int) (w : World) (hl : TbL w t) (ha : a < t.ds.length) (hm : t.ds.length ≤ 4096) : Calls zG 68 #[.agg t.vals, zI a, zI b] w fun e w' => e = .returned (.bool (Qg t (t.ds.getD a ⟨0, 0⟩) a b)) ∧ Below w§ w w' := by
 have hb1 := Bn w (.cells t.vals 26)
 have hn1 := Hn w (.cells t.vals 26)
 obtain ⟨W1, e1⟩ : ∃ W, w.alloc (.cells t.vals 26) = W := ⟨_, rfl⟩
 have E1 : Hid (w.alloc (.cells t.vals 26) = W1) := e1
 rw [e1] at hb1 hn1
 have HB1 : Hid (Below w§ w W1) := hb1
 have HN1 : Hid (W1.heap[w§]? = some (.cells t.vals 26 (0, 0))) := hn1
 obtain ⟨bb, o, ea, r1⟩ := QP InM.sz (hl.on hb1).D a ha
 have c4 : W1.cell? ⟨w§, 4, none⟩ = some (.slice (some ⟨bb, o, none⟩) t.ds.length t.dc) := by rw [← ea]; exact Co hn1 4
 rw [show t.ds.getD a ⟨0, 0⟩ = t.ds[a] by rw [List.getD_eq_getElem?_getD, List.getElem?_eq_getElem ha]; rfl]
 obtain ⟨d, ed⟩ : ∃ d, t.ds[a] = d := ⟨_, rfl⟩
 rw [ed] at r1 ⊢
 have HRG : Hid (W1.rangeAt bb (o + a * 2) d.vals.toList) := r1
 have ha' : (a : Int) < (t.ds.length : Int) := by omega
 have HZ : Hid ((W1.alloc (.cells #[zU 0, zI 0] 61)).heap[W1§]? = some (.cells #[zU 0, zI 0] 61 (0, 0))) := Hn _ _
 have HB2 : Hid (Below w§ w ((W1.alloc (.cells #[zU 0, zI 0] 61)).setRow W1§ d.vals)) := Qa hb1 (Qc (Bn _ _) (Nat.le_refl _) _)
 have HN2 : Hid (((W1.alloc (.cells #[zU 0, zI 0] 61)).setRow W1§ d.vals).heap[W1§]? = some (.cells d.vals 61 (0, 0))) := setRow_heap _ _ _ _ _ _ HZ.out
 have HN3 : Hid (((W1.alloc (.cells #[zU 0, zI 0] 61)).setRow W1§ d.vals).heap[w§]? = some (.cells t.vals 26 (0, 0))) := ((Qc (w := W1) (Bn _ _) (Nat.le_refl _) _).block _ (Qy hn1)).trans hn1
 clear hb1 e1 hl hn1 ed ea r1
 go_enter Tryz.func68, Tryz.ntmps68
 go_upto_region 1 with fail
 rw [E1.out]
 clear E1
 go_upto_region 2 with (first | (refine wpList_load_mid rfl 61 (.tmp 11) rfl bb (o + a * 2) rfl d.vals.toList _ HRG.out Tryz.underlying61 rfl (by show _ = some 2; exact Jq) ?_; rw [Array.toArray_toList]) | (refine wpList_store_row rfl 61 (.tmp 7) (.tmp 12) rfl W1§ d.vals rfl rfl 61 #[zU 0, zI 0] HZ.out Jq rfl (allIn d) ?_))
 generalize World.setRow _ _ _ = W2 at HN2 HN3 HB2 ⊢
 generalize W1§ = B1 at HN2 ⊢
 have k0:W2.cell? ⟨B1,0,none⟩=some (zU d.k):=Co HN2.out 0
 have k1:W2.cell? ⟨B1,1,none⟩=some (zI d.a):=Co HN2.out 1
 have c1 : W2.cell? ⟨w§, 1, none⟩ = some (.slice t.ra t.rs.length t.rc) := Co HN3.out 1
 have c3 : W2.cell? ⟨w§, 3, none⟩ = some (.slice t.ca t.cs.length t.cc) := Co HN3.out 3
 clear HN2 HN3 HZ HRG c4 HB1 HN1
 cases h1 : (d.k == 1) with
 | true =>
  cases hA : decide (d.a ≥ 0) with
  | true =>
   have hA' := of_decide_eq_true hA
   cases hC : decide (d.a < (t.cs.length : Int)) with
   | true =>
    have hC' := of_decide_eq_true hC
    go_wp2_with fail
    go_ret
    exact ⟨retB (by first | (simp [Qg, Qb, *]; done) | (simp [Qg, Qb, *] <;> omega)), HB2.out⟩
   | false =>
    have hC' := of_decide_eq_false hC
    go_wp2_with fail
    go_ret
    exact ⟨retB (by first | (simp [Qg, Qb, *]; done) | (simp [Qg, Qb, *] <;> omega)), HB2.out⟩
  | false =>
   have hA' := of_decide_eq_false hA
   go_wp2_with fail
   go_ret
   exact ⟨retB (by first | (simp [Qg, Qb, *]; done) | (simp [Qg, Qb, *] <;> omega)), HB2.out⟩
 | false =>
  cases h2 : (d.k == 2) with
  | true =>
   cases hA : decide (d.a ≥ 1) with
   | true =>
    have hA' := of_decide_eq_true hA
    cases hC : decide (d.a ≤ 6) with
    | true =>
     have hC' := of_decide_eq_true hC
     go_wp2_with fail
     go_ret
     exact ⟨retB (by first | (simp [Qg, Qb, *]; done) | (simp [Qg, Qb, *] <;> omega)), HB2.out⟩
    | false =>
     have hC' := of_decide_eq_false hC
     go_wp2_with fail
     go_ret
     exact ⟨retB (by first | (simp [Qg, Qb, *]; done) | (simp [Qg, Qb, *] <;> omega)), HB2.out⟩
   | false =>
    have hA' := of_decide_eq_false hA
    go_wp2_with fail
    go_ret
    exact ⟨retB (by first | (simp [Qg, Qb, *]; done) | (simp [Qg, Qb, *] <;> omega)), HB2.out⟩
  | false =>
   cases h3 : (d.k == 3) with
   | true =>
    cases hA : decide (d.a ≥ 1) with
    | true =>
     have hA' := of_decide_eq_true hA
     cases hC : decide (d.a ≤ 3) with
     | true =>
      have hC' := of_decide_eq_true hC
      go_wp2_with fail
      go_ret
      exact ⟨retB (by first | (simp [Qg, Qb, *]; done) | (simp [Qg, Qb, *] <;> omega)), HB2.out⟩
     | false =>
      have hC' := of_decide_eq_false hC
      go_wp2_with fail
      go_ret
      exact ⟨retB (by first | (simp [Qg, Qb, *]; done) | (simp [Qg, Qb, *] <;> omega)), HB2.out⟩
    | false =>
     have hA' := of_decide_eq_false hA
     go_wp2_with fail
     go_ret
     exact ⟨retB (by first | (simp [Qg, Qb, *]; done) | (simp [Qg, Qb, *] <;> omega)), HB2.out⟩
   | false =>
    cases h4 : (d.k == 4) with
    | true =>
     cases hA : decide (d.a ≥ 0) with
     | true =>
      have hA' := of_decide_eq_true hA
      cases hC : decide (d.a < (t.rs.length : Int)) with
      | true =>
       have hC' := of_decide_eq_true hC
       go_wp2_with fail
       go_ret
       exact ⟨retB (by first | (simp [Qg, Qb, *]; done) | (simp [Qg, Qb, *] <;> omega)), HB2.out⟩
      | false =>
       have hC' := of_decide_eq_false hC
       go_wp2_with fail
       go_ret
       exact ⟨retB (by first | (simp [Qg, Qb, *]; done) | (simp [Qg, Qb, *] <;> omega)), HB2.out⟩
     | false =>
      have hA' := of_decide_eq_false hA
      go_wp2_with fail
      go_ret
      exact ⟨retB (by first | (simp [Qg, Qb, *]; done) | (simp [Qg, Qb, *] <;> omega)), HB2.out⟩
    | false =>
     cases h5 : (d.k == 5) with
     | true =>
      cases hA : decide (d.a ≥ 1) with
      | true =>
       have hA' := of_decide_eq_true hA
       cases hC : decide (d.a ≤ 16) with
       | true =>
        have hC' := of_decide_eq_true hC
        go_wp2_with fail
        go_ret
        exact ⟨retB (by first | (simp [Qg, Qb, *]; done) | (simp [Qg, Qb, *] <;> omega)), HB2.out⟩
       | false =>
        have hC' := of_decide_eq_false hC
        go_wp2_with fail
        go_ret
        exact ⟨retB (by first | (simp [Qg, Qb, *]; done) | (simp [Qg, Qb, *] <;> omega)), HB2.out⟩
      | false =>
       have hA' := of_decide_eq_false hA
       go_wp2_with fail
       go_ret
       exact ⟨retB (by first | (simp [Qg, Qb, *]; done) | (simp [Qg, Qb, *] <;> omega)), HB2.out⟩
     | false =>
      cases h6 : (d.k == 6) with
      | true =>
       cases hA : decide (d.a > (a : Int)) with
       | true =>
        have hA' := of_decide_eq_true hA
        cases hC : decide (d.a ≤ b) with
        | true =>
         have hC' := of_decide_eq_true hC
         go_wp2_with fail
         go_ret
         exact ⟨retB (by first | (simp [Qg, Qb, *]; done) | (simp [Qg, Qb, *] <;> omega)), HB2.out⟩
        | false =>
         have hC' := of_decide_eq_false hC
         go_wp2_with fail
         go_ret
         exact ⟨retB (by first | (simp [Qg, Qb, *]; done) | (simp [Qg, Qb, *] <;> omega)), HB2.out⟩
       | false =>
        have hA' := of_decide_eq_false hA
        go_wp2_with fail
        go_ret
        exact ⟨retB (by first | (simp [Qg, Qb, *]; done) | (simp [Qg, Qb, *] <;> omega)), HB2.out⟩
      | false =>
       cases h7 : (d.k == 7) with
       | true =>
        cases hA : decide (d.a > (a : Int)) with
        | true =>
         have hA' := of_decide_eq_true hA
         cases hC : decide (d.a ≤ b) with
         | true =>
          have hC' := of_decide_eq_true hC
          go_wp2_with fail
          go_ret
          exact ⟨retB (by first | (simp [Qg, Qb, *]; done) | (simp [Qg, Qb, *] <;> omega)), HB2.out⟩
         | false =>
          have hC' := of_decide_eq_false hC
          go_wp2_with fail
          go_ret
          exact ⟨retB (by first | (simp [Qg, Qb, *]; done) | (simp [Qg, Qb, *] <;> omega)), HB2.out⟩
        | false =>
         have hA' := of_decide_eq_false hA
         go_wp2_with fail
         go_ret
         exact ⟨retB (by first | (simp [Qg, Qb, *]; done) | (simp [Qg, Qb, *] <;> omega)), HB2.out⟩
       | false =>
        cases h8 : (d.k == 8) with
        | true =>
         cases hA : decide (d.a > (a : Int)) with
         | true =>
          have hA' := of_decide_eq_true hA
          cases hC : decide (d.a ≤ b) with
          | true =>
           have hC' := of_decide_eq_true hC
           go_wp2_with fail
           go_ret
           exact ⟨retB (by first | (simp [Qg, Qb, *]; done) | (simp [Qg, Qb, *] <;> omega)), HB2.out⟩
          | false =>
           have hC' := of_decide_eq_false hC
           go_wp2_with fail
           go_ret
           exact ⟨retB (by first | (simp [Qg, Qb, *]; done) | (simp [Qg, Qb, *] <;> omega)), HB2.out⟩
         | false =>
          have hA' := of_decide_eq_false hA
          go_wp2_with fail
          go_ret
          exact ⟨retB (by first | (simp [Qg, Qb, *]; done) | (simp [Qg, Qb, *] <;> omega)), HB2.out⟩
        | false =>
         cases h9 : (d.k == 9) with
         | true =>
          cases hA : decide (d.a > (a : Int)) with
          | true =>
           have hA' := of_decide_eq_true hA
           cases hC : decide (d.a ≤ b) with
           | true =>
            have hC' := of_decide_eq_true hC
            go_wp2_with fail
            go_ret
            exact ⟨retB (by first | (simp [Qg, Qb, *]; done) | (simp [Qg, Qb, *] <;> omega)), HB2.out⟩
           | false =>
            have hC' := of_decide_eq_false hC
            go_wp2_with fail
            go_ret
            exact ⟨retB (by first | (simp [Qg, Qb, *]; done) | (simp [Qg, Qb, *] <;> omega)), HB2.out⟩
          | false =>
           have hA' := of_decide_eq_false hA
           go_wp2_with fail
           go_ret
           exact ⟨retB (by first | (simp [Qg, Qb, *]; done) | (simp [Qg, Qb, *] <;> omega)), HB2.out⟩
         | false =>
          go_wp2_with fail
          go_ret
          exact ⟨retB (by first | (simp [Qg, Qb, *]; done) | (simp [Qg, Qb, *] <;> omega)), HB2.out⟩
structure Ht (w:World) (C L f n:Nat) (h:Nat→Int) (bad:Bool):Prop where
 c:∃ cap,w.heap[C]? = some (.cells #[zI f,.slice (some ⟨L,0,none⟩) n cap,.bool bad] 194 (0,0))
 l:∃ cs,w.heap[L]? = some (.cells cs 3 (0,0))∧∀ j,j < n→cs[j]? = some (zI (h (f+j) - 1))
 ne:C≠L
theorem Ht.mv {w w':World}{C L f n:Nat}{h:Nat→Int}{bad:Bool}(k:Ht w C L f n h bad) (m:Below w§ w w'):Ht w' C L f n h bad:=by
 obtain⟨cap,k1⟩:=k.c
 obtain⟨cs,k2,k3⟩:=k.l
 exact⟨⟨cap,(m.block _ (Qy k1)).trans k1⟩,⟨cs,(m.block _ (Qy k2)).trans k2,k3⟩,k.ne⟩
theorem Ht.setBad {w:World}{C L f n:Nat}{h:Nat→Int}{bad:Bool}(k:Ht w C L f n h bad) (b:Bool):Ht (w.setCell ⟨C,2,none⟩ (.bool b)) C L f n h b:=by
 obtain⟨cap,k1⟩:=k.c
 obtain⟨cs,k2,k3⟩:=k.l
 exact⟨⟨cap,Hs0 _ k1⟩,⟨cs,(Below.heap_setCell _ _ _ _ (Ne.symm k.ne)).trans k2,k3⟩,k.ne⟩
theorem Ht.setL {w:World}{C L f n:Nat}{h:Nat→Int}{bad:Bool}(k:Ht w C L f n h bad) (i:Nat) (hi:i < n) (x:Int):Ht (w.setCell ⟨L,i,none⟩ (zI x)) C L f n (upd h (f+i) (x+1)) bad:=by
 obtain⟨cap,k1⟩:=k.c
 obtain⟨cs,k2,k3⟩:=k.l
 refine⟨⟨cap,(Below.heap_setCell _ _ _ _ k.ne).trans k1⟩,⟨_,Hs0 _ k2,fun j hj=>?_⟩,k.ne⟩
 have hcs:i < cs.size:=by
  have:=k3 i hi
  rcases Nat.lt_or_ge i cs.size with h' | h'
  ·exact h'
  ·rw [Array.getElem?_eq_none h'] at this; cases this
 rw [Array.getElem?_setIfInBounds]
 unfold upd
 by_cases e:i=j
 ·subst e; rw [if_pos rfl,if_pos hcs,if_pos rfl]; congr 2; omega
 ·rw [if_neg e,if_neg (by omega)]; exact k3 j hj
def Qj (h:Nat→Int) (a:Nat) (x:Int):Nat→Int:=if comeB h a x then upd h a (x+1) else h
theorem Qw {h:Nat→Int}(k:HOk h) (a:Nat) (x:Int):HOk (Qj h a x):=by
 unfold Qj
 split
 ·rename_i hc
  unfold comeB Qb at hc
  simp at hc
  intro j
  unfold upd
  split
  ·omega
  ·exact k j
 ·exact k
theorem QU (w:World) (C L f n:Nat) (h:Nat→Int) (bad:Bool) (k:Ht w C L f n h bad) (hk:HOk h) (i:Nat) (hi:i < n) (hf:f≤4096) (hn:n≤4097) (x:Int):Calls zG 103 #[zP C,zI ((f:Int)+i),zI x] w fun e w'=>e=.returned (.tuple #[])∧Ht w' C L f n (Qj h (f+i) x) (bad || !comeB h (f+i) x)∧Mv w w' (fun k=>k=C∨k=L):=by
 have HK:Hid (Ht w C L f n h bad):=k
 obtain⟨cap,k1⟩:=k.c
 obtain⟨cs,k2,k3⟩:=k.l
 obtain⟨c0,c1,c2⟩:=cl3 k1
 have f2:=Fo k1 2
 have l0:w.cell? ⟨L,i,none⟩=some (zI (h (f+i) - 1)):=(Co k2 i).trans (k3 i hi)
 have l1:w.frozen? ⟨L,i,none⟩=false:=Fo k2 i
 have hge:=hk (f+i)
 obtain⟨Y,eY⟩:∃ Y,h (f+i) - 1=Y:=⟨_,rfl⟩
 have HY:Hid (h (f+i)=Y+1∧-1≤Y∧Y≤64):=⟨by omega,by omega,by omega⟩
 rw [eY] at l0
 have hs1:(f:Int)+(i:Int) - (f:Int)=(i:Int):=by omega
 have hi':(i:Int) < (n:Int):=by omega
 have HMB:Hid (∀ b,Mv w (w.setCell ⟨C,2,none⟩ (.bool b)) (fun k=>k=C∨k=L)):=fun b=>(Mv.ofBelow (F:=fun k=>k=C∨k=L) (Below.refl _ w)).setCell (a:=⟨C,2,none⟩) (.inl (.inl rfl)) _
 have HML:Hid (Mv w (w.setCell ⟨L,i,none⟩ (zI x)) (fun k=>k=C∨k=L)):=(Mv.ofBelow (F:=fun k=>k=C∨k=L) (Below.refl _ w)).setCell (a:=⟨L,i,none⟩) (.inl (.inr rfl)) _
 have HNB:Hid (comeB h (f+i) x=false→Ht (w.setCell ⟨C,2,none⟩ (.bool true)) C L f n (Qj h (f+i) x) (bad || !comeB h (f+i) x)):=fun e=>by
  unfold Qj
  rw [e]
  simpa using HK.out.setBad true
 have HNY:Hid (comeB h (f+i) x=true→Ht (w.setCell ⟨L,i,none⟩ (zI x)) C L f n (Qj h (f+i) x) (bad || !comeB h (f+i) x)):=fun e=>by
  unfold Qj
  rw [e]
  simpa using HK.out.setL i hi x
 clear k k1 k2 k3 hk hge eY hi
 go_enter Tryz.func103,Tryz.ntmps103
 cases hA:decide (x < 0) with
 | true =>
  have HF:Hid (comeB h (f+i) x=false):=by have:=of_decide_eq_true hA; show _=_; unfold comeB Qb; simp; omega
  go_wp2_with fail
  try simp only [Exit.inBlock,Exit.then]
  refine bodyPost_ret (results_none rfl _ _ _) rfl ?_
  exact⟨rfl,HNB.out HF.out,HMB.out _⟩
 | false =>
  cases hB:decide (x > 64) with
  | true =>
   have HF:Hid (comeB h (f+i) x=false):=by have:=of_decide_eq_true hB; show _=_; unfold comeB Qb; simp; omega
   go_wp2_with fail
   try simp only [Exit.inBlock,Exit.then]
   refine bodyPost_ret (results_none rfl _ _ _) rfl ?_
   exact⟨rfl,HNB.out HF.out,HMB.out _⟩
  | false =>
   cases hC:decide (Y ≥ 0) with
   | false =>
    have HF:Hid (comeB h (f+i) x=true):=by
     have a1:=of_decide_eq_false hA; have a2:=of_decide_eq_false hB; have a3:=of_decide_eq_false hC; have a4:=HY.out
     show _=_; unfold comeB Qb; simp; omega
    go_wp2_with fail
    go_end0
    exact⟨rfl,HNY.out HF.out,HML.out⟩
   | true =>
    cases hD:(Y != x) with
    | true =>
     have HF:Hid (comeB h (f+i) x=false):=by
      have a3:=of_decide_eq_true hC; have a4:=HY.out; have a5:Y≠x:=by simpa using hD
      show _=_; unfold comeB Qb; simp; intro _ _; omega
     go_wp2_with fail
     try simp only [Exit.inBlock,Exit.then]
     refine bodyPost_ret (results_none rfl _ _ _) rfl ?_
     exact⟨rfl,HNB.out HF.out,HMB.out _⟩
    | false =>
     have HF:Hid (comeB h (f+i) x=true):=by
      have a1:=of_decide_eq_false hA; have a2:=of_decide_eq_false hB; have a4:=HY.out; have a5:Y=x:=by simpa using hD
      show _=_; unfold comeB Qb; simp; omega
     go_wp2_with fail
     go_end0
     exact⟨rfl,HNY.out HF.out,HML.out⟩
theorem QY {p:Prop}(h:p):Hid p:=h
theorem come_HD {h:Nat→Int}{a:Nat}{x:Int}(e:comeB h a x=true):comeH h a x=Qj h a x:=by
 unfold comeH Qj
 rw [if_pos e]
 unfold comeB at e
 simp only [Bool.and_eq_true] at e
 rw [if_pos e.1]
theorem go_one {h:Nat→Int}{g:Bool × (Nat→Int)}{q:Nat}{x Y need:Int}(hg:g=if decide (Y ≥ need) then (comeB h q x,comeH h q x) else (false,h)) :
  ((!comeB h q x) || decide (Y < need)) = !g.1∧(((!comeB h q x) || decide (Y < need))=false→Qj h q x=g.2):=by
 subst hg
 by_cases e:Y ≥ need
 ·have e':¬ Y < need:=by omega
  simp only [e,e',decide_true,decide_false,if_true,Bool.or_false]
  refine⟨by first | trivial | rfl,fun k=>?_⟩
  exact (come_HD (by simpa using k)).symm
 ·have e':Y < need:=by omega
  simp [e,e']
theorem go_two {h:Nat→Int}{g:Bool × (Nat→Int)}{p q:Nat}{x y Y:Int}(hg:g=and2 h p x q y) (hy:Y < 1→y < 0) :
  (((!comeB h p x) || !comeB (Qj h p x) q y) || decide (Y < 1)) = !g.1∧((((!comeB h p x) || !comeB (Qj h p x) q y) || decide (Y < 1))=false→Qj (Qj h p x) q y=g.2):=by
 subst hg
 unfold and2
 cases e1:comeB h p x with
 | false=>simp
 | true =>
  rw [come_HD e1]
  simp only [if_true,Bool.not_true,Bool.false_or]
  cases e2:comeB (Qj h p x) q y with
  | false=>simp
  | true =>
   have e3:¬ Y < 1:=fun k=>by
    have:=hy k
    unfold comeB Qb at e2
    simp at e2
    omega
   rw [come_HD e2]
   simp [e3]
theorem st_5a (w:World) (C L f n:Nat) (h:Nat→Int) (k:Ht w C L f n h false) (hk:HOk h) (i:Nat) (hi:i+1 < n) (hf:f≤4096) (hn:n≤4097) (d:InM) (Y:Int) (hY:h (f+i)=Y+1) (hY0:0≤Y) (h5:(d.k == 5)=true) (hA:decide (d.a≤3)=true) :
  Calls zG 104 #[zP C,.agg d.vals,zI ((f:Int)+i)] w fun e w'=>∃ h' b',e=.returned (.tuple #[])∧Ht w' C L f n h' b'∧b' = !(goF h d (f+i) Y).1∧(b'=false→h'=(goF h d (f+i) Y).2)∧HOk h'∧Mv w w' (fun k=>k=C∨k=L):=by
 have hb1:=Bn w (.cells d.vals 61)
 have hn1:=Hn w (.cells d.vals 61)
 obtain⟨W1,e1⟩:∃ W,w.alloc (.cells d.vals 61)=W:=⟨_,rfl⟩
 have E1:Hid (w.alloc (.cells d.vals 61)=W1):=e1
 rw [e1] at hb1 hn1
 have HB1:Hid (Below w§ w W1):=hb1
 have HN1:Hid (W1.heap[w§]? = some (.cells d.vals 61 (0,0))):=hn1
 have HK1:Hid (Ht W1 C L f n h false):=k.mv hb1
 have HOKK:Hid (HOk h):=hk
 obtain⟨cap,k1⟩:=HK1.out.c
 obtain⟨cs,k2,k3⟩:=HK1.out.l
 have c0:W1.cell? ⟨C,0,none⟩=some (zI f):=Co k1 0
 have c1:W1.cell? ⟨C,1,none⟩=some (.slice (some ⟨L,0,none⟩) n cap):=Co k1 1
 have l0:W1.cell? ⟨L,i,none⟩=some (zI Y):=by rw [← show h (f+i) - 1=Y by omega]; exact (Co k2 i).trans (k3 i (by omega))
 have hs1:(f:Int)+(i:Int) - (f:Int)=(i:Int):=by omega
 have hi':(i:Int) < (n:Int):=by omega
 have hY1:Y≤64:=by have:=hk (f+i); omega
 clear k1 k2 k3 k hk e1 hb1 hn1
 go_enter Tryz.func104,Tryz.ntmps104
 go_upto_region 1 with fail
 rw [E1.out]
 clear E1
 go_quiet (fail)
 have HKV:Hid (Ht (W1.drewN nq) C L f n h false):=HK1.out.mv ⟨rfl,rfl,rfl,Nat.le_refl _,fun _ _=>rfl⟩
 have HNV:Hid ((W1.drewN nq).heap[w§]? = some (.cells d.vals 61 (0,0))):=HN1.out
 have HMV:Hid (Mv w (W1.drewN nq) (fun k=>k=C∨k=L)):=Mv.ofBelow (Qz HB1.out _)
 generalize W1.drewN nq=V at HKV HNV HMV ⊢
 clear HN1 HK1 HB1 c0 c1 l0 hs1 hi'
 obtain⟨d0,d1⟩:=cl2 HNV.out
 have a1:(f:Int)+(i:Int)+1≤9223372036854775807:=by omega
 have a2:Y+1≤9223372036854775807:=by omega
 have cA:=fun (v:World) (h':Nat→Int) (b':Bool) (kk:Ht v C L f n h' b') (ok:HOk h') (x:Int)=>QU v C L f n h' b' kk ok (i+1) hi hf hn x
 rw [show (f:Int)+((i+1:Nat):Int)=(f:Int)+(i:Int)+1 by omega] at cA
 have HG1:=QY (go_one (h:=h) (g:=goF h d (f+i) Y) (q:=f+(i+1)) (x:=Y) (Y:=Y) (need:=1) (by unfold goF; rw [h5,hA]; simp only [if_true]; rfl))
 clear hY 
 go_wp2_with fail
 refine (cA V h false HKV.out HOKK.out (Y)).mono ?_
 rintro e w5 ⟨rfl,hK5,hM5⟩
 have HK5:Hid (Ht w5 C L f n (Qj h (f+(i+1)) (Y)) (false || !comeB h (f+(i+1)) (Y))):=hK5
 have HM5:Hid (Mv w w5 (fun k=>k=C∨k=L)):=HMV.out.trans hM5 (fun _ e=>.inl e)
 clear hK5 hM5
 rw [Bool.false_or] at HK5
 obtain⟨cap,q1⟩:=HK5.out.c
 obtain⟨bb,ebb⟩:∃ b,(!comeB h (f+(i+1)) (Y))=b:=⟨_,rfl⟩
 rw [ebb] at q1 HG1
 have HK5b:Hid (Ht w5 C L f n (Qj h (f+(i+1)) (Y)) bb):=by rw [← ebb]; exact HK5.out
 have cb:w5.cell? ⟨C,2,none⟩=some (.bool bb):=Co q1 2
 have fb:=Fo q1 2
 clear q1 ebb HK5 cA
 cases bb with
 | true =>
  go_wp2_with fail
  go_end0
  have HT1:=HG1.out.1
  rw [Bool.true_or] at HT1
  refine⟨Qj h (f+(i+1)) (Y),true,rfl,?_,HT1,fun e=>(by cases e),Qw HOKK.out _ _,?_⟩
  ·exact HK5b.out.setBad true
  ·exact HM5.out.setCell (a:=⟨C,2,none⟩) (.inl (.inl rfl)) _
 | false =>
  have HS:=HK5b.out.setBad (decide (Y < 1))
  have HS':Hid (Ht (w5.setCell ⟨C,2,none⟩ (.bool (decide (Y < 1)))) C L f n (Qj h (f+(i+1)) (Y)) (decide (Y < 1))):=HS
  clear HS
  go_wp2_with fail
  go_end0
  have HT1:=HG1.out.1
  have HT2:=HG1.out.2
  rw [Bool.false_or] at HT1 HT2
  refine⟨Qj h (f+(i+1)) (Y),decide (Y < 1),rfl,?_,HT1,HT2,Qw HOKK.out _ _,?_⟩
  ·exact HS'.out
  ·exact HM5.out.setCell (a:=⟨C,2,none⟩) (.inl (.inl rfl)) _
theorem st_5b (w:World) (C L f n:Nat) (h:Nat→Int) (k:Ht w C L f n h false) (hk:HOk h) (i:Nat) (hi:i+1 < n) (hf:f≤4096) (hn:n≤4097) (d:InM) (Y:Int) (hY:h (f+i)=Y+1) (hY0:0≤Y) (h5:(d.k == 5)=true) (hA:decide (d.a≤3)=false) :
  Calls zG 104 #[zP C,.agg d.vals,zI ((f:Int)+i)] w fun e w'=>∃ h' b',e=.returned (.tuple #[])∧Ht w' C L f n h' b'∧b' = !(goF h d (f+i) Y).1∧(b'=false→h'=(goF h d (f+i) Y).2)∧HOk h'∧Mv w w' (fun k=>k=C∨k=L):=by
 have hb1:=Bn w (.cells d.vals 61)
 have hn1:=Hn w (.cells d.vals 61)
 obtain⟨W1,e1⟩:∃ W,w.alloc (.cells d.vals 61)=W:=⟨_,rfl⟩
 have E1:Hid (w.alloc (.cells d.vals 61)=W1):=e1
 rw [e1] at hb1 hn1
 have HB1:Hid (Below w§ w W1):=hb1
 have HN1:Hid (W1.heap[w§]? = some (.cells d.vals 61 (0,0))):=hn1
 have HK1:Hid (Ht W1 C L f n h false):=k.mv hb1
 have HOKK:Hid (HOk h):=hk
 obtain⟨cap,k1⟩:=HK1.out.c
 obtain⟨cs,k2,k3⟩:=HK1.out.l
 have c0:W1.cell? ⟨C,0,none⟩=some (zI f):=Co k1 0
 have c1:W1.cell? ⟨C,1,none⟩=some (.slice (some ⟨L,0,none⟩) n cap):=Co k1 1
 have l0:W1.cell? ⟨L,i,none⟩=some (zI Y):=by rw [← show h (f+i) - 1=Y by omega]; exact (Co k2 i).trans (k3 i (by omega))
 have hs1:(f:Int)+(i:Int) - (f:Int)=(i:Int):=by omega
 have hi':(i:Int) < (n:Int):=by omega
 have hY1:Y≤64:=by have:=hk (f+i); omega
 clear k1 k2 k3 k hk e1 hb1 hn1
 go_enter Tryz.func104,Tryz.ntmps104
 go_upto_region 1 with fail
 rw [E1.out]
 clear E1
 go_quiet (fail)
 have HKV:Hid (Ht (W1.drewN nq) C L f n h false):=HK1.out.mv ⟨rfl,rfl,rfl,Nat.le_refl _,fun _ _=>rfl⟩
 have HNV:Hid ((W1.drewN nq).heap[w§]? = some (.cells d.vals 61 (0,0))):=HN1.out
 have HMV:Hid (Mv w (W1.drewN nq) (fun k=>k=C∨k=L)):=Mv.ofBelow (Qz HB1.out _)
 generalize W1.drewN nq=V at HKV HNV HMV ⊢
 clear HN1 HK1 HB1 c0 c1 l0 hs1 hi'
 obtain⟨d0,d1⟩:=cl2 HNV.out
 have a1:(f:Int)+(i:Int)+1≤9223372036854775807:=by omega
 have a2:Y+1≤9223372036854775807:=by omega
 have cA:=fun (v:World) (h':Nat→Int) (b':Bool) (kk:Ht v C L f n h' b') (ok:HOk h') (x:Int)=>QU v C L f n h' b' kk ok (i+1) hi hf hn x
 rw [show (f:Int)+((i+1:Nat):Int)=(f:Int)+(i:Int)+1 by omega] at cA
 have HG1:=QY (go_one (h:=h) (g:=goF h d (f+i) Y) (q:=f+(i+1)) (x:=Y+1 - 2) (Y:=Y) (need:=2) (by unfold goF; rw [h5,hA,show Y+1 - 2=Y - 1 by omega]; simp only [if_true]; rfl))
 clear hY 
 go_wp2_with fail
 refine (cA V h false HKV.out HOKK.out (Y+1 - 2)).mono ?_
 rintro e w5 ⟨rfl,hK5,hM5⟩
 have HK5:Hid (Ht w5 C L f n (Qj h (f+(i+1)) (Y+1 - 2)) (false || !comeB h (f+(i+1)) (Y+1 - 2))):=hK5
 have HM5:Hid (Mv w w5 (fun k=>k=C∨k=L)):=HMV.out.trans hM5 (fun _ e=>.inl e)
 clear hK5 hM5
 rw [Bool.false_or] at HK5
 obtain⟨cap,q1⟩:=HK5.out.c
 obtain⟨bb,ebb⟩:∃ b,(!comeB h (f+(i+1)) (Y+1 - 2))=b:=⟨_,rfl⟩
 rw [ebb] at q1 HG1
 have HK5b:Hid (Ht w5 C L f n (Qj h (f+(i+1)) (Y+1 - 2)) bb):=by rw [← ebb]; exact HK5.out
 have cb:w5.cell? ⟨C,2,none⟩=some (.bool bb):=Co q1 2
 have fb:=Fo q1 2
 clear q1 ebb HK5 cA
 cases bb with
 | true =>
  go_wp2_with fail
  go_end0
  have HT1:=HG1.out.1
  rw [Bool.true_or] at HT1
  refine⟨Qj h (f+(i+1)) (Y+1 - 2),true,rfl,?_,HT1,fun e=>(by cases e),Qw HOKK.out _ _,?_⟩
  ·exact HK5b.out.setBad true
  ·exact HM5.out.setCell (a:=⟨C,2,none⟩) (.inl (.inl rfl)) _
 | false =>
  have HS:=HK5b.out.setBad (decide (Y < 2))
  have HS':Hid (Ht (w5.setCell ⟨C,2,none⟩ (.bool (decide (Y < 2)))) C L f n (Qj h (f+(i+1)) (Y+1 - 2)) (decide (Y < 2))):=HS
  clear HS
  go_wp2_with fail
  go_end0
  have HT1:=HG1.out.1
  have HT2:=HG1.out.2
  rw [Bool.false_or] at HT1 HT2
  refine⟨Qj h (f+(i+1)) (Y+1 - 2),decide (Y < 2),rfl,?_,HT1,HT2,Qw HOKK.out _ _,?_⟩
  ·exact HS'.out
  ·exact HM5.out.setCell (a:=⟨C,2,none⟩) (.inl (.inl rfl)) _
theorem st_6 (w:World) (C L f n:Nat) (h:Nat→Int) (k:Ht w C L f n h false) (hk:HOk h) (i:Nat) (hi:i+1 < n) (hf:f≤4096) (hn:n≤4097) (d:InM) (Y:Int) (hY:h (f+i)=Y+1) (hY0:0≤Y) (h5:(d.k == 5)=false) (h6:(d.k == 6)=true) (m:Nat) (hm:m < n) (hma:d.a=(f:Int)+m) :
  Calls zG 104 #[zP C,.agg d.vals,zI ((f:Int)+i)] w fun e w'=>∃ h' b',e=.returned (.tuple #[])∧Ht w' C L f n h' b'∧b' = !(goF h d (f+i) Y).1∧(b'=false→h'=(goF h d (f+i) Y).2)∧HOk h'∧Mv w w' (fun k=>k=C∨k=L):=by
 have hb1:=Bn w (.cells d.vals 61)
 have hn1:=Hn w (.cells d.vals 61)
 obtain⟨W1,e1⟩:∃ W,w.alloc (.cells d.vals 61)=W:=⟨_,rfl⟩
 have E1:Hid (w.alloc (.cells d.vals 61)=W1):=e1
 rw [e1] at hb1 hn1
 have HB1:Hid (Below w§ w W1):=hb1
 have HN1:Hid (W1.heap[w§]? = some (.cells d.vals 61 (0,0))):=hn1
 have HK1:Hid (Ht W1 C L f n h false):=k.mv hb1
 have HOKK:Hid (HOk h):=hk
 obtain⟨cap,k1⟩:=HK1.out.c
 obtain⟨cs,k2,k3⟩:=HK1.out.l
 have c0:W1.cell? ⟨C,0,none⟩=some (zI f):=Co k1 0
 have c1:W1.cell? ⟨C,1,none⟩=some (.slice (some ⟨L,0,none⟩) n cap):=Co k1 1
 have l0:W1.cell? ⟨L,i,none⟩=some (zI Y):=by rw [← show h (f+i) - 1=Y by omega]; exact (Co k2 i).trans (k3 i (by omega))
 have hs1:(f:Int)+(i:Int) - (f:Int)=(i:Int):=by omega
 have hi':(i:Int) < (n:Int):=by omega
 have hY1:Y≤64:=by have:=hk (f+i); omega
 clear k1 k2 k3 k hk e1 hb1 hn1
 go_enter Tryz.func104,Tryz.ntmps104
 go_upto_region 1 with fail
 rw [E1.out]
 clear E1
 go_quiet (fail)
 have HKV:Hid (Ht (W1.drewN nq) C L f n h false):=HK1.out.mv ⟨rfl,rfl,rfl,Nat.le_refl _,fun _ _=>rfl⟩
 have HNV:Hid ((W1.drewN nq).heap[w§]? = some (.cells d.vals 61 (0,0))):=HN1.out
 have HMV:Hid (Mv w (W1.drewN nq) (fun k=>k=C∨k=L)):=Mv.ofBelow (Qz HB1.out _)
 generalize W1.drewN nq=V at HKV HNV HMV ⊢
 clear HN1 HK1 HB1 c0 c1 l0 hs1 hi'
 obtain⟨d0,d1⟩:=cl2 HNV.out
 have a1:(f:Int)+(i:Int)+1≤9223372036854775807:=by omega
 have a2:Y+1≤9223372036854775807:=by omega
 have cA:=fun (v:World) (h':Nat→Int) (b':Bool) (kk:Ht v C L f n h' b') (ok:HOk h') (x:Int)=>QU v C L f n h' b' kk ok (i+1) hi hf hn x
 rw [show (f:Int)+((i+1:Nat):Int)=(f:Int)+(i:Int)+1 by omega] at cA
 have cJ:=fun (v:World) (h':Nat→Int) (b':Bool) (kk:Ht v C L f n h' b') (ok:HOk h') (x:Int)=>QU v C L f n h' b' kk ok m hm hf hn x
 rw [← hma] at cJ
 have HG1:=QY (go_two (h:=h) (g:=goF h d (f+i) Y) (p:=f+m) (q:=f+(i+1)) (x:=Y) (y:=Y - 1) (Y:=Y) (by unfold goF; rw [h5,h6,show d.a.toNat=f+m by omega]; rfl) (by omega))
 clear hY hma hm
 go_wp2_with fail
 refine (cJ V h false HKV.out HOKK.out Y).mono ?_
 rintro e w5 ⟨rfl,hK5,hM5⟩
 have HK5:Hid (Ht w5 C L f n (Qj h (f+m) Y) (false || !comeB h (f+m) Y)):=hK5
 have HM5:Hid (Mv w w5 (fun k=>k=C∨k=L)):=HMV.out.trans hM5 (fun _ e=>.inl e)
 clear hK5 hM5
 go_wp2_with fail
 refine (cA w5 _ _ HK5.out (Qw HOKK.out _ _) (Y - 1)).mono ?_
 rintro e w6 ⟨rfl,hK6,hM6⟩
 have HK6:Hid (Ht w6 C L f n (Qj (Qj h (f+m) Y) (f+(i+1)) (Y - 1)) ((false || !comeB h (f+m) Y) || !comeB (Qj h (f+m) Y) (f+(i+1)) (Y - 1))):=hK6
 have HM6:Hid (Mv w w6 (fun k=>k=C∨k=L)):=HM5.out.trans hM6 (fun _ e=>.inl e)
 clear hK6 hM6 HK5 HM5
 rw [Bool.false_or] at HK6
 obtain⟨cap,q1⟩:=HK6.out.c
 obtain⟨bb,ebb⟩:∃ b,((!comeB h (f+m) Y) || !comeB (Qj h (f+m) Y) (f+(i+1)) (Y - 1))=b:=⟨_,rfl⟩
 rw [ebb] at q1 HG1
 have HK6b:Hid (Ht w6 C L f n (Qj (Qj h (f+m) Y) (f+(i+1)) (Y - 1)) bb):=by rw [← ebb]; exact HK6.out
 have cb:w6.cell? ⟨C,2,none⟩=some (.bool bb):=Co q1 2
 have fb:=Fo q1 2
 clear q1 ebb HK6 cA cJ
 cases bb with
 | true =>
  go_wp2_with fail
  go_end0
  have HT1:=HG1.out.1
  rw [Bool.true_or] at HT1
  refine⟨Qj (Qj h (f+m) Y) (f+(i+1)) (Y - 1),true,rfl,?_,HT1,fun e=>(by cases e),Qw (Qw HOKK.out _ _) _ _,?_⟩
  ·exact HK6b.out.setBad true
  ·exact HM6.out.setCell (a:=⟨C,2,none⟩) (.inl (.inl rfl)) _
 | false =>
  have HS:=HK6b.out.setBad (decide (Y < 1))
  have HS':Hid (Ht (w6.setCell ⟨C,2,none⟩ (.bool (decide (Y < 1)))) C L f n (Qj (Qj h (f+m) Y) (f+(i+1)) (Y - 1)) (decide (Y < 1))):=HS
  clear HS
  go_wp2_with fail
  go_end0
  have HT1:=HG1.out.1
  have HT2:=HG1.out.2
  rw [Bool.false_or] at HT1 HT2
  refine⟨Qj (Qj h (f+m) Y) (f+(i+1)) (Y - 1),decide (Y < 1),rfl,?_,HT1,HT2,Qw (Qw HOKK.out _ _) _ _,?_⟩
  ·exact HS'.out
  ·exact HM6.out.setCell (a:=⟨C,2,none⟩) (.inl (.inl rfl)) _
theorem st_7 (w:World) (C L f n:Nat) (h:Nat→Int) (k:Ht w C L f n h false) (hk:HOk h) (i:Nat) (hi:i+1 < n) (hf:f≤4096) (hn:n≤4097) (d:InM) (Y:Int) (hY:h (f+i)=Y+1) (hY0:0≤Y) (h5:(d.k == 5)=false) (h6:(d.k == 6)=false) (h7:(d.k == 7)=true) (m:Nat) (hm:m < n) (hma:d.a=(f:Int)+m) :
  Calls zG 104 #[zP C,.agg d.vals,zI ((f:Int)+i)] w fun e w'=>∃ h' b',e=.returned (.tuple #[])∧Ht w' C L f n h' b'∧b' = !(goF h d (f+i) Y).1∧(b'=false→h'=(goF h d (f+i) Y).2)∧HOk h'∧Mv w w' (fun k=>k=C∨k=L):=by
 have hb1:=Bn w (.cells d.vals 61)
 have hn1:=Hn w (.cells d.vals 61)
 obtain⟨W1,e1⟩:∃ W,w.alloc (.cells d.vals 61)=W:=⟨_,rfl⟩
 have E1:Hid (w.alloc (.cells d.vals 61)=W1):=e1
 rw [e1] at hb1 hn1
 have HB1:Hid (Below w§ w W1):=hb1
 have HN1:Hid (W1.heap[w§]? = some (.cells d.vals 61 (0,0))):=hn1
 have HK1:Hid (Ht W1 C L f n h false):=k.mv hb1
 have HOKK:Hid (HOk h):=hk
 obtain⟨cap,k1⟩:=HK1.out.c
 obtain⟨cs,k2,k3⟩:=HK1.out.l
 have c0:W1.cell? ⟨C,0,none⟩=some (zI f):=Co k1 0
 have c1:W1.cell? ⟨C,1,none⟩=some (.slice (some ⟨L,0,none⟩) n cap):=Co k1 1
 have l0:W1.cell? ⟨L,i,none⟩=some (zI Y):=by rw [← show h (f+i) - 1=Y by omega]; exact (Co k2 i).trans (k3 i (by omega))
 have hs1:(f:Int)+(i:Int) - (f:Int)=(i:Int):=by omega
 have hi':(i:Int) < (n:Int):=by omega
 have hY1:Y≤64:=by have:=hk (f+i); omega
 clear k1 k2 k3 k hk e1 hb1 hn1
 go_enter Tryz.func104,Tryz.ntmps104
 go_upto_region 1 with fail
 rw [E1.out]
 clear E1
 go_quiet (fail)
 have HKV:Hid (Ht (W1.drewN nq) C L f n h false):=HK1.out.mv ⟨rfl,rfl,rfl,Nat.le_refl _,fun _ _=>rfl⟩
 have HNV:Hid ((W1.drewN nq).heap[w§]? = some (.cells d.vals 61 (0,0))):=HN1.out
 have HMV:Hid (Mv w (W1.drewN nq) (fun k=>k=C∨k=L)):=Mv.ofBelow (Qz HB1.out _)
 generalize W1.drewN nq=V at HKV HNV HMV ⊢
 clear HN1 HK1 HB1 c0 c1 l0 hs1 hi'
 obtain⟨d0,d1⟩:=cl2 HNV.out
 have a1:(f:Int)+(i:Int)+1≤9223372036854775807:=by omega
 have a2:Y+1≤9223372036854775807:=by omega
 have cA:=fun (v:World) (h':Nat→Int) (b':Bool) (kk:Ht v C L f n h' b') (ok:HOk h') (x:Int)=>QU v C L f n h' b' kk ok (i+1) hi hf hn x
 rw [show (f:Int)+((i+1:Nat):Int)=(f:Int)+(i:Int)+1 by omega] at cA
 have cJ:=fun (v:World) (h':Nat→Int) (b':Bool) (kk:Ht v C L f n h' b') (ok:HOk h') (x:Int)=>QU v C L f n h' b' kk ok m hm hf hn x
 rw [← hma] at cJ
 have HG1:=QY (go_two (h:=h) (g:=goF h d (f+i) Y) (p:=f+m) (q:=f+(i+1)) (x:=Y) (y:=Y - 1) (Y:=Y) (by unfold goF; rw [h5,h6,h7,show d.a.toNat=f+m by omega]; rfl) (by omega))
 clear hY hma hm
 go_wp2_with fail
 refine (cJ V h false HKV.out HOKK.out Y).mono ?_
 rintro e w5 ⟨rfl,hK5,hM5⟩
 have HK5:Hid (Ht w5 C L f n (Qj h (f+m) Y) (false || !comeB h (f+m) Y)):=hK5
 have HM5:Hid (Mv w w5 (fun k=>k=C∨k=L)):=HMV.out.trans hM5 (fun _ e=>.inl e)
 clear hK5 hM5
 go_wp2_with fail
 refine (cA w5 _ _ HK5.out (Qw HOKK.out _ _) (Y - 1)).mono ?_
 rintro e w6 ⟨rfl,hK6,hM6⟩
 have HK6:Hid (Ht w6 C L f n (Qj (Qj h (f+m) Y) (f+(i+1)) (Y - 1)) ((false || !comeB h (f+m) Y) || !comeB (Qj h (f+m) Y) (f+(i+1)) (Y - 1))):=hK6
 have HM6:Hid (Mv w w6 (fun k=>k=C∨k=L)):=HM5.out.trans hM6 (fun _ e=>.inl e)
 clear hK6 hM6 HK5 HM5
 rw [Bool.false_or] at HK6
 obtain⟨cap,q1⟩:=HK6.out.c
 obtain⟨bb,ebb⟩:∃ b,((!comeB h (f+m) Y) || !comeB (Qj h (f+m) Y) (f+(i+1)) (Y - 1))=b:=⟨_,rfl⟩
 rw [ebb] at q1 HG1
 have HK6b:Hid (Ht w6 C L f n (Qj (Qj h (f+m) Y) (f+(i+1)) (Y - 1)) bb):=by rw [← ebb]; exact HK6.out
 have cb:w6.cell? ⟨C,2,none⟩=some (.bool bb):=Co q1 2
 have fb:=Fo q1 2
 clear q1 ebb HK6 cA cJ
 cases bb with
 | true =>
  go_wp2_with fail
  go_end0
  have HT1:=HG1.out.1
  rw [Bool.true_or] at HT1
  refine⟨Qj (Qj h (f+m) Y) (f+(i+1)) (Y - 1),true,rfl,?_,HT1,fun e=>(by cases e),Qw (Qw HOKK.out _ _) _ _,?_⟩
  ·exact HK6b.out.setBad true
  ·exact HM6.out.setCell (a:=⟨C,2,none⟩) (.inl (.inl rfl)) _
 | false =>
  have HS:=HK6b.out.setBad (decide (Y < 1))
  have HS':Hid (Ht (w6.setCell ⟨C,2,none⟩ (.bool (decide (Y < 1)))) C L f n (Qj (Qj h (f+m) Y) (f+(i+1)) (Y - 1)) (decide (Y < 1))):=HS
  clear HS
  go_wp2_with fail
  go_end0
  have HT1:=HG1.out.1
  have HT2:=HG1.out.2
  rw [Bool.false_or] at HT1 HT2
  refine⟨Qj (Qj h (f+m) Y) (f+(i+1)) (Y - 1),decide (Y < 1),rfl,?_,HT1,HT2,Qw (Qw HOKK.out _ _) _ _,?_⟩
  ·exact HS'.out
  ·exact HM6.out.setCell (a:=⟨C,2,none⟩) (.inl (.inl rfl)) _
theorem st_8 (w:World) (C L f n:Nat) (h:Nat→Int) (k:Ht w C L f n h false) (hk:HOk h) (i:Nat) (hi:i+1 < n) (hf:f≤4096) (hn:n≤4097) (d:InM) (Y:Int) (hY:h (f+i)=Y+1) (hY0:0≤Y) (h5:(d.k == 5)=false) (h6:(d.k == 6)=false) (h7:(d.k == 7)=false) (h8:(d.k == 8)=true) (m:Nat) (hm:m < n) (hma:d.a=(f:Int)+m) :
  Calls zG 104 #[zP C,.agg d.vals,zI ((f:Int)+i)] w fun e w'=>∃ h' b',e=.returned (.tuple #[])∧Ht w' C L f n h' b'∧b' = !(goF h d (f+i) Y).1∧(b'=false→h'=(goF h d (f+i) Y).2)∧HOk h'∧Mv w w' (fun k=>k=C∨k=L):=by
 have hb1:=Bn w (.cells d.vals 61)
 have hn1:=Hn w (.cells d.vals 61)
 obtain⟨W1,e1⟩:∃ W,w.alloc (.cells d.vals 61)=W:=⟨_,rfl⟩
 have E1:Hid (w.alloc (.cells d.vals 61)=W1):=e1
 rw [e1] at hb1 hn1
 have HB1:Hid (Below w§ w W1):=hb1
 have HN1:Hid (W1.heap[w§]? = some (.cells d.vals 61 (0,0))):=hn1
 have HK1:Hid (Ht W1 C L f n h false):=k.mv hb1
 have HOKK:Hid (HOk h):=hk
 obtain⟨cap,k1⟩:=HK1.out.c
 obtain⟨cs,k2,k3⟩:=HK1.out.l
 have c0:W1.cell? ⟨C,0,none⟩=some (zI f):=Co k1 0
 have c1:W1.cell? ⟨C,1,none⟩=some (.slice (some ⟨L,0,none⟩) n cap):=Co k1 1
 have l0:W1.cell? ⟨L,i,none⟩=some (zI Y):=by rw [← show h (f+i) - 1=Y by omega]; exact (Co k2 i).trans (k3 i (by omega))
 have hs1:(f:Int)+(i:Int) - (f:Int)=(i:Int):=by omega
 have hi':(i:Int) < (n:Int):=by omega
 have hY1:Y≤64:=by have:=hk (f+i); omega
 clear k1 k2 k3 k hk e1 hb1 hn1
 go_enter Tryz.func104,Tryz.ntmps104
 go_upto_region 1 with fail
 rw [E1.out]
 clear E1
 go_quiet (fail)
 have HKV:Hid (Ht (W1.drewN nq) C L f n h false):=HK1.out.mv ⟨rfl,rfl,rfl,Nat.le_refl _,fun _ _=>rfl⟩
 have HNV:Hid ((W1.drewN nq).heap[w§]? = some (.cells d.vals 61 (0,0))):=HN1.out
 have HMV:Hid (Mv w (W1.drewN nq) (fun k=>k=C∨k=L)):=Mv.ofBelow (Qz HB1.out _)
 generalize W1.drewN nq=V at HKV HNV HMV ⊢
 clear HN1 HK1 HB1 c0 c1 l0 hs1 hi'
 obtain⟨d0,d1⟩:=cl2 HNV.out
 have a1:(f:Int)+(i:Int)+1≤9223372036854775807:=by omega
 have a2:Y+1≤9223372036854775807:=by omega
 have cA:=fun (v:World) (h':Nat→Int) (b':Bool) (kk:Ht v C L f n h' b') (ok:HOk h') (x:Int)=>QU v C L f n h' b' kk ok (i+1) hi hf hn x
 rw [show (f:Int)+((i+1:Nat):Int)=(f:Int)+(i:Int)+1 by omega] at cA
 have cJ:=fun (v:World) (h':Nat→Int) (b':Bool) (kk:Ht v C L f n h' b') (ok:HOk h') (x:Int)=>QU v C L f n h' b' kk ok m hm hf hn x
 rw [← hma] at cJ
 have HG1:=QY (go_two (h:=h) (g:=goF h d (f+i) Y) (p:=f+m) (q:=f+(i+1)) (x:=Y - 1) (y:=Y - 1) (Y:=Y) (by unfold goF; rw [h5,h6,h7,h8,show d.a.toNat=f+m by omega]; rfl) (by omega))
 clear hY hma hm
 go_wp2_with fail
 refine (cJ V h false HKV.out HOKK.out (Y - 1)).mono ?_
 rintro e w5 ⟨rfl,hK5,hM5⟩
 have HK5:Hid (Ht w5 C L f n (Qj h (f+m) (Y - 1)) (false || !comeB h (f+m) (Y - 1))):=hK5
 have HM5:Hid (Mv w w5 (fun k=>k=C∨k=L)):=HMV.out.trans hM5 (fun _ e=>.inl e)
 clear hK5 hM5
 go_wp2_with fail
 refine (cA w5 _ _ HK5.out (Qw HOKK.out _ _) (Y - 1)).mono ?_
 rintro e w6 ⟨rfl,hK6,hM6⟩
 have HK6:Hid (Ht w6 C L f n (Qj (Qj h (f+m) (Y - 1)) (f+(i+1)) (Y - 1)) ((false || !comeB h (f+m) (Y - 1)) || !comeB (Qj h (f+m) (Y - 1)) (f+(i+1)) (Y - 1))):=hK6
 have HM6:Hid (Mv w w6 (fun k=>k=C∨k=L)):=HM5.out.trans hM6 (fun _ e=>.inl e)
 clear hK6 hM6 HK5 HM5
 rw [Bool.false_or] at HK6
 obtain⟨cap,q1⟩:=HK6.out.c
 obtain⟨bb,ebb⟩:∃ b,((!comeB h (f+m) (Y - 1)) || !comeB (Qj h (f+m) (Y - 1)) (f+(i+1)) (Y - 1))=b:=⟨_,rfl⟩
 rw [ebb] at q1 HG1
 have HK6b:Hid (Ht w6 C L f n (Qj (Qj h (f+m) (Y - 1)) (f+(i+1)) (Y - 1)) bb):=by rw [← ebb]; exact HK6.out
 have cb:w6.cell? ⟨C,2,none⟩=some (.bool bb):=Co q1 2
 have fb:=Fo q1 2
 clear q1 ebb HK6 cA cJ
 cases bb with
 | true =>
  go_wp2_with fail
  go_end0
  have HT1:=HG1.out.1
  rw [Bool.true_or] at HT1
  refine⟨Qj (Qj h (f+m) (Y - 1)) (f+(i+1)) (Y - 1),true,rfl,?_,HT1,fun e=>(by cases e),Qw (Qw HOKK.out _ _) _ _,?_⟩
  ·exact HK6b.out.setBad true
  ·exact HM6.out.setCell (a:=⟨C,2,none⟩) (.inl (.inl rfl)) _
 | false =>
  have HS:=HK6b.out.setBad (decide (Y < 1))
  have HS':Hid (Ht (w6.setCell ⟨C,2,none⟩ (.bool (decide (Y < 1)))) C L f n (Qj (Qj h (f+m) (Y - 1)) (f+(i+1)) (Y - 1)) (decide (Y < 1))):=HS
  clear HS
  go_wp2_with fail
  go_end0
  have HT1:=HG1.out.1
  have HT2:=HG1.out.2
  rw [Bool.false_or] at HT1 HT2
  refine⟨Qj (Qj h (f+m) (Y - 1)) (f+(i+1)) (Y - 1),decide (Y < 1),rfl,?_,HT1,HT2,Qw (Qw HOKK.out _ _) _ _,?_⟩
  ·exact HS'.out
  ·exact HM6.out.setCell (a:=⟨C,2,none⟩) (.inl (.inl rfl)) _
theorem st_9 (w:World) (C L f n:Nat) (h:Nat→Int) (k:Ht w C L f n h false) (hk:HOk h) (i:Nat) (hi:i+1 < n) (hf:f≤4096) (hn:n≤4097) (d:InM) (Y:Int) (hY:h (f+i)=Y+1) (hY0:0≤Y) (h5:(d.k == 5)=false) (h6:(d.k == 6)=false) (h7:(d.k == 7)=false) (h8:(d.k == 8)=false) (h9:(d.k == 9)=true) (m:Nat) (hm:m < n) (hma:d.a=(f:Int)+m) :
  Calls zG 104 #[zP C,.agg d.vals,zI ((f:Int)+i)] w fun e w'=>∃ h' b',e=.returned (.tuple #[])∧Ht w' C L f n h' b'∧b' = !(goF h d (f+i) Y).1∧(b'=false→h'=(goF h d (f+i) Y).2)∧HOk h'∧Mv w w' (fun k=>k=C∨k=L):=by
 have hb1:=Bn w (.cells d.vals 61)
 have hn1:=Hn w (.cells d.vals 61)
 obtain⟨W1,e1⟩:∃ W,w.alloc (.cells d.vals 61)=W:=⟨_,rfl⟩
 have E1:Hid (w.alloc (.cells d.vals 61)=W1):=e1
 rw [e1] at hb1 hn1
 have HB1:Hid (Below w§ w W1):=hb1
 have HN1:Hid (W1.heap[w§]? = some (.cells d.vals 61 (0,0))):=hn1
 have HK1:Hid (Ht W1 C L f n h false):=k.mv hb1
 have HOKK:Hid (HOk h):=hk
 obtain⟨cap,k1⟩:=HK1.out.c
 obtain⟨cs,k2,k3⟩:=HK1.out.l
 have c0:W1.cell? ⟨C,0,none⟩=some (zI f):=Co k1 0
 have c1:W1.cell? ⟨C,1,none⟩=some (.slice (some ⟨L,0,none⟩) n cap):=Co k1 1
 have l0:W1.cell? ⟨L,i,none⟩=some (zI Y):=by rw [← show h (f+i) - 1=Y by omega]; exact (Co k2 i).trans (k3 i (by omega))
 have hs1:(f:Int)+(i:Int) - (f:Int)=(i:Int):=by omega
 have hi':(i:Int) < (n:Int):=by omega
 have hY1:Y≤64:=by have:=hk (f+i); omega
 clear k1 k2 k3 k hk e1 hb1 hn1
 go_enter Tryz.func104,Tryz.ntmps104
 go_upto_region 1 with fail
 rw [E1.out]
 clear E1
 go_quiet (fail)
 have HKV:Hid (Ht (W1.drewN nq) C L f n h false):=HK1.out.mv ⟨rfl,rfl,rfl,Nat.le_refl _,fun _ _=>rfl⟩
 have HNV:Hid ((W1.drewN nq).heap[w§]? = some (.cells d.vals 61 (0,0))):=HN1.out
 have HMV:Hid (Mv w (W1.drewN nq) (fun k=>k=C∨k=L)):=Mv.ofBelow (Qz HB1.out _)
 generalize W1.drewN nq=V at HKV HNV HMV ⊢
 clear HN1 HK1 HB1 c0 c1 l0 hs1 hi'
 obtain⟨d0,d1⟩:=cl2 HNV.out
 have a1:(f:Int)+(i:Int)+1≤9223372036854775807:=by omega
 have a2:Y+1≤9223372036854775807:=by omega
 have cJ:=fun (v:World) (h':Nat→Int) (b':Bool) (kk:Ht v C L f n h' b') (ok:HOk h') (x:Int)=>QU v C L f n h' b' kk ok m hm hf hn x
 rw [← hma] at cJ
 have HG1:=QY (go_one (h:=h) (g:=goF h d (f+i) Y) (q:=f+m) (x:=Y) (Y:=Y) (need:=0) (by unfold goF; rw [h5,h6,h7,h8,h9,show d.a.toNat=f+m by omega,decide_eq_true (show Y ≥ 0 from hY0)]; rfl))
 clear hY hma hm
 go_wp2_with fail
 refine (cJ V h false HKV.out HOKK.out Y).mono ?_
 rintro e w5 ⟨rfl,hK5,hM5⟩
 have HK5:Hid (Ht w5 C L f n (Qj h (f+m) Y) (false || !comeB h (f+m) Y)):=hK5
 have HM5:Hid (Mv w w5 (fun k=>k=C∨k=L)):=HMV.out.trans hM5 (fun _ e=>.inl e)
 clear hK5 hM5
 rw [Bool.false_or] at HK5
 obtain⟨cap,q1⟩:=HK5.out.c
 obtain⟨bb,ebb⟩:∃ b,(!comeB h (f+m) Y)=b:=⟨_,rfl⟩
 rw [ebb] at q1 HG1
 have HK5b:Hid (Ht w5 C L f n (Qj h (f+m) Y) bb):=by rw [← ebb]; exact HK5.out
 have cb:w5.cell? ⟨C,2,none⟩=some (.bool bb):=Co q1 2
 have fb:=Fo q1 2
 clear q1 ebb HK5 cJ
 cases bb with
 | true =>
  go_wp2_with fail
  go_end0
  have HT1:=HG1.out.1
  rw [Bool.true_or] at HT1
  refine⟨Qj h (f+m) Y,true,rfl,?_,HT1,fun e=>(by cases e),Qw HOKK.out _ _,?_⟩
  ·exact HK5b.out.setBad true
  ·exact HM5.out.setCell (a:=⟨C,2,none⟩) (.inl (.inl rfl)) _
 | false =>
  have HS:=HK5b.out.setBad (decide (Y < 0))
  have HS':Hid (Ht (w5.setCell ⟨C,2,none⟩ (.bool (decide (Y < 0)))) C L f n (Qj h (f+m) Y) (decide (Y < 0))):=HS
  clear HS
  go_wp2_with fail
  go_end0
  have HT1:=HG1.out.1
  have HT2:=HG1.out.2
  rw [Bool.false_or] at HT1 HT2
  refine⟨Qj h (f+m) Y,decide (Y < 0),rfl,?_,HT1,HT2,Qw HOKK.out _ _,?_⟩
  ·exact HS'.out
  ·exact HM5.out.setCell (a:=⟨C,2,none⟩) (.inl (.inl rfl)) _
theorem st_0 (w:World) (C L f n:Nat) (h:Nat→Int) (k:Ht w C L f n h false) (hk:HOk h) (i:Nat) (hi:i+1 < n) (hf:f≤4096) (hn:n≤4097) (d:InM) (Y:Int) (hY:h (f+i)=Y+1) (hY0:0≤Y) (h5:(d.k == 5)=false) (h6:(d.k == 6)=false) (h7:(d.k == 7)=false) (h8:(d.k == 8)=false) (h9:(d.k == 9)=false) :
  Calls zG 104 #[zP C,.agg d.vals,zI ((f:Int)+i)] w fun e w'=>∃ h' b',e=.returned (.tuple #[])∧Ht w' C L f n h' b'∧b' = !(goF h d (f+i) Y).1∧(b'=false→h'=(goF h d (f+i) Y).2)∧HOk h'∧Mv w w' (fun k=>k=C∨k=L):=by
 have hb1:=Bn w (.cells d.vals 61)
 have hn1:=Hn w (.cells d.vals 61)
 obtain⟨W1,e1⟩:∃ W,w.alloc (.cells d.vals 61)=W:=⟨_,rfl⟩
 have E1:Hid (w.alloc (.cells d.vals 61)=W1):=e1
 rw [e1] at hb1 hn1
 have HB1:Hid (Below w§ w W1):=hb1
 have HN1:Hid (W1.heap[w§]? = some (.cells d.vals 61 (0,0))):=hn1
 have HK1:Hid (Ht W1 C L f n h false):=k.mv hb1
 have HOKK:Hid (HOk h):=hk
 obtain⟨cap,k1⟩:=HK1.out.c
 obtain⟨cs,k2,k3⟩:=HK1.out.l
 have c0:W1.cell? ⟨C,0,none⟩=some (zI f):=Co k1 0
 have c1:W1.cell? ⟨C,1,none⟩=some (.slice (some ⟨L,0,none⟩) n cap):=Co k1 1
 have l0:W1.cell? ⟨L,i,none⟩=some (zI Y):=by rw [← show h (f+i) - 1=Y by omega]; exact (Co k2 i).trans (k3 i (by omega))
 have hs1:(f:Int)+(i:Int) - (f:Int)=(i:Int):=by omega
 have hi':(i:Int) < (n:Int):=by omega
 have hY1:Y≤64:=by have:=hk (f+i); omega
 clear k1 k2 k3 k hk e1 hb1 hn1
 go_enter Tryz.func104,Tryz.ntmps104
 go_upto_region 1 with fail
 rw [E1.out]
 clear E1
 go_quiet (fail)
 have HKV:Hid (Ht (W1.drewN nq) C L f n h false):=HK1.out.mv ⟨rfl,rfl,rfl,Nat.le_refl _,fun _ _=>rfl⟩
 have HNV:Hid ((W1.drewN nq).heap[w§]? = some (.cells d.vals 61 (0,0))):=HN1.out
 have HMV:Hid (Mv w (W1.drewN nq) (fun k=>k=C∨k=L)):=Mv.ofBelow (Qz HB1.out _)
 generalize W1.drewN nq=V at HKV HNV HMV ⊢
 clear HN1 HK1 HB1 c0 c1 l0 hs1 hi'
 obtain⟨d0,d1⟩:=cl2 HNV.out
 have a1:(f:Int)+(i:Int)+1≤9223372036854775807:=by omega
 have a2:Y+1≤9223372036854775807:=by omega
 have cA:=fun (v:World) (h':Nat→Int) (b':Bool) (kk:Ht v C L f n h' b') (ok:HOk h') (x:Int)=>QU v C L f n h' b' kk ok (i+1) hi hf hn x
 rw [show (f:Int)+((i+1:Nat):Int)=(f:Int)+(i:Int)+1 by omega] at cA
 have HG1:=QY (go_one (h:=h) (g:=goF h d (f+i) Y) (q:=f+(i+1)) (x:=Y+1) (Y:=Y) (need:=0) (by unfold goF; rw [h5,h6,h7,h8,h9,decide_eq_true (show Y ≥ 0 from hY0)]; rfl))
 clear hY 
 go_wp2_with fail
 refine (cA V h false HKV.out HOKK.out (Y+1)).mono ?_
 rintro e w5 ⟨rfl,hK5,hM5⟩
 have HK5:Hid (Ht w5 C L f n (Qj h (f+(i+1)) (Y+1)) (false || !comeB h (f+(i+1)) (Y+1))):=hK5
 have HM5:Hid (Mv w w5 (fun k=>k=C∨k=L)):=HMV.out.trans hM5 (fun _ e=>.inl e)
 clear hK5 hM5
 rw [Bool.false_or] at HK5
 obtain⟨cap,q1⟩:=HK5.out.c
 obtain⟨bb,ebb⟩:∃ b,(!comeB h (f+(i+1)) (Y+1))=b:=⟨_,rfl⟩
 rw [ebb] at q1 HG1
 have HK5b:Hid (Ht w5 C L f n (Qj h (f+(i+1)) (Y+1)) bb):=by rw [← ebb]; exact HK5.out
 have cb:w5.cell? ⟨C,2,none⟩=some (.bool bb):=Co q1 2
 have fb:=Fo q1 2
 clear q1 ebb HK5 cA
 cases bb with
 | true =>
  go_wp2_with fail
  go_end0
  have HT1:=HG1.out.1
  rw [Bool.true_or] at HT1
  refine⟨Qj h (f+(i+1)) (Y+1),true,rfl,?_,HT1,fun e=>(by cases e),Qw HOKK.out _ _,?_⟩
  ·exact HK5b.out.setBad true
  ·exact HM5.out.setCell (a:=⟨C,2,none⟩) (.inl (.inl rfl)) _
 | false =>
  have HS:=HK5b.out.setBad (decide (Y < 0))
  have HS':Hid (Ht (w5.setCell ⟨C,2,none⟩ (.bool (decide (Y < 0)))) C L f n (Qj h (f+(i+1)) (Y+1)) (decide (Y < 0))):=HS
  clear HS
  go_wp2_with fail
  go_end0
  have HT1:=HG1.out.1
  have HT2:=HG1.out.2
  rw [Bool.false_or] at HT1 HT2
  refine⟨Qj h (f+(i+1)) (Y+1),decide (Y < 0),rfl,?_,HT1,HT2,Qw HOKK.out _ _,?_⟩
  ·exact HS'.out
  ·exact HM5.out.setCell (a:=⟨C,2,none⟩) (.inl (.inl rfl)) _
theorem rstep_any (w:World) (C L f n:Nat) (h:Nat→Int) (k:Ht w C L f n h false) (hk:HOk h) (i:Nat) (hi:i+1 < n) (hf:f≤4096) (hn:n≤4097) (d:InM) (Y:Int) (hY:h (f+i)=Y+1) (hY0:0≤Y) (hj:(d.k == 6 || d.k == 7 || d.k == 8 || d.k == 9)=true→(f:Int)≤d.a∧d.a < (f:Int)+n) :
  Calls zG 104 #[zP C,.agg d.vals,zI ((f:Int)+i)] w fun e w'=>∃ h' b',e=.returned (.tuple #[])∧Ht w' C L f n h' b'∧b' = !(goF h d (f+i) Y).1∧(b'=false→h'=(goF h d (f+i) Y).2)∧HOk h'∧Mv w w' (fun k=>k=C∨k=L):=by
 have jm:(d.k == 6 || d.k == 7 || d.k == 8 || d.k == 9)=true→∃ m:Nat,m < n∧d.a=(f:Int)+m:=fun e=>by
  obtain⟨j1,j2⟩:=hj e
  exact⟨(d.a - f).toNat,by omega,by omega⟩
 cases h5:(d.k == 5) with
 | true =>
  cases hA:decide (d.a≤3) with
  | true=>exact st_5a w C L f n h k hk i hi hf hn d Y hY hY0 h5 hA
  | false=>exact st_5b w C L f n h k hk i hi hf hn d Y hY hY0 h5 hA
 | false =>
  cases h6:(d.k == 6) with
  | true =>
   obtain⟨m,hm,hma⟩:=jm (by rw [h6]; rfl)
   exact st_6 w C L f n h k hk i hi hf hn d Y hY hY0 h5 h6 m hm hma
  | false =>
   cases h7:(d.k == 7) with
   | true =>
    obtain⟨m,hm,hma⟩:=jm (by rw [h7]; simp)
    exact st_7 w C L f n h k hk i hi hf hn d Y hY hY0 h5 h6 h7 m hm hma
   | false =>
    cases h8:(d.k == 8) with
    | true =>
     obtain⟨m,hm,hma⟩:=jm (by rw [h8]; simp)
     exact st_8 w C L f n h k hk i hi hf hn d Y hY hY0 h5 h6 h7 h8 m hm hma
    | false =>
     cases h9:(d.k == 9) with
     | true =>
      obtain⟨m,hm,hma⟩:=jm (by rw [h9]; simp)
      exact st_9 w C L f n h k hk i hi hf hn d Y hY hY0 h5 h6 h7 h8 h9 m hm hma
     | false=>exact st_0 w C L f n h k hk i hi hf hn d Y hY hY0 h5 h6 h7 h8 h9
end Go.Proofs.YteedmmljahgpjaaGreatDoor
