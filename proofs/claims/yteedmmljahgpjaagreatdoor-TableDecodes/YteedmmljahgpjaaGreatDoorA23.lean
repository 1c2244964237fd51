import Derived.Test.YteedmmljahgpjaaGreatDoorA0
import Derived.Test.YteedmmljahgpjaaGreatDoorA22
import Derived.Test.YteedmmljahgpjaaGreatDoorA1
import Derived.Test.YteedmmljahgpjaaGreatDoorA2
namespace Go.Proofs.YteedmmljahgpjaaGreatDoor
set_option maxRecDepth 100000
set_option maxHeartbeats 4000000
open Go.RowKit
set_option linter.unusedVariables false
set_option linter.unusedSimpArgs false
theorem yl_mid {P:Program}{ops:Array Oper}{S:World→Prop}{op:Oper}{a:Act}(hw:Region.wanted op (yielded ops a.tmps)=true) (ty:TypeId) (x:Operand) (ho:op.op=.load ty x)
  (b o:Nat) (hx:a.eval x=.pointer (some ⟨b,o,none⟩)) (cs:Array Value) (d:TypeDesc) (hS:∀ w,S w→w.rangeAt b o cs.toList)
  (hu:P.underlying ty=some d) (hd:d.isRow=true) (hi:(P.info? ty).map (·.size)=some cs.size):YieldsIf P ops S op (.agg cs) a:=by
 have:=yieldsIf_load_mid hw ty x ho b o hx cs.toList d hS hu hd (by simpa using hi)
 rwa [Array.toArray_toList] at this
def drL (t:TbM):Int→List RowM→Option Int
 | p,[]=>some p
 | p,r :: l=>(rwN t r p).bind fun q=>if !l.isEmpty && endsB r.k then none else drL t q l
theorem drL_eq (t:TbM):∀ (rs:List RowM) (p:Int),(if JS t.sl t.rs.length t.ts.length rs then Qv p (rs.map hasL).flatten else none)=drL t p rs
 | [],p=>rfl
 | r :: l,p=>by
  simp only [JS,drL,List.map_cons,List.flatten_cons,JI,rwN]
  cases h1:rowB t.sl t.rs.length t.ts.length r with
  | false=>simp
  | true =>
   simp only [Bool.true_and,if_true]
   cases h2:(!l.isEmpty && endsB r.k) with
   | true=>cases Qv p (hasL r) <;> simp
   | false =>
    simp only [Bool.not_false,Bool.true_and]
    cases h3:Qv p (hasL r) with
    | none=>simp
    | some q =>
     simp only [Option.bind_some]
     rw [← drL_eq t l q]
     simp
theorem rw_ends {t:TbM}{r:RowM}{p q:Int}(h:rwN t r p=some q):endsB r.k=decide (r.k ≥ 5):=by
 unfold rwN at h
 split at h
 ·rename_i hb
  unfold rowB at hb
  simp only [Bool.and_eq_true] at hb
  have h2:=hb.1.2
  unfold idxN Qb at h2
  unfold endsB
  by_cases e1:r.k=1
  ·rw [e1]; rfl
  by_cases e2:r.k=2
  ·rw [e2]; rfl
  by_cases e3:r.k=3
  ·rw [e3]; rfl
  by_cases e4:r.k=4
  ·rw [e4]; rfl
  by_cases e5:r.k=5
  ·rw [e5]; rfl
  by_cases e6:r.k=6
  ·rw [e6]; rfl
  ·simp [e1,e2,e3,e4,e5,e6] at h2
   omega
 ·cases h
def gkN (t:TbM) (z:Int) (i:Nat) (rs:List RowM):Option Int:=if i < rs.length∧0 < i∧(rs.getD (i - 1) ⟨0,0,0,⟨0,0⟩,⟨0,0⟩,⟨0,0⟩,⟨0,0⟩⟩).k ≥ 5 then none else drL t z (rs.drop i)
theorem rng_on {w w':World}{b o:Nat}{cs:List Value}(h:w.rangeAt b o cs) (k:Below w§ w w'):w'.rangeAt b o cs:=fun j v hv=>Qf (h j v hv) k
theorem gk_no {t:TbM}{z:Int}{i:Nat}{rs:List RowM}(hi:i < rs.length) (h0:0 < i) (hk:(rs.getD (i - 1) ⟨0,0,0,⟨0,0⟩,⟨0,0⟩,⟨0,0⟩,⟨0,0⟩⟩).k ≥ 5):gkN t z i rs=none:=if_pos ⟨hi,h0,hk⟩
theorem gk_go {t:TbM}{z:Int}{i:Nat}{rs:List RowM}(hi:i < rs.length) (h0:¬ (0 < i∧(rs.getD (i - 1) ⟨0,0,0,⟨0,0⟩,⟨0,0⟩,⟨0,0⟩,⟨0,0⟩⟩).k ≥ 5)):gkN t z i rs=(rwN t rs[i] z).bind fun q=>gkN t q (i+1) rs:=by
 unfold gkN
 rw [if_neg (fun h=>h0 h.2),List.drop_eq_getElem_cons hi]
 simp only [drL]
 cases hr:rwN t rs[i] z with
 | none=>rfl
 | some q =>
  simp only [Option.bind_some]
  rw [rw_ends hr]
  have hg:rs.getD (i+1 - 1) ⟨0,0,0,⟨0,0⟩,⟨0,0⟩,⟨0,0⟩,⟨0,0⟩⟩=rs[i]:=by rw [Nat.add_sub_cancel,List.getD_eq_getElem?_getD,List.getElem?_eq_getElem hi]; rfl
  rw [hg]
  have he:(rs.drop (i+1)).isEmpty=decide (¬ i+1 < rs.length):=by
   by_cases h:i+1 < rs.length
   ·rw [List.drop_eq_getElem_cons h]; simp [h]
   ·rw [List.drop_eq_nil_of_le (by omega)]; simp; omega
  rw [he]
  by_cases a:i+1 < rs.length
  ·by_cases b:rs[i].k ≥ 5
   ·rw [if_pos (by simp [a,b]),if_pos ⟨a,by omega,b⟩]
   ·rw [if_neg (by simp [b]),if_neg (fun h=>b h.2.2)]
  ·rw [if_neg (by simp [a]),if_neg (fun h=>a h.1)]
theorem gk_end {t:TbM}{z:Int}{rs:List RowM}:gkN t z rs.length rs=some z:=by
 unfold gkN
 rw [if_neg (fun h=>absurd h.1 (Nat.lt_irrefl _)),List.drop_length]; rfl
theorem gk_start {t:TbM}{g:GdM}{p:Int}(h1:g.wh.f=p) (h2:p < g.wh.t) (h3:1≤g.rs.length) (h4:g.rs.length≤8):gdN t.sl t.rs.length t.ts.length g p=gkN t g.wh.t 0 g.rs:=by
 have hk:gkN t g.wh.t 0 g.rs=drL t g.wh.t g.rs:=by
  unfold gkN
  rw [if_neg (fun h=>absurd h.2.1 (Nat.lt_irrefl _)),List.drop_zero]
 rw [hk,← drL_eq]
 unfold gdN rowsB gSp
 have hw:Qb 1 (g.rs.length:Int) 8=true:=by unfold Qb; simp; omega
 rw [hw]
 simp only [Bool.true_and,Qv]
 have hc:(g.wh.f != p || decide (g.wh.t≤g.wh.f))=false:=by simp; exact⟨h1,by omega⟩
 rw [hc]
 rfl
theorem gd_none1 {t:TbM}{g:GdM}{p:Int}(h:g.wh.f≠p∨g.wh.t≤p):gdN t.sl t.rs.length t.ts.length g p=none:=by
 unfold gdN gSp
 split
 ·simp only [Qv]
  by_cases e:g.wh.f=p
  ·rw [if_pos (by simp [e]; rcases h with h | h; exact absurd e h; exact h)]
  ·rw [if_pos (by simp [e])]
 ·rfl
theorem gd_none2 {t:TbM}{g:GdM}{p:Int}(h:(g.rs.length:Int) < 1∨(g.rs.length:Int) > 8):gdN t.sl t.rs.length t.ts.length g p=none:=by
 unfold gdN rowsB Qb
 rw [if_neg]
 simp
 omega
theorem rguard_any' (t:TbM) (g:GdM) (p:Int) (w:World) (hg:GdL w g):Calls zG 67 #[.agg t.vals,.agg g.vals,zI p] w fun e w'=>e=.returned (outP (gdN t.sl t.rs.length t.ts.length g p))∧Below w§ w w':=by
 obtain⟨W2,e2⟩:∃ W,(w.alloc (.cells t.vals 26)).alloc (.cells g.vals 68)=W:=⟨_,rfl⟩
 have E2:=zH e2
 obtain⟨hn1,hn2,hb2,hs2⟩:=J9 e2
 have HB2:=zH hb2
 have HN1:=zH hn1
 have HN2:=zH hn2
 clear e2
 have HG:Hid (GdL W2 g):=hg.on hb2
 have HG0:Hid (GdL w g):=hg
 clear hn1 hn2 hb2 hs2 hg
 obtain⟨ANS,eA⟩:∃ q,gdN t.sl t.rs.length t.ts.length g p=q:=⟨_,rfl⟩
 have HA:=zH eA
 rw [eA]
 clear eA
 go_enter Tryz.func67,Tryz.ntmps67
 go_upto_region 1 with fail
 rw [E2.out]
 clear E2
 obtain⟨B1,eB1⟩:∃ b,w§+1=b:=⟨_,rfl⟩
 rw [eB1] at HN2 ⊢
 clear eB1
 have k0:W2.cell? ⟨B1,0,none⟩=some (zI g.wh.f):=Co HN2.out 0
 have k1:W2.cell? ⟨B1,1,none⟩=some (zI g.wh.t):=Co HN2.out 1
 have k4:W2.cell? ⟨B1,4,none⟩=some (.slice g.a g.rs.length g.c):=Co HN2.out 4
 cases h0:(g.wh.f != p) with
 | true =>
  have HN:Hid (ANS=none):=by show _=_; rw [← HA.out]; exact gd_none1 (.inl (by simpa using h0))
  go_wp2_with fail
  go_ret2
  exact⟨by rw [HN.out]; rfl,HB2.out⟩
 | false =>
  cases h1:decide (g.wh.t≤p) with
  | true =>
   have HN:Hid (ANS=none):=by show _=_; rw [← HA.out]; exact gd_none1 (.inr (of_decide_eq_true h1))
   go_wp2_with fail
   go_ret2
   exact⟨by rw [HN.out]; rfl,HB2.out⟩
  | false =>
   cases h2:decide ((g.rs.length:Int) < 1) with
   | true =>
    have HN:Hid (ANS=none):=by show _=_; rw [← HA.out]; exact gd_none2 (.inl (of_decide_eq_true h2))
    go_wp2_with fail
    go_ret2
    exact⟨by rw [HN.out]; rfl,HB2.out⟩
   | false =>
    cases h3:decide ((g.rs.length:Int) > 8) with
    | true =>
     have HN:Hid (ANS=none):=by show _=_; rw [← HA.out]; exact gd_none2 (.inr (of_decide_eq_true h3))
     go_wp2_with fail
     go_ret2
     exact⟨by rw [HN.out]; rfl,HB2.out⟩
    | false =>
     have HST:Hid (gkN t g.wh.t 0 g.rs=ANS):=by
      show _=_
      rw [← HA.out]
      exact (gk_start (by simpa using h0) (by have:=of_decide_eq_false h1; omega) (by have:=of_decide_eq_false h2; omega) (by have:=of_decide_eq_false h3; omega)).symm
     have hle:g.rs.length≤8:=by have:=of_decide_eq_false h3; omega
     go_upto_region 4 with fail
     clear h0 h1 h2 h3 k0 k1 k4
     go_wp2_with fail
     go_loopw [2,8] (fun v q wr=>∃ (z:Int) (i:Nat),i≤g.rs.length∧v=zI z∧q=zI i∧Hid (Below W2§ W2 wr)∧Hid (gkN t z i g.rs=ANS)) (fun _ q _=>g.rs.length - (intOf q).toNat)
     case atStart=>exact⟨g.wh.t,0,by omega,rfl,rfl,Below.refl _ _,HST⟩
     case round =>
      obtain⟨z,i,hi,rfl,rfl,HBR,HKR⟩:=hrel
      have k4:wr.cell? ⟨B1,4,none⟩=some (.slice g.a g.rs.length g.c):=Qf (Co HN2.out 4) HBR.out
      by_cases hlt:i < g.rs.length
      ·have hlt':(i:Int) < (g.rs.length:Int):=by omega
       have hmx:(i:Int)+1≤9223372036854775807:=by omega
       obtain⟨bb,o,ea,rr⟩:=QP RowM.sz HG.out.2.2.2.1 i hlt
       have HR:=zH rr
       have HGO:Hid (¬ (0 < i∧(g.rs.getD (i - 1) ⟨0,0,0,⟨0,0⟩,⟨0,0⟩,⟨0,0⟩,⟨0,0⟩⟩).k ≥ 5)→(rwN t g.rs[i] z).bind (fun q=>gkN t q (i+1) g.rs)=ANS):=fun h=>by rw [← gk_go hlt h]; exact HKR.out
       obtain⟨r,er⟩:∃ r,g.rs[i]=r:=⟨_,rfl⟩
       rw [er] at HR HGO
       clear er rr
       have HFA:Hid (∀ v:World,Below wr§ wr v→v.heap[w§]? = some (.cells t.vals 26 (0,0))):=fun v hv=>((Qa HBR.out hv).block _ (Qy HN1.out)).trans HN1.out
       have HFB:Hid (∀ v:World,Below wr§ wr v→v.cell? ⟨B1,4,none⟩=some (.slice (some ⟨bb,o,none⟩) g.rs.length g.c)):=fun v hv=>by rw [← ea]; exact Qf (Co HN2.out 4) (Qa HBR.out hv)
       have HFC:Hid (∀ v:World,Below wr§ wr v→v.rangeAt bb (o+i * 11) r.vals.toList):=fun v hv=>rng_on HR.out (Qa HBR.out hv)
       have HEA:=zH ea
       clear ea HR
       have cR:=rrow_any' t r z wr.drew
       rcases Nat.eq_zero_or_pos i with rfl | hi0
       ·have HNE:Hid (¬ (0 < 0∧(g.rs.getD (0 - 1) ⟨0,0,0,⟨0,0⟩,⟨0,0⟩,⟨0,0⟩,⟨0,0⟩⟩).k ≥ 5)):=fun h=>absurd h.1 (Nat.lt_irrefl _)
        clear hlt' hmx
        go_upto_region 9 with fail
        clear k4
        refine wp_region_held_drew (S:=fun v=>Below wr§ wr v) zK ⟨rfl,rfl,rfl,Nat.le_refl _,fun _ _=>rfl⟩ (fun hHeld=>?_)
        refine wpAnyH_take (i:=0) (v:=.agg t.vals) rfl zK zK zK (fun _ _ _ h=>h) (yl_row (by rfl) 26 (.tmp 3) rfl w§ rfl 26 t.vals (0,0) _ HFA.out Tryz.underlying26 rfl Qe) (by assumption) ?_
        try simp [Act.put]
        refine wpAnyH_take (i:=1) (v:=?_) rfl zK zK zK (fun _ _ _ h=>h) (Or.inl ⟨by rfl,?_⟩) (by assumption) ?_
        rotate_left
        ·(intro v hv; go_simp; try (with_reducible rfl))
        try simp [Act.put]
        refine wpAnyH_take (i:=2) (v:=?_) rfl zK zK zK (fun _ _ _ h=>h) (Or.inl ⟨by rfl,?_⟩) (by assumption) ?_
        rotate_left
        ·(intro v hv; have hF:=HFB.out v hv; go_simp; try (with_reducible rfl))
        try simp [Act.put]
        refine wpAnyH_take (i:=3) (v:=?_) rfl zK zK zK (fun _ _ _ h=>h) (Or.inl ⟨by rfl,?_⟩) (by assumption) ?_
        rotate_left
        ·(intro v hv; go_simp; try (with_reducible rfl))
        try simp [Act.put]
        refine wpAnyH_take (i:=4) (v:=?_) rfl zK zK zK (fun _ _ _ h=>h) (Or.inl ⟨by rfl,?_⟩) (by assumption) ?_
        rotate_left
        ·(intro v hv; go_simp; try (with_reducible rfl))
        try simp [Act.put]
        refine wpAnyH_take (i:=5) (v:=.agg r.vals) rfl zK zK zK (fun _ _ _ h=>h) (yl_mid (by rfl) 85 (.tmp 62) rfl bb (o+0 * 11) rfl r.vals _ HFC.out Tryz.underlying85 rfl (by show _=some 11; exact Qi)) (by assumption) ?_
        try simp [Act.put]
        refine wpAnyH_take (i:=6) (v:=?_) rfl zK zK zK (fun _ _ _ h=>h) (Or.inl ⟨by rfl,?_⟩) (by assumption) ?_
        rotate_left
        ·(intro v hv; go_simp; try (with_reducible rfl))
        try simp [Act.put]
        refine wpAnyH_ready (rs:=[7]) zK (by simp) ?_
        refine AllReadyH.cons rfl (fun K hK=>?_) AllReadyH.nil
        go_simp
        refine cR.mono ?_
        rintro e w5 ⟨rfl,hb5⟩
        have hB5:Below wr§ wr w5:=⟨hb5.os,hb5.tape,hb5.output,hb5.size,hb5.block⟩
        have HB5:=zH (Qa HBR.out hB5)
        refine hK.out _ _ hB5 (fun hHeld=>?_)
        clear hK K cR hb5 hB5
        try simp [Act.put]
        cases hrw:rwN t r z with
        | none =>
         have HN:Hid (ANS=none):=by show _=_; rw [← HGO.out HNE.out,hrw]; rfl
         unfold outP
         refine wpAnyH_take (i:=8) (v:=?_) rfl zK zK zK (fun _ _ _ h=>h) (Or.inl ⟨by rfl,?_⟩) (by assumption) ?_
         rotate_left
         ·(intro v hv; go_simp; try (with_reducible rfl))
         try simp [Act.put]
         refine wpAnyH_take (i:=9) (v:=?_) rfl zK zK zK (fun _ _ _ h=>h) (Or.inl ⟨by rfl,?_⟩) (by assumption) ?_
         rotate_left
         ·(intro v hv; go_simp; try (with_reducible rfl))
         try simp [Act.put]
         refine wpAnyH_take (i:=10) (v:=?_) rfl zK zK zK (fun _ _ _ h=>h) (Or.inl ⟨by rfl,?_⟩) (by assumption) ?_
         rotate_left
         ·(intro v hv; go_simp; try (with_reducible rfl))
         try simp [Act.put]
         refine wpAnyH_take (i:=11) (v:=?_) rfl zK zK zK (fun _ _ _ h=>h) (Or.inl ⟨by rfl,?_⟩) (by assumption) ?_
         rotate_left
         ·(intro v hv; go_simp; try (with_reducible rfl))
         try simp [Act.put]
         refine wpAnyH_take (i:=12) (v:=?_) rfl zK zK zK (fun _ _ _ h=>h) (Or.inl ⟨by rfl,?_⟩) (by assumption) ?_
         rotate_left
         ·(intro v hv; go_simp; try (with_reducible rfl))
         try simp [Act.put]
         refine wpAnyH_done zK ?_ _
         go_wp2_with fail
         go_ret2
         exact⟨by rw [HN.out]; rfl,Qa HB2.out HB5.out⟩
        | some q =>
         have HN:Hid (gkN t q (0+1) g.rs=ANS):=by show _=_; rw [← HGO.out HNE.out,hrw]; rfl
         unfold outP
         refine wpAnyH_take (i:=8) (v:=?_) rfl zK zK zK (fun _ _ _ h=>h) (Or.inl ⟨by rfl,?_⟩) (by assumption) ?_
         rotate_left
         ·(intro v hv; go_simp; try (with_reducible rfl))
         try simp [Act.put]
         refine wpAnyH_take (i:=9) (v:=?_) rfl zK zK zK (fun _ _ _ h=>h) (Or.inl ⟨by rfl,?_⟩) (by assumption) ?_
         rotate_left
         ·(intro v hv; go_simp; try (with_reducible rfl))
         try simp [Act.put]
         refine wpAnyH_take (i:=10) (v:=?_) rfl zK zK zK (fun _ _ _ h=>h) (Or.inl ⟨by rfl,?_⟩) (by assumption) ?_
         rotate_left
         ·(intro v hv; go_simp; try (with_reducible rfl))
         try simp [Act.put]
         refine wpAnyH_take (i:=11) (v:=?_) rfl zK zK zK (fun _ _ _ h=>h) (Or.inl ⟨by rfl,?_⟩) (by assumption) ?_
         rotate_left
         ·(intro v hv; go_simp; try (with_reducible rfl))
         try simp [Act.put]
         refine wpAnyH_take (i:=12) (v:=?_) rfl zK zK zK (fun _ _ _ h=>h) (Or.inl ⟨by rfl,?_⟩) (by assumption) ?_
         rotate_left
         ·(intro v hv; go_simp; try (with_reducible rfl))
         try simp [Act.put]
         refine wpAnyH_done zK ?_ _
         go_wp2_with fail
         exact⟨⟨q,0+1,hlt,rfl,rfl,HB5,HN⟩,by simp only [intOf]; omega⟩
       ·obtain⟨j,rfl⟩:∃ j,i=j+1:=⟨i - 1,by omega⟩
        clear hi0 hlt' hmx
        have hpos:(0:Int) < (j:Int)+1:=by omega
        have hnn:(0:Int)≤(j:Int)+1:=by omega
        have hlt':(j:Int)+1 < (g.rs.length:Int):=by omega
        have hmx:(j:Int)+1+1≤9223372036854775807:=by omega
        have hj:j < g.rs.length:=by omega
        have hj2:(j:Int) < (g.rs.length:Int):=by omega
        obtain⟨bb',o',ea',rr'⟩:=QP RowM.sz HG.out.2.2.2.1 j hj
        have ho:bb'=bb∧o'=o:=by
         have h:=HEA.out.symm.trans ea'
         cases h
         exact⟨rfl,rfl⟩
        obtain⟨rfl,rfl⟩:=ho
        have cK:wr.cell? ⟨bb',o'+j * 11,none⟩=some (zU g.rs[j].k):=Qf (by have:=rr' 0 _ rfl; rw [Nat.add_zero] at this; exact this) HBR.out
        have hgd:g.rs.getD (j+1 - 1) ⟨0,0,0,⟨0,0⟩,⟨0,0⟩,⟨0,0⟩,⟨0,0⟩⟩=g.rs[j]:=by rw [Nat.add_sub_cancel,List.getD_eq_getElem?_getD,List.getElem?_eq_getElem hj]; rfl
        rw [hgd] at HGO
        obtain⟨x,ex⟩:∃ x,g.rs[j]=x:=⟨_,rfl⟩
        rw [ex] at HGO cK hgd
        rw [HEA.out] at k4
        clear rr' ea' ex
        cases h5:decide (x.k ≥ 5) with
        | true =>
         have HN:Hid (ANS=none):=by show _=_; rw [← HKR.out]; exact gk_no hlt (by omega) (by rw [hgd]; exact of_decide_eq_true h5)
         clear hgd
         go_wp2_with fail
         go_ret2
         exact⟨by rw [HN.out]; rfl,Qa HB2.out HBR.out⟩
        | false =>
         have HNE:Hid (¬ (0 < j+1∧x.k ≥ 5)):=fun h=>absurd h.2 (of_decide_eq_false h5)
         clear hgd
         go_upto_region 9 with fail
         clear h5 cK hj2
         clear k4
         refine wp_region_held_drew (S:=fun v=>Below wr§ wr v) zK ⟨rfl,rfl,rfl,Nat.le_refl _,fun _ _=>rfl⟩ (fun hHeld=>?_)
         refine wpAnyH_take (i:=0) (v:=.agg t.vals) rfl zK zK zK (fun _ _ _ h=>h) (yl_row (by rfl) 26 (.tmp 3) rfl w§ rfl 26 t.vals (0,0) _ HFA.out Tryz.underlying26 rfl Qe) (by assumption) ?_
         try simp [Act.put]
         refine wpAnyH_take (i:=1) (v:=?_) rfl zK zK zK (fun _ _ _ h=>h) (Or.inl ⟨by rfl,?_⟩) (by assumption) ?_
         rotate_left
         ·(intro v hv; go_simp; try (with_reducible rfl))
         try simp [Act.put]
         refine wpAnyH_take (i:=2) (v:=?_) rfl zK zK zK (fun _ _ _ h=>h) (Or.inl ⟨by rfl,?_⟩) (by assumption) ?_
         rotate_left
         ·(intro v hv; have hF:=HFB.out v hv; go_simp; try (with_reducible rfl))
         try simp [Act.put]
         refine wpAnyH_take (i:=3) (v:=?_) rfl zK zK zK (fun _ _ _ h=>h) (Or.inl ⟨by rfl,?_⟩) (by assumption) ?_
         rotate_left
         ·(intro v hv; go_simp; try (with_reducible rfl))
         try simp [Act.put]
         refine wpAnyH_take (i:=4) (v:=?_) rfl zK zK zK (fun _ _ _ h=>h) (Or.inl ⟨by rfl,?_⟩) (by assumption) ?_
         rotate_left
         ·(intro v hv; go_simp; try (with_reducible rfl))
         try simp [Act.put]
         refine wpAnyH_take (i:=5) (v:=.agg r.vals) rfl zK zK zK (fun _ _ _ h=>h) (yl_mid (by rfl) 85 (.tmp 62) rfl bb' (o'+(j+1) * 11) rfl r.vals _ HFC.out Tryz.underlying85 rfl (by show _=some 11; exact Qi)) (by assumption) ?_
         try simp [Act.put]
         refine wpAnyH_take (i:=6) (v:=?_) rfl zK zK zK (fun _ _ _ h=>h) (Or.inl ⟨by rfl,?_⟩) (by assumption) ?_
         rotate_left
         ·(intro v hv; go_simp; try (with_reducible rfl))
         try simp [Act.put]
         refine wpAnyH_ready (rs:=[7]) zK (by simp) ?_
         refine AllReadyH.cons rfl (fun K hK=>?_) AllReadyH.nil
         go_simp
         refine cR.mono ?_
         rintro e w5 ⟨rfl,hb5⟩
         have hB5:Below wr§ wr w5:=⟨hb5.os,hb5.tape,hb5.output,hb5.size,hb5.block⟩
         have HB5:=zH (Qa HBR.out hB5)
         refine hK.out _ _ hB5 (fun hHeld=>?_)
         clear hK K cR hb5 hB5
         try simp [Act.put]
         cases hrw:rwN t r z with
         | none =>
          have HN:Hid (ANS=none):=by show _=_; rw [← HGO.out HNE.out,hrw]; rfl
          unfold outP
          refine wpAnyH_take (i:=8) (v:=?_) rfl zK zK zK (fun _ _ _ h=>h) (Or.inl ⟨by rfl,?_⟩) (by assumption) ?_
          rotate_left
          ·(intro v hv; go_simp; try (with_reducible rfl))
          try simp [Act.put]
          refine wpAnyH_take (i:=9) (v:=?_) rfl zK zK zK (fun _ _ _ h=>h) (Or.inl ⟨by rfl,?_⟩) (by assumption) ?_
          rotate_left
          ·(intro v hv; go_simp; try (with_reducible rfl))
          try simp [Act.put]
          refine wpAnyH_take (i:=10) (v:=?_) rfl zK zK zK (fun _ _ _ h=>h) (Or.inl ⟨by rfl,?_⟩) (by assumption) ?_
          rotate_left
          ·(intro v hv; go_simp; try (with_reducible rfl))
          try simp [Act.put]
          refine wpAnyH_take (i:=11) (v:=?_) rfl zK zK zK (fun _ _ _ h=>h) (Or.inl ⟨by rfl,?_⟩) (by assumption) ?_
          rotate_left
          ·(intro v hv; go_simp; try (with_reducible rfl))
          try simp [Act.put]
          refine wpAnyH_take (i:=12) (v:=?_) rfl zK zK zK (fun _ _ _ h=>h) (Or.inl ⟨by rfl,?_⟩) (by assumption) ?_
          rotate_left
          ·(intro v hv; go_simp; try (with_reducible rfl))
          try simp [Act.put]
          refine wpAnyH_done zK ?_ _
          go_wp2_with fail
          go_ret2
          exact⟨by rw [HN.out]; rfl,Qa HB2.out HB5.out⟩
         | some q =>
          have HN:Hid (gkN t q ((j+1)+1) g.rs=ANS):=by show _=_; rw [← HGO.out HNE.out,hrw]; rfl
          unfold outP
          refine wpAnyH_take (i:=8) (v:=?_) rfl zK zK zK (fun _ _ _ h=>h) (Or.inl ⟨by rfl,?_⟩) (by assumption) ?_
          rotate_left
          ·(intro v hv; go_simp; try (with_reducible rfl))
          try simp [Act.put]
          refine wpAnyH_take (i:=9) (v:=?_) rfl zK zK zK (fun _ _ _ h=>h) (Or.inl ⟨by rfl,?_⟩) (by assumption) ?_
          rotate_left
          ·(intro v hv; go_simp; try (with_reducible rfl))
          try simp [Act.put]
          refine wpAnyH_take (i:=10) (v:=?_) rfl zK zK zK (fun _ _ _ h=>h) (Or.inl ⟨by rfl,?_⟩) (by assumption) ?_
          rotate_left
          ·(intro v hv; go_simp; try (with_reducible rfl))
          try simp [Act.put]
          refine wpAnyH_take (i:=11) (v:=?_) rfl zK zK zK (fun _ _ _ h=>h) (Or.inl ⟨by rfl,?_⟩) (by assumption) ?_
          rotate_left
          ·(intro v hv; go_simp; try (with_reducible rfl))
          try simp [Act.put]
          refine wpAnyH_take (i:=12) (v:=?_) rfl zK zK zK (fun _ _ _ h=>h) (Or.inl ⟨by rfl,?_⟩) (by assumption) ?_
          rotate_left
          ·(intro v hv; go_simp; try (with_reducible rfl))
          try simp [Act.put]
          refine wpAnyH_done zK ?_ _
          go_wp2_with fail
          exact⟨⟨q,(j+1)+1,hlt,rfl,rfl,HB5,HN⟩,by simp only [intOf]; omega⟩
      ·obtain rfl:i=g.rs.length:=by omega
       have hnot:¬ (g.rs.length:Int) < (g.rs.length:Int):=by omega
       have HN:Hid (ANS=some z):=by show _=_; rw [← HKR.out]; exact gk_end
       go_wp2_with fail
       go_ret2
       exact⟨by rw [HN.out]; rfl,Qa HB2.out HBR.out⟩
theorem letter_any (c:UInt8) (w:World):Calls zG 100 #[zU (c.toNat:Int)] w fun e w'=>e=.returned (.bool (letB c))∧w'=w:=by
 go_enter Tryz.func100,Tryz.ntmps100
 go_wp2
 all_goals go_ret
 all_goals refine⟨retB ?_,rfl⟩
 all_goals unfold letB
 ·have h:97≤c.toNat:=by omega
  by_cases h2:c.toNat≤122
  ·rw [decide_eq_true (show (c.toNat:Int)≤122 by omega),decide_eq_true ⟨h,h2⟩]
  ·rw [decide_eq_false (show ¬ (c.toNat:Int)≤122 by omega),decide_eq_false (fun k=>h2 k.2)]
 ·rw [decide_eq_false (by omega)]
theorem digit_any (c:UInt8) (w:World):Calls zG 130 #[zU (c.toNat:Int)] w fun e w'=>e=.returned (.bool (digB c))∧w'=w:=by
 go_enter Tryz.func130,Tryz.ntmps130
 go_wp2
 all_goals go_ret
 all_goals refine⟨retB ?_,rfl⟩
 all_goals unfold digB
 ·have h:48≤c.toNat:=by omega
  by_cases h2:c.toNat≤57
  ·rw [decide_eq_true (show (c.toNat:Int)≤57 by omega),decide_eq_true ⟨h,h2⟩]
  ·rw [decide_eq_false (show ¬ (c.toNat:Int)≤57 by omega),decide_eq_false (fun k=>h2 k.2)]
 ·rw [decide_eq_false (by omega)]
theorem letter_b {c:UInt8}{b:Bool}(h:letB c=b) (w:World):Calls zG 100 #[zU (c.toNat:Int)] w fun e w'=>e=.returned (.bool b)∧w'=w:=h ▸ letter_any c w
theorem digit_b {c:UInt8}{b:Bool}(h:digB c=b) (w:World):Calls zG 130 #[zU (c.toNat:Int)] w fun e w'=>e=.returned (.bool b)∧w'=w:=h ▸ digit_any c w
theorem goes_any (c:UInt8) (w:World):Calls zG 101 #[zU (c.toNat:Int)] w fun e w'=>e=.returned (.bool (goB c))∧w'=w:=by
 cases b1:letB c
 ·cases b2:digB c
  ·have hg:goB c=((c.toNat:Int) == 95):=by
    unfold goB
    rw [b1,b2]
    by_cases h:c.toNat=95
    ·rw [h]; rfl
    ·have h':((c.toNat:Int) == 95)=false:=beq_false_of_ne (by omega)
     rw [h']; simp [h]
   go_enter Tryz.func101,Tryz.ntmps101
   go_wp2_with (first | (go_at_call 100; refine (letter_b b1 _).mono ?_; rintro _ v ⟨rfl,e⟩; obtain rfl:=e.symm) | (go_at_call 130; refine (digit_b b2 _).mono ?_; rintro _ v ⟨rfl,e⟩; obtain rfl:=e.symm))
   all_goals go_ret
   all_goals exact⟨by rw [hg]; rfl,rfl⟩
  ·have hg:goB c=true:=by unfold goB; rw [b1,b2]; rfl
   go_enter Tryz.func101,Tryz.ntmps101
   go_wp2_with (first | (go_at_call 100; refine (letter_b b1 _).mono ?_; rintro _ v ⟨rfl,e⟩; obtain rfl:=e.symm) | (go_at_call 130; refine (digit_b b2 _).mono ?_; rintro _ v ⟨rfl,e⟩; obtain rfl:=e.symm))
   all_goals go_ret
   all_goals exact⟨by rw [hg]; rfl,rfl⟩
 ·have hg:goB c=true:=by unfold goB; rw [b1]; rfl
  go_enter Tryz.func101,Tryz.ntmps101
  go_wp2_with (go_at_call 100; refine (letter_b b1 _).mono ?_; rintro _ v ⟨rfl,e⟩; obtain rfl:=e.symm)
  all_goals go_ret
  all_goals exact⟨by rw [hg]; rfl,rfl⟩
theorem goes_b {c:UInt8}{b:Bool}(h:goB c=b) (w:World):Calls zG 101 #[zU (c.toNat:Int)] w fun e w'=>e=.returned (.bool b)∧w'=w:=h ▸ goes_any c w
theorem cell_alloc (w:World) (a:Array Value) (t:TypeId) (j:Nat):(w.alloc (.cells a t)).cell? ⟨w§,j,none⟩=a[j]?:=by
 unfold World.cell? World.alloc; simp
theorem words_cell (w:World) (j:Nat) (h:j < 41):(w.alloc (.cells wordsV 9)).cell? ⟨w§,j,none⟩=some (.string (wd j)):=by
 rw [cell_alloc]
 unfold wordsV wd
 have hl:j < JV.length:=h
 simp [List.getElem?_map,List.getElem?_eq_getElem hl,List.getD]
theorem words_any (w:World):Calls zG 129 #[] w fun e w'=>e=.returned (.slice (some ⟨w§,0,none⟩) 41 41)∧w'=w.alloc (.cells wordsV 9):=by
 go_enter Tryz.func129,Tryz.ntmps129
 go_wp2
 go_ret
 exact⟨rfl,rfl⟩
theorem word_any (s:ByteArray) (w:World):Calls zG 99 #[.string s] w fun e w'=>e=.returned (.bool (isW s))∧Below w§ w w':=by
 have hc:=words_cell w
 have hB:=Bn w (.cells wordsV 9)
 go_enter Tryz.func99,Tryz.ntmps99
 go_wp2_with fail
 refine (words_any _).mono ?_
 rintro _ v ⟨rfl,e⟩
 rw [← e] at hc hB
 have HC:=zH hc
 clear hc e
 go_wp2_with fail
 go_loop [4] (fun t=>∃ i:Nat,i≤41∧t=zI i∧Hid (∀ j,j < i→¬ wd j=s)) (fun t=>41 - (intOf t).toNat)
 case atStart=>exact⟨0,by omega,rfl,fun j hj=>by omega⟩
 case round =>
  obtain⟨i,hi,rfl,HR⟩:=hrel
  by_cases hlt:i < 41
  ·have hlt':(i:Int) < 41:=by omega
   have hcell:=HC.out i hlt
   obtain⟨x,ex⟩:∃ x,wd i=x:=⟨_,rfl⟩
   rw [ex] at hcell
   by_cases he:x=s
   ·have hw:=isW_yes hlt (ex.trans he)
    subst he
    go_wp2
    go_ret
    exact⟨by first | rfl | exact retB hw.symm,hB⟩
   ·have hne:=seq_ne he
    have hn:Hid (∀ j,j < i+1→¬ wd j=s):=fun j hj=>by
     by_cases e:j=i
     ·subst e; rw [ex]; exact he
     ·exact HR.out j (by omega)
    clear he ex
    go_wp2
    exact⟨⟨i+1,by omega,by go_num,hn⟩,by simp only [intOf]; omega⟩
  ·obtain rfl:i=41:=by omega
   have hw:=isW_no HR.out
   go_wp2
   go_ret
   exact⟨by first | rfl | exact retB hw.symm,hB⟩
theorem rname_any (s:ByteArray) (hs:s.size≤140737488355328) (w:World):Calls zG 66 #[.string s] w fun e w'=>e=.returned (.bool (Ja s))∧Below w§ w w':=by
 have cW:=word_any s w
 cases hW:isW s
 ·rw [hW] at cW
  by_cases h1:1≤s.size
  ·by_cases h2:s.size≤16
   ·have hr:=Jr s 0 (by omega)
    obtain⟨c,hc⟩:∃ c,s[0]=c:=⟨_,rfl⟩
    rw [hc] at hr
    have h1':¬ (s.size:Int) < 1:=by omega
    have h2':¬ (s.size:Int) > 16:=by omega
    have h3':(0:Int) < (s.size:Int):=by omega
    have h3:0 < s.size:=by omega
    cases hl:letB c
    ·have K:Hid (Ja s=false):=by show _=_; unfold Ja; rw [hr]; simp [hdB,hl]
     clear hr
     go_enter Tryz.func66,Tryz.ntmps66
     go_wp2_with (first | (go_at_call 99; refine cW.mono ?_; rintro _ v ⟨rfl,bb⟩) | (go_at_call 100; refine (letter_b hl _).mono ?_; rintro _ v2 ⟨rfl,e⟩; obtain rfl:=e.symm))
     go_ret
     exact⟨retB K.out.symm,bb⟩
    ·have HK:Hid (Ja s=decide (lead goB (rest s 0)=s.size)):=by show _=_; unfold Ja; rw [hW]; simp [hr,hdB,hl,h1,h2]
     clear hr
     go_enter Tryz.func66,Tryz.ntmps66
     go_wp2_with (first | (go_at_call 99; refine cW.mono ?_; rintro _ v ⟨rfl,bb⟩) | (go_at_call 100; refine (letter_b hl _).mono ?_; rintro _ v2 ⟨rfl,e⟩; obtain rfl:=e.symm))
     go_loop [4] (fun t=>∃ i:Nat,i≤s.size∧t=zI i∧Hid (lead goB (rest s 0)=i+lead goB (rest s i))) (fun t=>s.size - (intOf t).toNat)
     case atStart=>exact⟨0,Nat.zero_le _,rfl,by show _=_; omega⟩
     case round =>
      obtain⟨i,hi,rfl,HR⟩:=hrel
      by_cases hlt:i < s.size
      ·have hlt':(i:Int) < (s.size:Int):=by omega
       have hr:=Jr s i hlt
       obtain⟨d,hd⟩:∃ d,s[i]=d:=⟨_,rfl⟩
       rw [hd] at hr
       cases hg:goB d
       ·have K:Hid (Ja s=false):=by
         show _=_
         rw [HK.out,HR.out,hr,lead,if_neg (by rw [hg]; decide)]
         exact decide_eq_false (by omega)
        clear hr HR HK
        go_wp2_with (go_at_call 101; refine (goes_b hg _).mono ?_; rintro _ v2 ⟨rfl,e⟩; obtain rfl:=e.symm)
        go_ret
        exact⟨retB K.out.symm,bb⟩
       ·have hs2:Hid (lead goB (rest s 0)=(i+1)+lead goB (rest s (i+1))):=by
         show _=_
         rw [HR.out,hr,lead,if_pos hg]; omega
        clear hr HR
        go_wp2_with (go_at_call 101; refine (goes_b hg _).mono ?_; rintro _ v2 ⟨rfl,e⟩; obtain rfl:=e.symm)
        exact⟨⟨i+1,by omega,by go_num,hs2⟩,by simp only [intOf]; omega⟩
      ·have hie:i=s.size:=by omega
       subst hie
       have K:Hid (Ja s=true):=by
        show _=_
        have:rest s s.size = []:=by
         apply List.eq_nil_of_length_eq_zero
         rw [J4]; omega
        rw [HK.out,HR.out,this]
        exact decide_eq_true rfl
       have hlt':¬ (s.size:Int) < (s.size:Int):=by omega
       clear HR HK
       go_wp2
       go_ret
       exact⟨retB K.out.symm,bb⟩
   ·have K:Hid (Ja s=false):=by show _=_; unfold Ja; simp [h2]
    have h1':¬ (s.size:Int) < 1:=by omega
    have h2':(s.size:Int) > 16:=by omega
    go_enter Tryz.func66,Tryz.ntmps66
    go_wp2_with (first | (go_at_call 99; refine cW.mono ?_; rintro _ v ⟨rfl,bb⟩))
    go_ret
    exact⟨retB K.out.symm,bb⟩
  ·have K:Hid (Ja s=false):=by show _=_; unfold Ja; simp [h1]
   have h1':(s.size:Int) < 1:=by omega
   go_enter Tryz.func66,Tryz.ntmps66
   go_wp2_with (first | (go_at_call 99; refine cW.mono ?_; rintro _ v ⟨rfl,bb⟩))
   go_ret
   exact⟨retB K.out.symm,bb⟩
 ·rw [hW] at cW
  have K:Hid (Ja s=false):=by show _=_; unfold Ja; rw [hW]; rfl
  go_enter Tryz.func66,Tryz.ntmps66
  go_wp2_with (first | (go_at_call 99; refine cW.mono ?_; rintro _ v ⟨rfl,bb⟩))
  go_ret
  exact⟨retB K.out.symm,bb⟩
theorem JM {t:TbM}(h:Q0 t=false):QG t=false:=by unfold QG; rw [h]; simp
theorem gds_at {sl:Int}{nr ns:Nat}{z:Int}{gs:List GdM}{j:Nat}(hj:j < gs.length):gdsN sl nr ns z (gs.drop j)=(gdN sl nr ns gs[j] z).bind fun q=>gdsN sl nr ns q (gs.drop (j+1)):=by
 rw [List.drop_eq_getElem_cons hj]; rfl
theorem sts_at {sl:Int}{nr ns:Nat}{z:Int}{ts:List StM}{i:Nat}(hi:i < ts.length):stsN sl nr ns z (ts.drop i)=if (ts[i].gs.length:Int) > 12 then none else (gdsN sl nr ns z ts[i].gs).bind fun q=>stsN sl nr ns q (ts.drop (i+1)):=by
 rw [List.drop_eq_getElem_cons hi]; rfl
theorem formed_any (t:TbM) (w:World) (hl:TbL w t):Calls zG 28 #[.agg t.vals] w fun e w'=>e=.returned (.bool (QG t))∧Below w§ w w':=by
 have hb1:=Bn w (.cells t.vals 26)
 have hn1:=Hn w (.cells t.vals 26)
 obtain⟨W1,e1⟩:∃ W,w.alloc (.cells t.vals 26)=W:=⟨_,rfl⟩
 have E1:=zH e1
 rw [e1] at hb1 hn1
 have HB1:=zH hb1
 have HN1:=zH hn1
 have HL:Hid (TbL W1 t):=hl.on hb1
 have c0:W1.cell? ⟨w§,0,none⟩=some (.string t.x):=Co hn1 0
 have cN:=rname_any t.x hl.X W1
 clear hb1 e1 hl hn1
 obtain⟨ANS,eA⟩:∃ q,QG t=q:=⟨_,rfl⟩
 have HA:Hid (QG t=ANS):=eA
 rw [eA]
 clear eA
 go_enter Tryz.func28,Tryz.ntmps28
 go_upto_region 1 with fail
 rw [E1.out]
 clear E1
 go_wp2_with fail
 refine cN.mono ?_
 rintro e w2 ⟨rfl,hb2⟩
 have HB2:=zH hb2
 have c1:w2.cell? ⟨w§,1,none⟩=some (.slice t.ra t.rs.length t.rc):=Qf (Co HN1.out 1) hb2
 have c2:w2.cell? ⟨w§,2,none⟩=some (zI t.sl):=Qf (Co HN1.out 2) hb2
 have c3:w2.cell? ⟨w§,3,none⟩=some (.slice t.ca t.cs.length t.cc):=Qf (Co HN1.out 3) hb2
 have c4:w2.cell? ⟨w§,4,none⟩=some (.slice t.da t.ds.length t.dc):=Qf (Co HN1.out 4) hb2
 have c5:w2.cell? ⟨w§,5,none⟩=some (.slice t.ta t.ts.length t.tc):=Qf (Co HN1.out 5) hb2
 clear hb2 cN c0
 cases hnm:Ja t.x with
 | false =>
  have HN:Hid (ANS=false):=by show _=_; rw [← HA.out]; unfold QG; rw [hnm]; rfl
  go_wp2_with fail
  go_ret
  exact⟨by rw [HN.out]; rfl,Qa HB1.out HB2.out⟩
 | true =>
  cases h0:decide ((t.rs.length:Int) > 12) with
  | true =>
   have HN:Hid (ANS=false):=by show _=_; rw [← HA.out]; exact JM (by have:=of_decide_eq_true h0; unfold Q0 Qb; simp; omega)
   go_wp2_with fail
   go_ret
   exact⟨by rw [HN.out]; rfl,Qa HB1.out HB2.out⟩
  | false =>
   cases h1:decide (t.sl < 0) with
   | true =>
    have HN:Hid (ANS=false):=by show _=_; rw [← HA.out]; exact JM (by have:=of_decide_eq_true h1; unfold Q0 Qb; simp; omega)
    go_wp2_with fail
    go_ret
    exact⟨by rw [HN.out]; rfl,Qa HB1.out HB2.out⟩
   | false =>
    cases h2:decide (t.sl > 4) with
    | true =>
     have HN:Hid (ANS=false):=by show _=_; rw [← HA.out]; exact JM (by have:=of_decide_eq_true h2; unfold Q0 Qb; simp; omega)
     go_wp2_with fail
     go_ret
     exact⟨by rw [HN.out]; rfl,Qa HB1.out HB2.out⟩
    | false =>
     cases h3:decide ((t.cs.length:Int) > 1024) with
     | true =>
      have HN:Hid (ANS=false):=by show _=_; rw [← HA.out]; exact JM (by have:=of_decide_eq_true h3; unfold Q0 Qb; simp; omega)
      go_wp2_with fail
      go_ret
      exact⟨by rw [HN.out]; rfl,Qa HB1.out HB2.out⟩
     | false =>
      cases h4:decide ((t.ds.length:Int) > 4096) with
      | true =>
       have HN:Hid (ANS=false):=by show _=_; rw [← HA.out]; exact JM (by have:=of_decide_eq_true h4; unfold Q0 Qb; simp; omega)
       go_wp2_with fail
       go_ret
       exact⟨by rw [HN.out]; rfl,Qa HB1.out HB2.out⟩
      | false =>
       cases h5:decide ((t.ts.length:Int) < 1) with
       | true =>
        have HN:Hid (ANS=false):=by show _=_; rw [← HA.out]; exact JM (by have:=of_decide_eq_true h5; unfold Q0 Qb; simp; omega)
        go_wp2_with fail
        go_ret
        exact⟨by rw [HN.out]; rfl,Qa HB1.out HB2.out⟩
       | false =>
        cases h6:decide ((t.ts.length:Int) > 12) with
        | true =>
         have HN:Hid (ANS=false):=by show _=_; rw [← HA.out]; exact JM (by have:=of_decide_eq_true h6; unfold Q0 Qb; simp; omega)
         go_wp2_with fail
         go_ret
         exact⟨by rw [HN.out]; rfl,Qa HB1.out HB2.out⟩
        | false =>
         have HSZ:Hid (Q0 t=true∧t.ts.length≤12):=by
          have a0:=of_decide_eq_false h0; have a1:=of_decide_eq_false h1; have a2:=of_decide_eq_false h2; have a3:=of_decide_eq_false h3
          have a4:=of_decide_eq_false h4; have a5:=of_decide_eq_false h5; have a6:=of_decide_eq_false h6
          refine⟨?_,by omega⟩
          unfold Q0 Qb
          simp
          omega
         have HF:Hid (endB t.ds.length (stsN t.sl t.rs.length t.ts.length 0 t.ts)=ANS):=by show _=_; rw [← HA.out]; unfold QG; rw [hnm,HSZ.out.1]; rfl
         clear HA
         go_upto_region 4 with fail
         clear h0 h1 h2 h3 h4 h5 h6 hnm c1 c2 c3 c4 c5
         obtain⟨X,eX⟩:∃ X,stsN t.sl t.rs.length t.ts.length 0 t.ts=X:=⟨_,rfl⟩
         have HX:=zH eX
         rw [eX] at HF
         clear eX
         go_wp2_with fail
         go_loopw [4,5] (fun v q wr=>∃ (z:Int) (i:Nat),i≤t.ts.length∧v=zI z∧q=zI i∧Hid (Below W1§ W1 wr)∧Hid (stsN t.sl t.rs.length t.ts.length z (t.ts.drop i)=X)) (fun _ q _=>t.ts.length - (intOf q).toNat)
         case atStart=>exact⟨0,0,by omega,rfl,rfl,HB2,HX⟩
         case round =>
          clear HB2 HX
          obtain⟨z,i,hi,rfl,rfl,HBR,HSR⟩:=hrel
          have c5:wr.cell? ⟨w§,5,none⟩=some (.slice t.ta t.ts.length t.tc):=Qf (Co HN1.out 5) HBR.out
          by_cases hlt:i < t.ts.length
          ·have hlt':(i:Int) < (t.ts.length:Int):=by omega
           have hmx:(i:Int)+1≤9223372036854775807:=by have:=HSZ.out.2; omega
           obtain⟨b1,o1,ea,r1⟩:=QP StM.sz HL.out.T i hlt
           have HGX:Hid (StL W1 t.ts[i]):=HL.out.Ti _ (List.getElem_mem hlt)
           have HSA:Hid ((if (t.ts[i].gs.length:Int) > 12 then none else (gdsN t.sl t.rs.length t.ts.length z t.ts[i].gs).bind fun q=>stsN t.sl t.rs.length t.ts.length q (t.ts.drop (i+1)))=X):=by show _=_; rw [← sts_at hlt]; exact HSR.out
           obtain⟨x,ex⟩:∃ x,t.ts[i]=x:=⟨_,rfl⟩
           rw [ex] at r1 HGX HSA
           clear ex HSR
           rw [ea] at c5
           have HC5:Hid (W1.cell? ⟨w§,5,none⟩=some (.slice (some ⟨b1,o1,none⟩) t.ts.length t.tc)):=by rw [← ea]; exact Co HN1.out 5
           clear ea
           have HX0:Hid (W1.cell? ⟨b1,o1+i,none⟩=some (.slice x.a x.gs.length x.c)):=by have:=r1 0 _ rfl; rw [Nat.mul_one,Nat.add_zero] at this; exact this
           clear r1
           have x0:=Qf HX0.out HBR.out
           cases h7:decide ((x.gs.length:Int) > 12) with
           | true =>
            have HN:Hid (ANS=false):=by show _=_; rw [← HF.out,← HSA.out,if_pos (of_decide_eq_true h7)]; rfl
            go_wp2_with fail
            go_ret
            exact⟨by rw [HN.out]; rfl,Qa HB1.out HBR.out⟩
           | false =>
            have HSB:Hid ((gdsN t.sl t.rs.length t.ts.length z x.gs).bind (fun q=>stsN t.sl t.rs.length t.ts.length q (t.ts.drop (i+1)))=X):=by show _=_; rw [← HSA.out,if_neg (of_decide_eq_false h7)]
            have hgl:x.gs.length≤12:=by have:=of_decide_eq_false h7; omega
            clear HSA
            go_upto_region 10 with fail
            clear h7 x0
            go_wp2_with fail
            clear c5
            go_loopw [4,6] (fun v q wv=>∃ (y:Int) (j:Nat),j≤x.gs.length∧v=zI y∧q=zI j∧Hid (Below W1§ W1 wv)∧Hid ((gdsN t.sl t.rs.length t.ts.length y (x.gs.drop j)).bind (fun q=>stsN t.sl t.rs.length t.ts.length q (t.ts.drop (i+1)))=X)) (fun _ q _=>x.gs.length - (intOf q).toNat)
            case atStart=>exact⟨z,0,by omega,rfl,rfl,HBR,HSB⟩
            case round =>
             clear HBR HSB
             obtain⟨y,j,hj,rfl,rfl,HBW,HJR⟩:=hrel
             have c5:=Qf HC5.out HBW.out
             have x0:=Qf HX0.out HBW.out
             by_cases hjl:j < x.gs.length
             ·have hjl':(j:Int) < (x.gs.length:Int):=by omega
              have hmy:(j:Int)+1≤9223372036854775807:=by omega
              obtain⟨b3,o3,ea,r3⟩:=QP GdM.sz HGX.out.1 j hjl
              have HGG:=HGX.out.2 _ (List.getElem_mem hjl)
              have HJA:Hid ((gdN t.sl t.rs.length t.ts.length x.gs[j] y).bind (fun q=>(gdsN t.sl t.rs.length t.ts.length q (x.gs.drop (j+1))).bind (fun q=>stsN t.sl t.rs.length t.ts.length q (t.ts.drop (i+1))))=X):=by
               show _=_
               rw [← HJR.out,gds_at hjl,Option.bind_assoc]
              obtain⟨g,eg⟩:∃ g,x.gs[j]=g:=⟨_,rfl⟩
              rw [eg] at r3 HGG HJA
              clear eg HJR
              have HXA:Hid (W1.cell? ⟨b1,o1+i,none⟩=some (.slice (some ⟨b3,o3,none⟩) x.gs.length x.c)):=by rw [← ea]; exact HX0
              have HR3:=zH r3
              clear ea r3
              have HFA:Hid (∀ v:World,Below wr§ wr v→v.heap[w§]? = some (.cells t.vals 26 (0,0))):=fun v hv=>((Qa HBW.out hv).block _ (Qy HN1.out)).trans HN1.out
              have HFB:Hid (∀ v:World,Below wr§ wr v→v.cell? ⟨w§,5,none⟩=some (.slice (some ⟨b1,o1,none⟩) t.ts.length t.tc)):=fun v hv=>Qf HC5.out (Qa HBW.out hv)
              have HFC:Hid (∀ v:World,Below wr§ wr v→v.cell? ⟨b1,o1+i,none⟩=some (.slice (some ⟨b3,o3,none⟩) x.gs.length x.c)):=fun v hv=>Qf HXA.out (Qa HBW.out hv)
              have HFD:Hid (∀ v:World,Below wr§ wr v→v.rangeAt b3 (o3+j * 5) g.vals.toList):=fun v hv=>rng_on HR3.out (Qa HBW.out hv)
              have cR:=rguard_any' t g y wr.drew ((HGG.on HBW.out).on ⟨rfl,rfl,rfl,Nat.le_refl _,fun _ _=>rfl⟩)
              clear HR3 HXA HGG
              go_upto_region 13 with fail
              clear c5 x0
              refine wp_region_held_drew (S:=fun v=>Below wr§ wr v) zK ⟨rfl,rfl,rfl,Nat.le_refl _,fun _ _=>rfl⟩ (fun hHeld=>?_)
              refine wpAnyH_take (i:=0) (v:=.agg t.vals) rfl zK zK zK (fun _ _ _ h=>h) (yl_row (by rfl) 26 (.tmp 1) rfl w§ rfl 26 t.vals (0,0) _ HFA.out Tryz.underlying26 rfl Qe) (by assumption) ?_
              try simp [Act.put]
              refine wpAnyH_take (i:=1) (v:=?_) rfl zK zK zK (fun _ _ _ h=>h) (Or.inl ⟨by rfl,?_⟩) (by assumption) ?_
              rotate_left
              ·(intro v hv; go_simp; try (with_reducible rfl))
              try simp [Act.put]
              refine wpAnyH_take (i:=2) (v:=?_) rfl zK zK zK (fun _ _ _ h=>h) (Or.inl ⟨by rfl,?_⟩) (by assumption) ?_
              rotate_left
              ·(intro v hv; have hF:=HFB.out v hv; go_simp; try (with_reducible rfl))
              try simp [Act.put]
              refine wpAnyH_take (i:=3) (v:=?_) rfl zK zK zK (fun _ _ _ h=>h) (Or.inl ⟨by rfl,?_⟩) (by assumption) ?_
              rotate_left
              ·(intro v hv; go_simp; try (with_reducible rfl))
              try simp [Act.put]
              refine wpAnyH_take (i:=4) (v:=?_) rfl zK zK zK (fun _ _ _ h=>h) (Or.inl ⟨by rfl,?_⟩) (by assumption) ?_
              rotate_left
              ·(intro v hv; go_simp; try (with_reducible rfl))
              try simp [Act.put]
              refine wpAnyH_take (i:=5) (v:=?_) rfl zK zK zK (fun _ _ _ h=>h) (Or.inl ⟨by rfl,?_⟩) (by assumption) ?_
              rotate_left
              ·(intro v hv; have hF:=HFC.out v hv; go_simp; try (with_reducible rfl))
              try simp [Act.put]
              refine wpAnyH_take (i:=6) (v:=?_) rfl zK zK zK (fun _ _ _ h=>h) (Or.inl ⟨by rfl,?_⟩) (by assumption) ?_
              rotate_left
              ·(intro v hv; go_simp; try (with_reducible rfl))
              try simp [Act.put]
              refine wpAnyH_take (i:=7) (v:=?_) rfl zK zK zK (fun _ _ _ h=>h) (Or.inl ⟨by rfl,?_⟩) (by assumption) ?_
              rotate_left
              ·(intro v hv; go_simp; try (with_reducible rfl))
              try simp [Act.put]
              refine wpAnyH_take (i:=8) (v:=.agg g.vals) rfl zK zK zK (fun _ _ _ h=>h) (yl_mid (by rfl) 68 (.tmp 86) rfl b3 (o3+j * 5) rfl g.vals _ HFD.out Tryz.underlying68 rfl (by show _=some 5; exact QD)) (by assumption) ?_
              try simp [Act.put]
              refine wpAnyH_take (i:=9) (v:=?_) rfl zK zK zK (fun _ _ _ h=>h) (Or.inl ⟨by rfl,?_⟩) (by assumption) ?_
              rotate_left
              ·(intro v hv; go_simp; try (with_reducible rfl))
              try simp [Act.put]
              refine wpAnyH_ready (rs:=[10]) zK (by simp) ?_
              refine AllReadyH.cons rfl (fun K hK=>?_) AllReadyH.nil
              go_simp
              refine cR.mono ?_
              rintro e w5 ⟨rfl,hb5⟩
              have hB5:Below wr§ wr w5:=⟨hb5.os,hb5.tape,hb5.output,hb5.size,hb5.block⟩
              have HB5:=zH (Qa HBW.out hB5)
              refine hK.out _ _ hB5 (fun hHeld=>?_)
              clear hK K cR hb5 hB5
              try simp [Act.put]
              cases hrw:gdN t.sl t.rs.length t.ts.length g y with
              | none =>
               have HN:Hid (ANS=false):=by show _=_; rw [← HF.out,← HJA.out,hrw]; rfl
               unfold outP
               refine wpAnyH_take (i:=11) (v:=?_) rfl zK zK zK (fun _ _ _ h=>h) (Or.inl ⟨by rfl,?_⟩) (by assumption) ?_
               rotate_left
               ·(intro v hv; go_simp; try (with_reducible rfl))
               try simp [Act.put]
               refine wpAnyH_take (i:=12) (v:=?_) rfl zK zK zK (fun _ _ _ h=>h) (Or.inl ⟨by rfl,?_⟩) (by assumption) ?_
               rotate_left
               ·(intro v hv; go_simp; try (with_reducible rfl))
               try simp [Act.put]
               refine wpAnyH_take (i:=13) (v:=?_) rfl zK zK zK (fun _ _ _ h=>h) (Or.inl ⟨by rfl,?_⟩) (by assumption) ?_
               rotate_left
               ·(intro v hv; go_simp; try (with_reducible rfl))
               try simp [Act.put]
               refine wpAnyH_take (i:=14) (v:=?_) rfl zK zK zK (fun _ _ _ h=>h) (Or.inl ⟨by rfl,?_⟩) (by assumption) ?_
               rotate_left
               ·(intro v hv; go_simp; try (with_reducible rfl))
               try simp [Act.put]
               refine wpAnyH_take (i:=15) (v:=?_) rfl zK zK zK (fun _ _ _ h=>h) (Or.inl ⟨by rfl,?_⟩) (by assumption) ?_
               rotate_left
               ·(intro v hv; go_simp; try (with_reducible rfl))
               try simp [Act.put]
               refine wpAnyH_done zK ?_ _
               go_wp2_with fail
               go_ret
               exact⟨by rw [HN.out]; rfl,Qa HB1.out HB5.out⟩
              | some q =>
               have HN:Hid ((gdsN t.sl t.rs.length t.ts.length q (x.gs.drop (j+1))).bind (fun q=>stsN t.sl t.rs.length t.ts.length q (t.ts.drop (i+1)))=X):=by show _=_; rw [← HJA.out,hrw]; rfl
               unfold outP
               refine wpAnyH_take (i:=11) (v:=?_) rfl zK zK zK (fun _ _ _ h=>h) (Or.inl ⟨by rfl,?_⟩) (by assumption) ?_
               rotate_left
               ·(intro v hv; go_simp; try (with_reducible rfl))
               try simp [Act.put]
               refine wpAnyH_take (i:=12) (v:=?_) rfl zK zK zK (fun _ _ _ h=>h) (Or.inl ⟨by rfl,?_⟩) (by assumption) ?_
               rotate_left
               ·(intro v hv; go_simp; try (with_reducible rfl))
               try simp [Act.put]
               refine wpAnyH_take (i:=13) (v:=?_) rfl zK zK zK (fun _ _ _ h=>h) (Or.inl ⟨by rfl,?_⟩) (by assumption) ?_
               rotate_left
               ·(intro v hv; go_simp; try (with_reducible rfl))
               try simp [Act.put]
               refine wpAnyH_take (i:=14) (v:=?_) rfl zK zK zK (fun _ _ _ h=>h) (Or.inl ⟨by rfl,?_⟩) (by assumption) ?_
               rotate_left
               ·(intro v hv; go_simp; try (with_reducible rfl))
               try simp [Act.put]
               refine wpAnyH_take (i:=15) (v:=?_) rfl zK zK zK (fun _ _ _ h=>h) (Or.inl ⟨by rfl,?_⟩) (by assumption) ?_
               rotate_left
               ·(intro v hv; go_simp; try (with_reducible rfl))
               try simp [Act.put]
               refine wpAnyH_done zK ?_ _
               go_wp2_with fail
               exact⟨⟨q,j+1,hjl,rfl,rfl,HB5,HN⟩,by simp only [intOf]; omega⟩
             ·obtain rfl:j=x.gs.length:=by omega
              have hnot:¬ (x.gs.length:Int) < (x.gs.length:Int):=by omega
              have HN:Hid (stsN t.sl t.rs.length t.ts.length y (t.ts.drop (i+1))=X):=by show _=_; rw [← HJR.out,List.drop_length]; rfl
              go_wp2_with fail
              exact⟨⟨y,i+1,hlt,rfl,rfl,HBW,HN⟩,by simp only [intOf]; omega⟩
          ·obtain rfl:i=t.ts.length:=by omega
           have hnot:¬ (t.ts.length:Int) < (t.ts.length:Int):=by omega
           have c4:wr.cell? ⟨w§,4,none⟩=some (.slice t.da t.ds.length t.dc):=Qf (Co HN1.out 4) HBR.out
           have HN:Hid (ANS=(z == (t.ds.length:Int))):=by
            show _=_
            rw [← HF.out,← HSR.out,List.drop_length]; rfl
           go_wp2_with fail
           go_ret
           exact⟨by rw [HN.out]; rfl,Qa HB1.out HBR.out⟩
end Go.Proofs.YteedmmljahgpjaaGreatDoor
