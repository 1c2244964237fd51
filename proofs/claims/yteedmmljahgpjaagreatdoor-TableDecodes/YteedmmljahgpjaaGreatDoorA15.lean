import Derived.Test.YteedmmljahgpjaaGreatDoorA0
import Derived.Test.YteedmmljahgpjaaGreatDoorA14
namespace Go.Proofs.YteedmmljahgpjaaGreatDoor
namespace O
set_option maxRecDepth 100000
set_option maxHeartbeats 4000000
open Go.RowKit
set_option linter.unusedVariables false
set_option linter.unusedSimpArgs false
theorem rels_R {al:List RowM}{xs:List (Array Value)}{nbs:List Bx}(h:Rels RelR al xs nbs):xs=al.map RowM.vals∧nbs = []:=by
 induction h with
 | nil=>exact⟨rfl,rfl⟩
 | snoc _ k _ ih=>obtain⟨rfl,rfl⟩:=k; obtain⟨rfl,rfl⟩:=ih; exact⟨by simp,rfl⟩
theorem rels_I {al:List Int}{xs:List (Array Value)}{nbs:List Bx}(h:Rels RelI al xs nbs):xs=al.map QF∧nbs = []:=by
 induction h with
 | nil=>exact⟨rfl,rfl⟩
 | snoc _ k _ ih=>obtain⟨rfl,rfl⟩:=k; obtain⟨rfl,rfl⟩:=ih; exact⟨by simp,rfl⟩
theorem rels_D {al:List InM}{xs:List (Array Value)}{nbs:List Bx}(h:Rels RelD al xs nbs):xs=al.map InM.vals∧nbs = []:=by
 induction h with
 | nil=>exact⟨rfl,rfl⟩
 | snoc _ k _ ih=>obtain⟨rfl,rfl⟩:=k; obtain⟨rfl,rfl⟩:=ih; exact⟨by simp,rfl⟩
theorem Km {mz R n:Nat}{bs:List Bx}{q:RS}{s:ByteArray}{p:Int}{w w0:World}(h:Rd w0 mz w R bs q s p) (hs:s.size≤1099511627776) (hn:n≤8) (hq:0≤q.sp∧q.sp≤400000000000):Calls zG 151 #[zI n,.func (.func 152) #[zP R] #[]] w (OutL w0 mz R bs s RelR 85 11 n w§ (Qd (stR s.data.toList) n q p)) :=
 Kp (stR s.data.toList) RelR Value.agg (fun i q'=>0≤q'.sp∧q'.sp≤q.sp+16384 * i) R n bs q s p w w0 h (by omega) ⟨hq.1,by simp⟩ (fun a x nb _=>rfl) (fun a x nb hx=>by rw [hx.1]; exact⟨rfl,QQ a⟩)
  (fun i q1 p1 a q' p' hi hq1 hst=>by have:=rowR_6 hst; omega)
  (fun i V bs q1 p1 hi hq1 _ hV=>stepR hV hs ⟨hq1.1,by omega⟩)
def RelG (g:GdP) (x:Array Value) (nb:List Bx):Prop:=∃ a,x=GdM.vals ⟨g.wh,g.fd,g.rg,a,g.rs.length,g.rs⟩∧Keep nb (fun V=>SlAt V 11 a g.rs.length (g.rs.map RowM.vals))∧Keep nb (fun V=>OwR V 85 11 a g.rs.length (g.rs.map RowM.vals))∧Hd a nb
theorem rrule_any (R:Nat) (bs:List Bx) (q:RS) (s:ByteArray) (p:Int) (t:TbM) (w:World) {mz:Nat}(w0:World) (h:Rd w0 mz w R bs q s p) (hmz:mz=w§) (hs:s.size≤1099511627776) (hq:0≤q.sp∧q.sp≤300000000000) (hqt:IsT q t) (bs0:List Bx) (hsub:∀ b ∈ bs0,b ∈ bs) (hK:Keep bs0 (fun V=>TbL V t)):Calls zG 136 #[zP R] w fun e w'=>OutS w0 mz R bs s RelG Value.agg w§ (QT t.ds s.data.toList q p) e w':=by
 have hmf:∀ (fn:Fn) (first cap:Array Value) (w:World),(Instr.makeFunc fn first cap).run Tryz.prog w=.ok (.func fn first cap) w:=fun _ _ _ _=>rfl
 have HW0:Hid (w0§≤w§):=h.B.size
 have HWR:Hid (w§≠R):=by have:=h.lt; show _≠_; omega
 have HFR:Hid (∀ b ∈ bs,b.1≠w§):=h.fresh
 have HR1:Hid (Rd w0 mz (w.alloc (.cells zA4 68)) R ((w§,68,zA4) :: bs) q s p):=h.add (Bn _ _) _ _ _ (Nat.le_refl _) (Hn _ _)
 have HMZ:Hid (mz=w§):=hmz
 obtain⟨W1,e1⟩:∃ W,w.alloc (.cells zA4 68)=W:=⟨_,rfl⟩
 have E1:Hid (w.alloc (.cells zA4 68)=W1):=e1
 rw [e1] at HR1
 have HQT:Hid (IsT q t):=hqt
 have HSB:Hid (∀ b ∈ bs0,b ∈ bs):=hsub
 have HKT:Hid (Keep bs0 (fun V=>TbL V t)):=hK
 unfold QT
 clear h e1 hqt hsub hK hmz
 cases hL:lenR q s.data.toList p with
 | none =>
  have cL:=len_no HR1.out hs ⟨hq.1,by omega⟩ hL
  show Calls zG 136 #[zP R] w (fun e w'=>e=pan pf∧Below w0§ w0 w')
  go_enter Tryz.func136,Tryz.ntmps136
  go_upto_region 1 with fail
  rw [E1.out]
  clear E1
  go_wp2_with fail
  refine cL.mono ?_
  rintro e w2 ⟨rfl,hb⟩
  exact⟨rfl,rfl,hb⟩
 | some dq =>
  obtain⟨d,q1,p1⟩:=dq
  have cL:=len_ok HR1.out hs ⟨hq.1,by omega⟩ hL
  obtain⟨hS1,hq10,hq11⟩:=lenR_6 hL
  have HS1:Hid (QK q q1):=hS1
  show Calls zG 136 #[zP R] w (OutS w0 mz R bs s RelG Value.agg w§ (Option.bind (Qh 8 s.data.toList p1) _))
  cases hn:Qh 8 s.data.toList p1 with
  | none =>
   show Calls zG 136 #[zP R] w (fun e w'=>e=pan pf∧Below w0§ w0 w')
   clear hL hS1
   go_enter Tryz.func136,Tryz.ntmps136
   go_upto_region 1 with fail
   rw [E1.out]
   clear E1
   go_wp2_with fail
   refine cL.mono ?_
   rintro e w2 ⟨rfl,hr2⟩
   have hf2:=hr2.fresh
   have HZ:Hid ((w2.alloc (.cells #[zI 0,zI 0] 65)).heap[w2§]? = some (.cells #[zI 0,zI 0] 65 (0,0))):=Hn _ _
   have hbx:Below w2§ w2 ((w2.alloc (.cells #[zI 0,zI 0] 65)).setRow w2§ d.vals):=Qc (Bn _ _) (Nat.le_refl _) _
   have hR3:=hr2.add hbx w2§ 65 d.vals (Nat.le_refl _) (setRow_heap _ _ _ _ _ _ HZ.out)
   have HR3:Hid (Rd w0 mz ((w2.alloc (.cells #[zI 0,zI 0] 65)).setRow w2§ d.vals) R ((w2§,65,d.vals) :: (w§,68,zA4) :: bs) q1 s p1):=hR3
   clear cL hr2 hbx hR3
   go_upto_region 2 with (refine wpList_store_row rfl 65 (.tmp 3) (.tmp 5) rfl w2§ d.vals rfl rfl 65 #[zI 0,zI 0] HZ.out Qt rfl (JF d) ?_)
   obtain⟨g3,eg3⟩:∃ g,w2§=g:=⟨_,rfl⟩
   rw [eg3] at HR3 hf2 ⊢
   generalize World.setRow _ _ _=W3 at HR3 ⊢
   clear HZ eg3
   have HFA:Hid (∀ v:World,v.heap[g3]? = some (.cells d.vals 65 (0,0))→v.cell? ⟨g3,0,none⟩=some (zI d.f)∧v.cell? ⟨g3,1,none⟩=some (zI d.t)):=fun v hv=>⟨Co hv 0,Co hv 1⟩
   have HRd:Hid (Rd w0 mz W3.drew R ((g3,65,d.vals) :: (w§,68,zA4) :: bs) q1 s p1):=HR3.out.on ⟨rfl,rfl,rfl,Nat.le_refl _,fun _ _=>rfl⟩
   refine wp_region_held_drew (S:=fun v=>v.heap[g3]? = some (.cells d.vals 65 (0,0))) zK HRd.out.box (fun hHeld=>?_)
   have cU:=Jw HRd.out hs (by omega) hn
   refine wpAnyH_take (i:=0) (v:=?_) rfl zK zK zK (fun _ _ _ h=>h) (Or.inl ⟨by rfl,?_⟩) (by assumption) ?_
   rotate_left
   ·(intro v hv; go_simp; try (with_reducible rfl))
   try simp [Act.put]
   refine wpAnyH_take (i:=1) (v:=?_) rfl zK zK zK (fun _ _ _ h=>h) (Or.inl ⟨by rfl,?_⟩) (by assumption) ?_
   rotate_left
   ·(intro v hv; go_simp; try (with_reducible rfl))
   try simp [Act.put]
   refine wpAnyH_take (i:=2) (v:=?_) rfl zK zK zK (fun _ _ _ h=>h) (Or.inl ⟨by rfl,?_⟩) (by assumption) ?_
   rotate_left
   ·(intro v hv; go_simp; try (with_reducible rfl))
   try simp [Act.put]
   refine wpAnyH_take (i:=3) (v:=?_) rfl zK zK zK (fun _ _ _ h=>h) (Or.inl ⟨by rfl,?_⟩) (by assumption) ?_
   rotate_left
   ·(intro v hv; obtain⟨b0,b1⟩:=HFA.out v hv; go_simp; try (with_reducible rfl))
   try simp [Act.put]
   refine wpAnyH_take (i:=4) (v:=?_) rfl zK zK zK (fun _ _ _ h=>h) (Or.inl ⟨by rfl,?_⟩) (by assumption) ?_
   rotate_left
   ·(intro v hv; go_simp; try (with_reducible rfl))
   try simp [Act.put]
   refine wpAnyH_take (i:=6) (v:=?_) rfl zK zK zK (fun _ _ _ h=>h) (Or.inl ⟨by rfl,?_⟩) (by assumption) ?_
   rotate_left
   ·(intro v hv; go_simp; try (with_reducible rfl))
   try simp [Act.put]
   refine wpAnyH_take (i:=7) (v:=?_) rfl zK zK zK (fun _ _ _ h=>h) (Or.inl ⟨by rfl,?_⟩) (by assumption) ?_
   rotate_left
   ·(intro v hv; go_simp; try (with_reducible rfl))
   try simp [Act.put]
   refine wpAnyH_ready (rs:=[5]) zK (by simp) ?_
   refine AllReadyH.cons rfl (fun K hK=>?_) AllReadyH.nil
   go_simp
   refine cU.mono ?_
   rintro e w4 ⟨rfl,hb⟩
   exact⟨rfl,rfl,hb⟩
  | some np =>
   obtain⟨n,p2⟩:=np
   obtain⟨hn0,hn8⟩:=Qo hn
   obtain⟨k,rfl⟩:=Int.eq_ofNat_of_zero_le hn0
   show Calls zG 136 #[zP R] w (OutS w0 mz R bs s RelG Value.agg w§ (Option.map _ (Qd (stR s.data.toList) k q1 p2)))
   have hk8:k≤8:=by omega
   cases hrs:Qd (stR s.data.toList) k q1 p2 with
   | none =>
    show Calls zG 136 #[zP R] w (fun e w'=>e=pan pf∧Below w0§ w0 w')
    clear hL hS1
    go_enter Tryz.func136,Tryz.ntmps136
    go_upto_region 1 with fail
    rw [E1.out]
    clear E1
    go_wp2_with fail
    refine cL.mono ?_
    rintro e w2 ⟨rfl,hr2⟩
    have hf2:=hr2.fresh
    have HZ:Hid ((w2.alloc (.cells #[zI 0,zI 0] 65)).heap[w2§]? = some (.cells #[zI 0,zI 0] 65 (0,0))):=Hn _ _
    have hbx:Below w2§ w2 ((w2.alloc (.cells #[zI 0,zI 0] 65)).setRow w2§ d.vals):=Qc (Bn _ _) (Nat.le_refl _) _
    have hR3:=hr2.add hbx w2§ 65 d.vals (Nat.le_refl _) (setRow_heap _ _ _ _ _ _ HZ.out)
    have HR3:Hid (Rd w0 mz ((w2.alloc (.cells #[zI 0,zI 0] 65)).setRow w2§ d.vals) R ((w2§,65,d.vals) :: (w§,68,zA4) :: bs) q1 s p1):=hR3
    clear cL hr2 hbx hR3
    go_upto_region 2 with (refine wpList_store_row rfl 65 (.tmp 3) (.tmp 5) rfl w2§ d.vals rfl rfl 65 #[zI 0,zI 0] HZ.out Qt rfl (JF d) ?_)
    obtain⟨g3,eg3⟩:∃ g,w2§=g:=⟨_,rfl⟩
    rw [eg3] at HR3 hf2 ⊢
    generalize World.setRow _ _ _=W3 at HR3 ⊢
    clear HZ eg3
    have HFA:Hid (∀ v:World,v.heap[g3]? = some (.cells d.vals 65 (0,0))→v.cell? ⟨g3,0,none⟩=some (zI d.f)∧v.cell? ⟨g3,1,none⟩=some (zI d.t)):=fun v hv=>⟨Co hv 0,Co hv 1⟩
    have HRd:Hid (Rd w0 mz W3.drew R ((g3,65,d.vals) :: (w§,68,zA4) :: bs) q1 s p1):=HR3.out.on ⟨rfl,rfl,rfl,Nat.le_refl _,fun _ _=>rfl⟩
    refine wp_region_held_drew (S:=fun v=>v.heap[g3]? = some (.cells d.vals 65 (0,0))) zK HRd.out.box (fun hHeld=>?_)
    have cU:=Jd HRd.out hs (by omega) hn
    refine wpAnyH_take (i:=0) (v:=?_) rfl zK zK zK (fun _ _ _ h=>h) (Or.inl ⟨by rfl,?_⟩) (by assumption) ?_
    rotate_left
    ·(intro v hv; go_simp; try (with_reducible rfl))
    try simp [Act.put]
    refine wpAnyH_take (i:=1) (v:=?_) rfl zK zK zK (fun _ _ _ h=>h) (Or.inl ⟨by rfl,?_⟩) (by assumption) ?_
    rotate_left
    ·(intro v hv; go_simp; try (with_reducible rfl))
    try simp [Act.put]
    refine wpAnyH_take (i:=2) (v:=?_) rfl zK zK zK (fun _ _ _ h=>h) (Or.inl ⟨by rfl,?_⟩) (by assumption) ?_
    rotate_left
    ·(intro v hv; go_simp; try (with_reducible rfl))
    try simp [Act.put]
    refine wpAnyH_take (i:=3) (v:=?_) rfl zK zK zK (fun _ _ _ h=>h) (Or.inl ⟨by rfl,?_⟩) (by assumption) ?_
    rotate_left
    ·(intro v hv; obtain⟨b0,b1⟩:=HFA.out v hv; go_simp; try (with_reducible rfl))
    try simp [Act.put]
    refine wpAnyH_take (i:=4) (v:=?_) rfl zK zK zK (fun _ _ _ h=>h) (Or.inl ⟨by rfl,?_⟩) (by assumption) ?_
    rotate_left
    ·(intro v hv; go_simp; try (with_reducible rfl))
    try simp [Act.put]
    refine wpAnyH_take (i:=6) (v:=?_) rfl zK zK zK (fun _ _ _ h=>h) (Or.inl ⟨by rfl,?_⟩) (by assumption) ?_
    rotate_left
    ·(intro v hv; go_simp; try (with_reducible rfl))
    try simp [Act.put]
    refine wpAnyH_take (i:=7) (v:=?_) rfl zK zK zK (fun _ _ _ h=>h) (Or.inl ⟨by rfl,?_⟩) (by assumption) ?_
    rotate_left
    ·(intro v hv; go_simp; try (with_reducible rfl))
    try simp [Act.put]
    refine wpAnyH_ready (rs:=[5]) zK (by simp) ?_
    refine AllReadyH.cons rfl (fun K hK=>?_) AllReadyH.nil
    go_simp
    refine cU.mono ?_
    rintro e w4 ⟨rfl,hr4⟩
    have cR:=Km (n:=k) hr4 hs hk8 ⟨by omega,by omega⟩
    rw [hrs] at cR
    replace cR:Calls zG 151 #[zI k,.func (.func 152) #[zP R] #[]] w4 (fun e w'=>e=pan pf∧Below w0§ w0 w'):=cR
    refine hK.out _ _ hr4.box (fun hHeld=>?_)
    clear hK K cU hr4
    try simp [Act.put]
    refine wpAnyH_ready (rs:=[8]) zK (by simp) ?_
    refine AllReadyH.cons rfl (fun K hK=>?_) AllReadyH.nil
    go_simp
    refine cR.mono ?_
    rintro e w5 ⟨rfl,hb⟩
    exact⟨rfl,rfl,hb⟩
   | some rq =>
    obtain⟨rows,q3,p3⟩:=rq
    obtain⟨hS3,_,_,hlen⟩:=rowsR_6 k hrs
    have HS3:Hid (QK q1 q3):=hS3
    show Calls zG 136 #[zP R] w (fun e w'=>∃ x nb,e=.returned (.agg x)∧RelG ⟨d,(Ql t.ds d).1,(Ql t.ds d).2,rows⟩ x nb∧Rd w0 mz w' R (nb ++ bs) q3 s p3∧(∀ b ∈ nb,w§≤b.1)∧w§≤w'§)
    clear hL hS1 hS3
    go_enter Tryz.func136,Tryz.ntmps136
    go_upto_region 1 with fail
    rw [E1.out]
    clear E1
    go_wp2_with fail
    refine cL.mono ?_
    rintro e w2 ⟨rfl,hr2⟩
    have hf2:=hr2.fresh
    have HZ:Hid ((w2.alloc (.cells #[zI 0,zI 0] 65)).heap[w2§]? = some (.cells #[zI 0,zI 0] 65 (0,0))):=Hn _ _
    have hbx:Below w2§ w2 ((w2.alloc (.cells #[zI 0,zI 0] 65)).setRow w2§ d.vals):=Qc (Bn _ _) (Nat.le_refl _) _
    have hR3:=hr2.add hbx w2§ 65 d.vals (Nat.le_refl _) (setRow_heap _ _ _ _ _ _ HZ.out)
    have HR3:Hid (Rd w0 mz ((w2.alloc (.cells #[zI 0,zI 0] 65)).setRow w2§ d.vals) R ((w2§,65,d.vals) :: (w§,68,zA4) :: bs) q1 s p1):=hR3
    clear cL hr2 hbx hR3
    go_upto_region 2 with (refine wpList_store_row rfl 65 (.tmp 3) (.tmp 5) rfl w2§ d.vals rfl rfl 65 #[zI 0,zI 0] HZ.out Qt rfl (JF d) ?_)
    obtain⟨g3,eg3⟩:∃ g,w2§=g:=⟨_,rfl⟩
    rw [eg3] at HR3 hf2 ⊢
    generalize World.setRow _ _ _=W3 at HR3 ⊢
    clear HZ eg3
    have HFA:Hid (∀ v:World,v.heap[g3]? = some (.cells d.vals 65 (0,0))→v.cell? ⟨g3,0,none⟩=some (zI d.f)∧v.cell? ⟨g3,1,none⟩=some (zI d.t)):=fun v hv=>⟨Co hv 0,Co hv 1⟩
    have HRd:Hid (Rd w0 mz W3.drew R ((g3,65,d.vals) :: (w§,68,zA4) :: bs) q1 s p1):=HR3.out.on ⟨rfl,rfl,rfl,Nat.le_refl _,fun _ _=>rfl⟩
    refine wp_region_held_drew (S:=fun v=>v.heap[g3]? = some (.cells d.vals 65 (0,0))) zK HRd.out.box (fun hHeld=>?_)
    have cU:=Jd HRd.out hs (by omega) hn
    refine wpAnyH_take (i:=0) (v:=?_) rfl zK zK zK (fun _ _ _ h=>h) (Or.inl ⟨by rfl,?_⟩) (by assumption) ?_
    rotate_left
    ·(intro v hv; go_simp; try (with_reducible rfl))
    try simp [Act.put]
    refine wpAnyH_take (i:=1) (v:=?_) rfl zK zK zK (fun _ _ _ h=>h) (Or.inl ⟨by rfl,?_⟩) (by assumption) ?_
    rotate_left
    ·(intro v hv; go_simp; try (with_reducible rfl))
    try simp [Act.put]
    refine wpAnyH_take (i:=2) (v:=?_) rfl zK zK zK (fun _ _ _ h=>h) (Or.inl ⟨by rfl,?_⟩) (by assumption) ?_
    rotate_left
    ·(intro v hv; go_simp; try (with_reducible rfl))
    try simp [Act.put]
    refine wpAnyH_take (i:=3) (v:=?_) rfl zK zK zK (fun _ _ _ h=>h) (Or.inl ⟨by rfl,?_⟩) (by assumption) ?_
    rotate_left
    ·(intro v hv; obtain⟨b0,b1⟩:=HFA.out v hv; go_simp; try (with_reducible rfl))
    try simp [Act.put]
    refine wpAnyH_take (i:=4) (v:=?_) rfl zK zK zK (fun _ _ _ h=>h) (Or.inl ⟨by rfl,?_⟩) (by assumption) ?_
    rotate_left
    ·(intro v hv; go_simp; try (with_reducible rfl))
    try simp [Act.put]
    refine wpAnyH_take (i:=6) (v:=?_) rfl zK zK zK (fun _ _ _ h=>h) (Or.inl ⟨by rfl,?_⟩) (by assumption) ?_
    rotate_left
    ·(intro v hv; go_simp; try (with_reducible rfl))
    try simp [Act.put]
    refine wpAnyH_take (i:=7) (v:=?_) rfl zK zK zK (fun _ _ _ h=>h) (Or.inl ⟨by rfl,?_⟩) (by assumption) ?_
    rotate_left
    ·(intro v hv; go_simp; try (with_reducible rfl))
    try simp [Act.put]
    refine wpAnyH_ready (rs:=[5]) zK (by simp) ?_
    refine AllReadyH.cons rfl (fun K hK=>?_) AllReadyH.nil
    go_simp
    refine cU.mono ?_
    rintro e w4 ⟨rfl,hr4⟩
    have cR:=Km (n:=k) hr4 hs hk8 ⟨by omega,by omega⟩
    rw [hrs] at cR
    have HL4:Hid (w§ < w4§):=(Array.getElem?_eq_some_iff.1 hr4.less.box).1
    refine hK.out _ _ hr4.box (fun hHeld=>?_)
    clear hK K cU hr4
    try simp [Act.put]
    refine wpAnyH_ready (rs:=[8]) zK (by simp) ?_
    refine AllReadyH.cons rfl (fun K hK=>?_) AllReadyH.nil
    go_simp
    refine cR.mono ?_
    rintro e w5 ⟨ra,xs,nb,nbs,rfl,hrel,hxl,hkp,hr5,hf5,hs5,how⟩
    obtain⟨rfl,rfl⟩:=rels_R hrel
    rw [List.nil_append] at hr5
    have HKP:Hid (Keep nb (fun V=>SlAt V 11 ra k (rows.map RowM.vals))):=hkp
    have HOW:Hid (Keep nb (fun V=>OwR V 85 11 ra k (rows.map RowM.vals))∧Hd ra nb):=how
    clear how
    have HF5:Hid (∀ b ∈ nb,w§ < b.1):=fun b hb=>Nat.lt_of_lt_of_le HL4.out (hf5 b (by simp [hb]))
    have hb3:w5.heap[g3]? = some (.cells d.vals 65 (0,0)):=(hr5.K (g3,65,d.vals) (by simp)).1
    subst hlen
    have cG:=rguard_any R (nb ++ ((g3,65,d.vals) :: (w§,68,zA4) :: bs)) q3 s p3 d ra rows.length rows t w5 w0 hr5 ((HQT.out.on HS1.out).on HS3.out) bs0 (fun b hb=>by simp [HSB.out b hb]) HKT.out
    refine hK.out _ _ hb3 (fun hHeld=>?_)
    clear hK K cR hr5 hrel hxl hkp hf5 hs5 hb3
    try simp [Act.put]
    refine wpAnyH_ready (rs:=[9]) zK (by simp) ?_
    refine AllReadyH.cons rfl (fun K hK=>?_) AllReadyH.nil
    go_simp
    refine cG.mono ?_
    rintro e w6 ⟨rfl,hr6⟩
    have hb3:w6.heap[g3]? = some (.cells d.vals 65 (0,0)):=(hr6.K (g3,65,d.vals) (by simp)).1
    have HN6:Hid (w6.heap[w§]? = some (.cells zA4 68 (0,0))):=(hr6.K (w§,68,zA4) (by simp)).1
    obtain⟨GV,eGV⟩:∃ q,GdM.vals ⟨d,(Ql t.ds d).1,(Ql t.ds d).2,ra,rows.length,rows⟩=q:=⟨_,rfl⟩
    have HGV:Hid (GdM.vals ⟨d,(Ql t.ds d).1,(Ql t.ds d).2,ra,rows.length,rows⟩=GV∧GV.size=5∧GV.all (·.oneCell')=true):=⟨eGV,by rw [← eGV]; rfl,by rw [← eGV]; exact allGd _⟩
    rw [eGV]
    have HRS:Hid (Rd w0 mz (w6.setRow w§ GV) R (nb ++ bs) q3 s p3):=hr6.row2 HW0.out HWR.out _ (fun b hb=>by rcases List.mem_append.1 hb with hb | hb <;> simp [hb]) (fun b hb=>by
     rcases List.mem_append.1 hb with hb | hb
     ·have:=HF5.out b hb; omega
     ·exact HFR.out b hb)
    have HNS:Hid ((w6.setRow w§ GV).heap[w§]? = some (.cells GV 68 (0,0))):=setRow_heap _ _ _ _ _ _ HN6.out
    have HG3:Hid ((w6.setRow w§ GV).heap[g3]? = some (.cells d.vals 65 (0,0))):=(setRow_other _ _ _ _ (fun e=>hf2 (w§,68,zA4) (by simp) e.symm)).trans hb3
    refine hK.out _ _ hb3 (fun hHeld=>?_)
    clear hK K cG hr6 hb3 eGV
    try simp [Act.put]
    refine wpAnyH_ready (rs:=[10]) zK (by simp) ?_
    refine AllReadyH.cons rfl (fun K hK=>?_) AllReadyH.nil
    rw [if_pos (by rfl)]
    refine wp_store_row 68 (.tmp 2) (.tmp 15) rfl w§ GV rfl rfl 68 zA4 HN6.out (by rw [HGV.out.2.1]; exact QD) (by rw [HGV.out.2.1]; rfl) HGV.out.2.2 ?_
    refine hK.out _ _ HG3.out (fun hHeld=>?_)
    clear hK K
    try simp [Act.put]
    refine wpAnyH_done zK ?_ _
    go_wp2_with fail
    refine bodyPost_ret (results_cell_row rfl _ _ w§ 68 GV (0,0) _ rfl HNS.out Tryz.underlying68 rfl (by rw [HGV.out.2.1]; exact QD)) rfl ?_
    exact ⟨GV, nb, rfl, ⟨ra, HGV.out.1.symm, HKP.out, HOW.out⟩, HRS.out, fun b hb => Nat.le_of_lt (HF5.out b hb), by have := HRS.out.M; rw [HMZ.out] at this; exact this⟩
end O
namespace O
set_option maxRecDepth 100000
set_option maxHeartbeats 4000000
open Go.RowKit
set_option linter.unusedVariables false
set_option linter.unusedSimpArgs false
theorem J3 {mz R n:Nat}{bs:List Bx}{q:RS}{s:ByteArray}{p:Int}{t:TbM}{w w0:World}(h:Rd w0 mz w R bs q s p) (hs:s.size≤1099511627776) (hn:n≤12) (hq:0≤q.sp∧q.sp≤200000000000) (hqt:IsT q t) (bs0:List Bx) (hsub:∀ b ∈ bs0,b ∈ bs) (hK:Keep bs0 (fun V=>TbL V t)):Calls zG 135 #[zI n,.func (.func 136) #[zP R] #[]] w (OutL w0 mz R bs s RelG 68 5 n w§ (Qd (QT t.ds s.data.toList) n q p)) :=
 Kq (QT t.ds s.data.toList) RelG Value.agg (fun i q'=>(0≤q'.sp∧q'.sp≤q.sp+200000 * i)∧QK q q') R n bs q s p w w0 h (by omega) ⟨⟨hq.1,by simp⟩,QK.refl _⟩ (fun a x nb _=>rfl) (fun a x nb hx=>by obtain⟨y,rfl,_⟩:=hx; exact⟨rfl,allGd _⟩)
  (fun i q1 p1 a q' p' hi hq1 hst=>by
   obtain⟨a1,a2,a3⟩:=ruleR_6 hst
   exact⟨by omega,hq1.2.trans a1⟩)
  (fun i V bs1 q1 p1 hi hq1 hsb hV=>rrule_any R bs1 q1 s p1 t V w0 hV rfl hs ⟨hq1.1.1,by omega⟩ (hqt.on hq1.2) bs0 (fun b hb=>hsb b (hsub b hb)) hK)
def RelS (gs:List GdP) (x:Array Value) (nb:List Bx):Prop:=∃ a xs nb1 nbs,x=#[.slice a gs.length gs.length]∧nb=nb1 ++ nbs∧Rels RelG gs xs nbs∧xs.length=gs.length∧Keep nb1 (fun V=>SlAt V 5 a gs.length xs)∧Keep nb1 (fun V=>OwR V 68 5 a gs.length xs)∧Hd a nb1
theorem rstate_any (R:Nat) (bs:List Bx) (q:RS) (s:ByteArray) (p:Int) (t:TbM) (w:World) {mz:Nat}(w0:World) (h:Rd w0 mz w R bs q s p) (hmz:mz=w§) (hs:s.size≤1099511627776) (hq:0≤q.sp∧q.sp≤200000000000) (hqt:IsT q t) (bs0:List Bx) (hsub:∀ b ∈ bs0,b ∈ bs) (hK:Keep bs0 (fun V=>TbL V t)):Calls zG 116 #[zP R] w fun e w'=>OutS w0 mz R bs s RelS mkS w§ (Qs t.ds s.data.toList q p) e w':=by
 have hmf:∀ (fn:Fn) (first cap:Array Value) (w:World),(Instr.makeFunc fn first cap).run Tryz.prog w=.ok (.func fn first cap) w:=fun _ _ _ _=>rfl
 have HMZ:Hid (mz=w§):=hmz
 unfold Qs
 cases hn:Qh 12 s.data.toList p with
 | none =>
  have cU:=Jw h hs (by omega) hn
  show Calls zG 116 #[zP R] w (fun e w'=>e=pan pf∧Below w0§ w0 w')
  clear h
  go_enter Tryz.func116,Tryz.ntmps116
  go_wp2_with fail
  refine cU.mono ?_
  rintro e w2 ⟨rfl,hb⟩
  exact⟨rfl,rfl,hb⟩
 | some np =>
  obtain⟨n,p2⟩:=np
  obtain⟨hn0,hn12⟩:=Qo hn
  obtain⟨k,rfl⟩:=Int.eq_ofNat_of_zero_le hn0
  have hk12:k≤12:=by omega
  have cU:=Jd h hs (by omega) hn
  show Calls zG 116 #[zP R] w (OutS w0 mz R bs s RelS mkS w§ (Qd (QT t.ds s.data.toList) k q p2))
  cases hrs:Qd (QT t.ds s.data.toList) k q p2 with
  | none =>
   show Calls zG 116 #[zP R] w (fun e w'=>e=pan pf∧Below w0§ w0 w')
   clear h
   go_enter Tryz.func116,Tryz.ntmps116
   go_wp2_with fail
   refine cU.mono ?_
   rintro e w2 ⟨rfl,hr2⟩
   have cR:=J3 (n:=k) hr2 hs hk12 hq hqt bs0 hsub hK
   rw [hrs] at cR
   replace cR:Calls zG 135 #[zI k,.func (.func 136) #[zP R] #[]] w2 (fun e w'=>e=pan pf∧Below w0§ w0 w'):=cR
   clear cU hr2 hK hsub hqt
   go_wp2_with fail
   refine cR.mono ?_
   rintro e w3 ⟨rfl,hb⟩
   exact⟨rfl,rfl,hb⟩
  | some rq =>
   obtain⟨gs,q3,p3⟩:=rq
   obtain⟨_,_,_,hlen⟩:=rulesR_6 k hrs
   show Calls zG 116 #[zP R] w (fun e w'=>∃ x nb,e=.returned (mkS x)∧RelS gs x nb∧Rd w0 mz w' R (nb ++ bs) q3 s p3∧(∀ b ∈ nb,w§≤b.1)∧w§≤w'§)
   clear h
   go_enter Tryz.func116,Tryz.ntmps116
   go_wp2_with fail
   refine cU.mono ?_
   rintro e w2 ⟨rfl,hr2⟩
   have cR:=J3 (n:=k) hr2 hs hk12 hq hqt bs0 hsub hK
   rw [hrs] at cR
   have HM2:Hid (w§≤w2§):=by have:=hr2.M; rw [HMZ.out] at this; exact this
   clear cU hr2 hK hsub hqt
   go_wp2_with fail
   refine cR.mono ?_
   rintro e w5 ⟨ra,xs,nb,nbs,rfl,hrel,hxl,hkp,hr5,hf5,hs5,how⟩
   have HR5:Hid (Rd w0 mz w5 R ((nb ++ nbs) ++ bs) q3 s p3):=by rw [List.append_assoc]; exact hr5
   have HOW:=zH how
   clear how
   have HRL:Hid (Rels RelG gs xs nbs∧xs.length=k∧Keep nb (fun V=>SlAt V 5 ra k xs)∧(∀ b ∈ nb ++ nbs,w§≤b.1)∧w§≤w5§):=⟨hrel,hxl,hkp,fun b hb=>Nat.le_trans HM2.out (hf5 b hb),Nat.le_trans HM2.out hs5⟩
   clear cR hr5 hrel hxl hkp hf5 hs5
   go_wp2_with fail
   go_ret
   subst hlen
   exact⟨#[.slice ra gs.length gs.length],nb ++ nbs,rfl,⟨ra,xs,nb,nbs,rfl,rfl,HRL.out.1,HRL.out.2.1,HRL.out.2.2.1,HOW.out⟩,HR5.out,HRL.out.2.2.2.1,HRL.out.2.2.2.2⟩
theorem states_any {mz R n:Nat}{bs:List Bx}{q:RS}{s:ByteArray}{p:Int}{t:TbM}{w w0:World}(h:Rd w0 mz w R bs q s p) (hs:s.size≤1099511627776) (hn:n≤12) (hq:0≤q.sp∧q.sp≤100000000000) (hqt:IsT q t) (bs0:List Bx) (hsub:∀ b ∈ bs0,b ∈ bs) (hK:Keep bs0 (fun V=>TbL V t)):Calls zG 115 #[zI n,.func (.func 116) #[zP R] #[]] w (OutL w0 mz R bs s RelS 69 1 n w§ (Qd (Qs t.ds s.data.toList) n q p)) :=
 Kr (Qs t.ds s.data.toList) RelS mkS (fun i q'=>(0≤q'.sp∧q'.sp≤q.sp+2400000 * i)∧QK q q') R n bs q s p w w0 h (by omega) ⟨⟨hq.1,by simp⟩,QK.refl _⟩ (fun a x nb hx=>by obtain⟨_,_,_,_,rfl,_⟩:=hx; rfl) (fun a x nb hx=>by obtain⟨_,_,_,_,rfl,_⟩:=hx; exact⟨rfl,by simp [Value.oneCell']⟩)
  (fun i q1 p1 a q' p' hi hq1 hst=>by
   obtain⟨a1,a2,a3⟩:=stateR_6 hst
   exact⟨by omega,hq1.2.trans a1⟩)
  (fun i V bs1 q1 p1 hi hq1 hsb hV=>rstate_any R bs1 q1 s p1 t V w0 hV rfl hs ⟨hq1.1.1,by omega⟩ (hqt.on hq1.2) bs0 (fun b hb=>hsb b (hsub b hb)) hK)
theorem ints_any {mz R n:Nat}{bs:List Bx}{q:RS}{s:ByteArray}{p:Int}{w w0:World}(h:Rd w0 mz w R bs q s p) (hs:s.size≤1099511627776) (hn:n≤100000):Calls zG 110 #[zI n,.func (.func 112) #[zP R] #[]] w (OutL w0 mz R bs s RelI 2 1 n w§ (Qd (stI s.data.toList) n q p)) :=
 Kt (stI s.data.toList) RelI mkS (fun _ _=>True) R n bs q s p w w0 h hn trivial (fun a x nb hx=>by obtain⟨rfl,_⟩:=hx; rfl) (fun a x nb hx=>by obtain⟨rfl,_⟩:=hx; exact⟨rfl,by simp [QF,Value.oneCell']⟩)
  (fun _ _ _ _ _ _ _ _ _=>trivial) (fun i V bs1 q1 p1 hi _ _ hV=>stepI hV hs)
theorem instrs_any {mz R n:Nat}{bs:List Bx}{q:RS}{s:ByteArray}{p:Int}{w w0:World}(h:Rd w0 mz w R bs q s p) (hs:s.size≤1099511627776) (hn:n≤100000):Calls zG 113 #[zI n,.func (.func 114) #[zP R] #[]] w (OutL w0 mz R bs s RelD 61 2 n w§ (Qd (stD s.data.toList) n q p)) :=
 Ks (stD s.data.toList) RelD Value.agg (fun _ _=>True) R n bs q s p w w0 h hn trivial (fun a x nb _=>rfl) (fun a x nb hx=>by obtain⟨rfl,_⟩:=hx; exact⟨rfl,allIn _⟩)
  (fun _ _ _ _ _ _ _ _ _=>trivial) (fun i V bs1 q1 p1 hi _ _ hV=>stepD hV hs)
end O
namespace O
open Go.RowKit
set_option linter.unusedVariables false
set_option linter.unusedSimpArgs false
def apt (a a':Option Addr):Prop:=∀ g,a=some ⟨g,0,none⟩→a'≠some ⟨g,0,none⟩
theorem Hd.mono {a:Option Addr}{nb nb':List Bx}(h:Hd a nb) (k:∀ b ∈ nb,b ∈ nb'):Hd a nb':=fun g hg=>by
 obtain⟨b,h1,h2⟩:=h g hg
 exact⟨b,k b h1,h2⟩
theorem Hd.apt {a a':Option Addr}{nb nb':List Bx}(h:Hd a nb') (h':Hd a' nb) (k:∀ b ∈ nb,∀ b' ∈ nb',b'.1 < b.1):apt a a':=fun g h1 h2=>by
 obtain⟨b',q1,q2⟩:=h g h1
 obtain⟨b,q3,q4⟩:=h' g h2
 have:=k b q3 b' q1
 omega
theorem kup {nb nb':List Bx}{F:World→Prop}(h:Keep nb F) (k:∀ b ∈ nb,b ∈ nb'):Keep nb' F:=fun V hV=>h V (fun b hb=>hV b (k b hb))
def GO (nbs:List Bx) (gm:List GdM):Prop:=Keep nbs (fun V=>∀ g ∈ gm,OwR V 85 11 g.a g.rs.length (g.rs.map RowM.vals))∧(∀ g ∈ gm,g.c=g.rs.length∧Hd g.a nbs)∧gm.Pairwise (fun g g'=>apt g.a g'.a)
theorem rels_G {al:List GdP}{xs:List (Array Value)}{nbs:List Bx}(h:Rels RelG al xs nbs):∃ gm:List GdM,xs=gm.map GdM.vals∧gm.map plG=al∧Keep nbs (fun V=>∀ g ∈ gm,SlAt V 11 g.a g.c (g.rs.map RowM.vals))∧GO nbs gm:=by
 induction h with
 | nil=>exact⟨[],rfl,rfl,fun V _=>by simp,fun V _=>by simp,by simp,List.Pairwise.nil⟩
 | snoc _ k ko ih =>
  rename_i a x nb hr
  obtain⟨gm,rfl,rfl,i3,i4,i5,i6⟩:=ih
  obtain⟨ad,rfl,k2,k3,k4⟩:=k
  refine⟨gm ++ [⟨a.wh,a.fd,a.rg,ad,a.rs.length,a.rs⟩],by simp,by simp [plG],fun V hV=>?_,fun V hV=>?_,fun g hg=>?_,?_⟩
  ·obtain⟨h1,h2⟩:=(k2.app i3) V hV
   intro g hg
   rcases List.mem_append.1 hg with hg | hg
   ·exact h2 g hg
   ·rw [List.mem_singleton.1 hg]; exact h1
  ·obtain⟨h1,h2⟩:=(k3.app i4) V hV
   intro g hg
   rcases List.mem_append.1 hg with hg | hg
   ·exact h2 g hg
   ·rw [List.mem_singleton.1 hg]; exact h1
  ·rcases List.mem_append.1 hg with hg | hg
   ·exact⟨(i5 g hg).1,(i5 g hg).2.mono (fun b hb=>List.mem_append_right _ hb)⟩
   ·rw [List.mem_singleton.1 hg]; exact⟨rfl,k4.mono (fun b hb=>List.mem_append_left _ hb)⟩
  ·refine List.pairwise_append.2 ⟨i6,List.pairwise_singleton _ _,fun g hg g' hg'=>?_⟩
   rw [List.mem_singleton.1 hg']
   exact (i5 g hg).2.apt k4 ko
def SO (nbs:List Bx) (ts:List StM):Prop:=Keep nbs (fun V=>∀ s ∈ ts,OwR V 68 5 s.a s.gs.length (s.gs.map GdM.vals)∧∀ g ∈ s.gs,OwR V 85 11 g.a g.rs.length (g.rs.map RowM.vals))∧(∀ s ∈ ts,(s.c=s.gs.length∧Hd s.a nbs)∧∀ g ∈ s.gs,g.c=g.rs.length∧Hd g.a nbs)∧ts.Pairwise (fun s s'=>apt s.a s'.a∧∀ g ∈ s.gs,∀ g' ∈ s'.gs,apt g.a g'.a)∧∀ s ∈ ts,s.gs.Pairwise (fun g g'=>apt g.a g'.a)
theorem rels_S {al:List (List GdP)}{xs:List (Array Value)}{nbs:List Bx}(h:Rels RelS al xs nbs) (hI:∀ gs ∈ al,∀ g ∈ gs,GdI g):∃ ts:List StM,xs=ts.map StM.vals∧ts.map (fun s=>s.gs.map plG)=al∧Keep nbs (fun V=>∀ s ∈ ts,StL V s)∧SO nbs ts:=by
 induction h with
 | nil=>exact⟨[],rfl,rfl,fun V _=>by simp,fun V _=>by simp,by simp,List.Pairwise.nil,by simp⟩
 | snoc _ k ko ih =>
  rename_i al' xs' nbs' a x nb hr
  obtain⟨ts,rfl,rfl,i3,i4,i5,i6,i7⟩:=ih (fun gs hgs=>hI gs (List.mem_append_left _ hgs))
  obtain⟨ad,ys,nb1,nbs2,rfl,rfl,k1,k2,k3,k4,k5⟩:=k
  obtain⟨gm,rfl,rfl,g3,g4,g5,g6⟩:=rels_G k1
  have hGI:=hI _ (List.mem_append_right _ (List.mem_singleton.2 rfl))
  refine⟨ts ++ [⟨ad,gm.length,gm⟩],by simp [StM.vals],by simp,fun V hV=>?_,fun V hV=>?_,fun s hs=>?_,?_,fun s hs=>?_⟩
  ·obtain⟨⟨h1,h2⟩,h3⟩:=((k3.app g3).app i3) V hV
   intro s hs
   rcases List.mem_append.1 hs with hs | hs
   ·exact h3 s hs
   ·rw [List.mem_singleton.1 hs]
    rw [List.length_map] at h1
    refine⟨h1,fun g hg=>?_⟩
    obtain⟨y1,y2,y3,y4⟩:=hGI (plG g) (List.mem_map.2 ⟨g,hg,rfl⟩)
    exact⟨y1,y2,y3,h2 g hg,y4⟩
  ·obtain⟨⟨h1,h2⟩,h3⟩:=((k4.app g4).app i4) V hV
   intro s hs
   rcases List.mem_append.1 hs with hs | hs
   ·exact h3 s hs
   ·rw [List.mem_singleton.1 hs]
    rw [List.length_map] at h1
    exact⟨h1,h2⟩
  ·rcases List.mem_append.1 hs with hs | hs
   ·obtain⟨⟨q1,q2⟩,q3⟩:=i5 s hs
    exact⟨⟨q1,q2.mono (fun b hb=>List.mem_append_right _ hb)⟩,fun g hg=>⟨(q3 g hg).1,(q3 g hg).2.mono (fun b hb=>List.mem_append_right _ hb)⟩⟩
   ·rw [List.mem_singleton.1 hs]
    exact⟨⟨rfl,k5.mono (fun b hb=>List.mem_append_left _ (List.mem_append_left _ hb))⟩,fun g hg=>⟨(g5 g hg).1,(g5 g hg).2.mono (fun b hb=>List.mem_append_left _ (List.mem_append_right _ hb))⟩⟩
  ·refine List.pairwise_append.2 ⟨i6,List.pairwise_singleton _ _,fun s hs s' hs'=>?_⟩
   rw [List.mem_singleton.1 hs']
   obtain⟨⟨_,q2⟩,q3⟩:=i5 s hs
   exact⟨q2.apt (k5.mono (fun b hb=>List.mem_append_left _ hb)) ko,fun g hg g' hg'=>(q3 g hg).2.apt ((g5 g' hg').2.mono (fun b hb=>List.mem_append_right _ hb)) ko⟩
  ·rcases List.mem_append.1 hs with hs | hs
   ·exact i7 s hs
   ·rw [List.mem_singleton.1 hs]; exact g6
end O
namespace O
set_option maxRecDepth 100000
set_option maxHeartbeats 4000000
open Go.RowKit
set_option linter.unusedVariables false
set_option linter.unusedSimpArgs false
structure OwT (nb:List Bx) (t:TbM):Prop where
 R:Keep nb (fun V=>OwR V 2 1 t.ra t.rs.length (t.rs.map QF))∧Hd t.ra nb
 C:Keep nb (fun V=>OwR V 2 1 t.ca t.cs.length (t.cs.map QF))∧Hd t.ca nb
 D:Keep nb (fun V=>OwR V 61 2 t.da t.ds.length (t.ds.map InM.vals))∧Hd t.da nb
 T:Keep nb (fun V=>OwR V 69 1 t.ta t.ts.length (t.ts.map StM.vals))∧Hd t.ta nb
 S:SO nb t.ts
 c:t.rc=t.rs.length∧t.cc=t.cs.length∧t.dc=t.ds.length∧t.tc=t.ts.length
 rc:apt t.ra t.ca
theorem SO.mono {nb nb':List Bx}{ts:List StM}(h:SO nb ts) (k:∀ b ∈ nb,b ∈ nb'):SO nb' ts:=by
 obtain⟨h1,h2,h3⟩:=h
 exact⟨kup h1 k,fun s hs=>⟨⟨(h2 s hs).1.1,(h2 s hs).1.2.mono k⟩,fun g hg=>⟨((h2 s hs).2 g hg).1,((h2 s hs).2 g hg).2.mono k⟩⟩,h3⟩
def OutT (w0:World) (mz R:Nat) (bs:List Bx) (s:ByteArray) (r:Option (TbP × Int)) (e:Ending) (w':World):Prop :=
 match r with
 | some (T,p)=>∃ t q nb,e=.returned (.tuple #[])∧Is T t∧IsT q t∧Keep nb (fun V=>TbL V t)∧(∀ b ∈ nb,mz≤b.1)∧Rd w0 mz w' R (nb ++ bs) q s p∧OwT nb t
 | none=>e=pan pf∧Below w0§ w0 w'
theorem read_any (R:Nat) (bs:List Bx) (s:ByteArray) (p:Int) (w:World) {mz:Nat}(w0:World) (h:Rd w0 mz w R bs q00 s p) (hs:s.size≤1099511627776):Calls zG 85 #[zP R] w fun e w'=>OutT w0 mz R bs s (Jo s.data.toList p) e w':=by
 have hmf:∀ (fn:Fn) (first cap:Array Value) (w:World),(Instr.makeFunc fn first cap).run Tryz.prog w=.ok (.func fn first cap) w:=fun _ _ _ _=>rfl
 obtain⟨RR,eRR⟩:∃ r,Jo s.data.toList p=r:=⟨_,rfl⟩
 rw [eRR]
 have H0:=zH eRR.symm
 have cT:=rtext_any R bs q00 s p w w0 h hs
 clear eRR h
 go_enter Tryz.func85,Tryz.ntmps85
 go_wp2_with fail
 refine cT.mono ?_
 intro e w1 ho
 clear cT
 cases hx:txtR s.data.toList p with
 | none =>
  rw [hx] at ho
  have HN:Hid (RR=none):=by show _=_; rw [H0.out]; unfold Jo; rw [hx]; rfl
  obtain⟨rfl,hb⟩:=ho
  exact⟨rfl,by rw [HN.out]; exact⟨rfl,hb⟩⟩
 | some xp =>
 obtain⟨x,p1⟩:=xp
 rw [hx] at ho
 obtain⟨rfl,hr⟩:=ho
 have HX:Hid (SzX x):=txtR_X hs hx
 have H1:Hid (RR=(Qh 12 s.data.toList p1).bind fun n1=>(Qx s.data.toList n1.1.toNat n1.2).bind fun rs=>(Qh 4 s.data.toList rs.2).bind fun sl=>(Qh 1024 s.data.toList sl.2).bind fun n2=>(Qx s.data.toList n2.1.toNat n2.2).bind fun cs=>(Qh 4096 s.data.toList cs.2).bind fun n3=>(insR s.data.toList n3.1.toNat n3.2).bind fun ds=>(Qh 12 s.data.toList ds.2).bind fun n4=>(Qd (Qs ds.1 s.data.toList) n4.1.toNat q00 n4.2).map fun r=>(⟨x,rs.1,sl.1,cs.1,ds.1,r.1⟩,r.2.2)):=by show _=_; rw [H0.out]; unfold Jo; rw [hx]; rfl
 have m0:w1.cell? ⟨R,0,none⟩=some (.string ⟨#[]⟩):=Co hr.H 0
 have f0:=Fo hr.H 0
 have HR1:Hid (Rd w0 mz (w1.setCell ⟨R,0,none⟩ (.string x)) R bs { q00 with x0:=.string x } s p1):=hr.set 0 _ rfl
 clear H0 hr hx
 go_upto_region 1 with fail
 generalize w1.setCell ⟨R,0,none⟩ (.string x)=V1 at HR1 ⊢
 clear m0 f0
 have cU1:=QN R bs { q00 with x0:=.string x } s p1 12 V1 w0 HR1.out hs (by omega)
 go_wp2_with fail
 refine cU1.mono ?_
 intro e w2 ho
 clear cU1
 cases hu1:Qh 12 s.data.toList p1 with
 | none =>
  rw [hu1] at ho
  have HN:Hid (RR=none):=by show _=_; rw [H1.out,hu1]; rfl
  obtain⟨rfl,hb⟩:=ho
  exact⟨rfl,by rw [HN.out]; exact⟨rfl,hb⟩⟩
 | some np1 =>
 obtain⟨n1,p2⟩:=np1
 rw [hu1] at ho
 obtain⟨rfl,hr⟩:=ho
 obtain⟨hn10,hn11⟩:=Qo hu1
 obtain⟨k1,rfl⟩:=Int.eq_ofNat_of_zero_le hn10
 have hk1:k1≤12:=by omega
 have cL1:=ints_any (n:=k1) hr hs (by omega)
 rw [ints_eq] at cL1
 have HMZ1:Hid (mz≤w2§):=hr.M
 clear hr HR1
 go_wp2_with fail
 refine cL1.mono ?_
 intro e w3 ho
 clear cL1
 cases hl1:Qx s.data.toList k1 p2 with
 | none =>
  rw [hl1] at ho
  have HN:Hid (RR=none):=by show _=_; rw [H1.out,hu1]; show Option.bind (Qx s.data.toList k1 p2) _=_; rw [hl1]; rfl
  obtain⟨rfl,hb⟩:=ho
  exact⟨rfl,by rw [HN.out]; exact⟨rfl,hb⟩⟩
 | some rp =>
 obtain⟨rs,p3⟩:=rp
 rw [hl1] at ho
 obtain⟨a1,xs1,nb1,nbs1,rfl,hrel1,hxl1,hkp1,hr,hff1,_,how1⟩:=ho
 obtain⟨rfl,rfl⟩:=rels_I hrel1
 have HF1:Hid (∀ b ∈ nb1,mz≤b.1):=fun b hb=>Nat.le_trans HMZ1.out (hff1 b (by simp [hb]))
 have HW1:=zH how1
 clear how1 hff1
 clear hrel1 hxl1
 rw [List.nil_append] at hr
 have H2:Hid (RR=(Qh 4 s.data.toList p3).bind fun sl=>(Qh 1024 s.data.toList sl.2).bind fun n2=>(Qx s.data.toList n2.1.toNat n2.2).bind fun cs=>(Qh 4096 s.data.toList cs.2).bind fun n3=>(insR s.data.toList n3.1.toNat n3.2).bind fun ds=>(Qh 12 s.data.toList ds.2).bind fun n4=>(Qd (Qs ds.1 s.data.toList) n4.1.toNat q00 n4.2).map fun r=>(⟨x,rs,sl.1,cs.1,ds.1,r.1⟩,r.2.2)):=by show _=_; rw [H1.out,hu1]; show Option.bind (Qx s.data.toList k1 p2) _=_; rw [hl1]; rfl
 have m2:w3.cell? ⟨R,1,none⟩=some (.slice none 0 0):=Co hr.H 1
 have f2:=Fo hr.H 1
 have HR2:Hid (Rd w0 mz (w3.setCell ⟨R,1,none⟩ (.slice a1 k1 k1)) R (nb1 ++ bs) ⟨.string x,.slice a1 k1 k1,zI 0,.slice none 0 0,.slice none 0 0,.slice none 0 0,0⟩ s p3):=hr.set 1 _ rfl
 clear hr H1
 go_upto_region 2 with fail
 generalize w3.setCell ⟨R,1,none⟩ (.slice a1 k1 k1)=V3 at HR2 ⊢
 clear m2 f2
 have cU2:=QN R (nb1 ++ bs) ⟨.string x,.slice a1 k1 k1,zI 0,.slice none 0 0,.slice none 0 0,.slice none 0 0,0⟩ s p3 4 V3 w0 HR2.out hs (by omega)
 go_wp2_with fail
 refine cU2.mono ?_
 intro e w4 ho
 clear cU2
 cases hu2:Qh 4 s.data.toList p3 with
 | none =>
  rw [hu2] at ho
  have HN:Hid (RR=none):=by show _=_; rw [H2.out,hu2]; rfl
  obtain⟨rfl,hb⟩:=ho
  exact⟨rfl,by rw [HN.out]; exact⟨rfl,hb⟩⟩
 | some np2 =>
 obtain⟨sl,p4⟩:=np2
 rw [hu2] at ho
 obtain⟨rfl,hr⟩:=ho
 obtain⟨hsl0,hsl1⟩:=Qo hu2
 have H3:Hid (RR=(Qh 1024 s.data.toList p4).bind fun n2=>(Qx s.data.toList n2.1.toNat n2.2).bind fun cs=>(Qh 4096 s.data.toList cs.2).bind fun n3=>(insR s.data.toList n3.1.toNat n3.2).bind fun ds=>(Qh 12 s.data.toList ds.2).bind fun n4=>(Qd (Qs ds.1 s.data.toList) n4.1.toNat q00 n4.2).map fun r=>(⟨x,rs,sl,cs.1,ds.1,r.1⟩,r.2.2)):=by show _=_; rw [H2.out,hu2]; rfl
 have m3:w4.cell? ⟨R,2,none⟩=some (zI 0):=Co hr.H 2
 have f3:=Fo hr.H 2
 have HR3:Hid (Rd w0 mz (w4.setCell ⟨R,2,none⟩ (zI sl)) R (nb1 ++ bs) ⟨.string x,.slice a1 k1 k1,zI sl,.slice none 0 0,.slice none 0 0,.slice none 0 0,0⟩ s p4):=hr.set 2 _ rfl
 clear hr H2 HR2
 go_upto_region 3 with fail
 generalize w4.setCell ⟨R,2,none⟩ (zI sl)=V4 at HR3 ⊢
 clear m3 f3
 have cU3:=QN R (nb1 ++ bs) ⟨.string x,.slice a1 k1 k1,zI sl,.slice none 0 0,.slice none 0 0,.slice none 0 0,0⟩ s p4 1024 V4 w0 HR3.out hs (by omega)
 go_wp2_with fail
 refine cU3.mono ?_
 intro e w5 ho
 clear cU3
 cases hu3:Qh 1024 s.data.toList p4 with
 | none =>
  rw [hu3] at ho
  have HN:Hid (RR=none):=by show _=_; rw [H3.out,hu3]; rfl
  obtain⟨rfl,hb⟩:=ho
  exact⟨rfl,by rw [HN.out]; exact⟨rfl,hb⟩⟩
 | some np3 =>
 obtain⟨n2,p5⟩:=np3
 rw [hu3] at ho
 obtain⟨rfl,hr⟩:=ho
 obtain⟨hn30,hn31⟩:=Qo hu3
 obtain⟨k2,rfl⟩:=Int.eq_ofNat_of_zero_le hn30
 have hk2:k2≤1024:=by omega
 have cL3:=ints_any (n:=k2) hr hs (by omega)
 rw [ints_eq] at cL3
 have HMZ3:Hid (mz≤w5§):=hr.M
 have HLT:Hid (∀ b' ∈ nb1,b'.1 < w5§):=fun b' hb'=>(Array.getElem?_eq_some_iff.1 (hr.K b' (by simp [hb'])).1).1
 clear hr HR3
 go_wp2_with fail
 refine cL3.mono ?_
 intro e w6 ho
 clear cL3
 cases hl3:Qx s.data.toList k2 p5 with
 | none =>
  rw [hl3] at ho
  have HN:Hid (RR=none):=by show _=_; rw [H3.out,hu3]; show Option.bind (Qx s.data.toList k2 p5) _=_; rw [hl3]; rfl
  obtain⟨rfl,hb⟩:=ho
  exact⟨rfl,by rw [HN.out]; exact⟨rfl,hb⟩⟩
 | some rp3 =>
 obtain⟨cs,p6⟩:=rp3
 rw [hl3] at ho
 obtain⟨a2,xs3,nb2,nbs3,rfl,hrel3,hxl3,hkp3,hr,hff3,_,how3⟩:=ho
 obtain⟨rfl,rfl⟩:=rels_I hrel3
 have HW3:=zH how3
 have HAP:Hid (∀ b ∈ nb2,∀ b' ∈ nb1,b'.1 < b.1):=fun b hb b' hb'=>Nat.lt_of_lt_of_le (HLT.out b' hb') (hff3 b (by simp [hb]))
 clear how3
 have HF3:Hid (∀ b ∈ nb2,mz≤b.1):=fun b hb=>Nat.le_trans HMZ3.out (hff3 b (by simp [hb]))
 clear hff3
 rw [List.nil_append] at hr
 clear hrel3 hxl3
 have H4:Hid (RR=(Qh 4096 s.data.toList p6).bind fun n3=>(insR s.data.toList n3.1.toNat n3.2).bind fun ds=>(Qh 12 s.data.toList ds.2).bind fun n4=>(Qd (Qs ds.1 s.data.toList) n4.1.toNat q00 n4.2).map fun r=>(⟨x,rs,sl,cs,ds.1,r.1⟩,r.2.2)):=by show _=_; rw [H3.out,hu3]; show Option.bind (Qx s.data.toList k2 p5) _=_; rw [hl3]; rfl
 have m4:w6.cell? ⟨R,3,none⟩=some (.slice none 0 0):=Co hr.H 3
 have f4:=Fo hr.H 3
 have HR4:Hid (Rd w0 mz (w6.setCell ⟨R,3,none⟩ (.slice a2 k2 k2)) R (nb2 ++ (nb1 ++ bs)) ⟨.string x,.slice a1 k1 k1,zI sl,.slice a2 k2 k2,.slice none 0 0,.slice none 0 0,0⟩ s p6):=hr.set 3 _ rfl
 clear hr H3
 go_upto_region 4 with fail
 generalize w6.setCell ⟨R,3,none⟩ (.slice a2 k2 k2)=V6 at HR4 ⊢
 clear m4 f4
 have cU4:=QN R (nb2 ++ (nb1 ++ bs)) ⟨.string x,.slice a1 k1 k1,zI sl,.slice a2 k2 k2,.slice none 0 0,.slice none 0 0,0⟩ s p6 4096 V6 w0 HR4.out hs (by omega)
 go_wp2_with fail
 refine cU4.mono ?_
 intro e w7 ho
 clear cU4
 cases hu4:Qh 4096 s.data.toList p6 with
 | none =>
  rw [hu4] at ho
  have HN:Hid (RR=none):=by show _=_; rw [H4.out,hu4]; rfl
  obtain⟨rfl,hb⟩:=ho
  exact⟨rfl,by rw [HN.out]; exact⟨rfl,hb⟩⟩
 | some np4 =>
 obtain⟨n3,p7⟩:=np4
 rw [hu4] at ho
 obtain⟨rfl,hr⟩:=ho
 obtain⟨hn40,hn41⟩:=Qo hu4
 obtain⟨k3,rfl⟩:=Int.eq_ofNat_of_zero_le hn40
 have hk3:k3≤4096:=by omega
 have cL4:=instrs_any (n:=k3) hr hs (by omega)
 rw [ins_eq] at cL4
 have HMZ4:Hid (mz≤w7§):=hr.M
 clear hr HR4
 go_wp2_with fail
 refine cL4.mono ?_
 intro e w8 ho
 clear cL4
 cases hl4:insR s.data.toList k3 p7 with
 | none =>
  rw [hl4] at ho
  have HN:Hid (RR=none):=by show _=_; rw [H4.out,hu4]; show Option.bind (insR s.data.toList k3 p7) _=_; rw [hl4]; rfl
  obtain⟨rfl,hb⟩:=ho
  exact⟨rfl,by rw [HN.out]; exact⟨rfl,hb⟩⟩
 | some rp4 =>
 obtain⟨ds,p8⟩:=rp4
 rw [hl4] at ho
 obtain⟨a3,xs4,nb3,nbs4,rfl,hrel4,hxl4,hkp4,hr,hff4,_,how4⟩:=ho
 obtain⟨rfl,rfl⟩:=rels_D hrel4
 have HW4:=zH how4
 clear how4
 have HF4:Hid (∀ b ∈ nb3,mz≤b.1):=fun b hb=>Nat.le_trans HMZ4.out (hff4 b (by simp [hb]))
 clear hff4
 rw [List.nil_append] at hr
 clear hrel4 hxl4
 have H5:Hid (RR=(Qh 12 s.data.toList p8).bind fun n4=>(Qd (Qs ds s.data.toList) n4.1.toNat q00 n4.2).map fun r=>(⟨x,rs,sl,cs,ds,r.1⟩,r.2.2)):=by show _=_; rw [H4.out,hu4]; show Option.bind (insR s.data.toList k3 p7) _=_; rw [hl4]; rfl
 have m5:w8.cell? ⟨R,4,none⟩=some (.slice none 0 0):=Co hr.H 4
 have f5:=Fo hr.H 4
 have HR5:Hid (Rd w0 mz (w8.setCell ⟨R,4,none⟩ (.slice a3 k3 k3)) R (nb3 ++ (nb2 ++ (nb1 ++ bs))) ⟨.string x,.slice a1 k1 k1,zI sl,.slice a2 k2 k2,.slice a3 k3 k3,.slice none 0 0,0⟩ s p8):=hr.set 4 _ rfl
 clear hr H4
 go_upto_region 5 with fail
 generalize w8.setCell ⟨R,4,none⟩ (.slice a3 k3 k3)=V8 at HR5 ⊢
 clear m5 f5
 have cU5:=QN R (nb3 ++ (nb2 ++ (nb1 ++ bs))) ⟨.string x,.slice a1 k1 k1,zI sl,.slice a2 k2 k2,.slice a3 k3 k3,.slice none 0 0,0⟩ s p8 12 V8 w0 HR5.out hs (by omega)
 go_wp2_with fail
 refine cU5.mono ?_
 intro e w9 ho
 clear cU5
 cases hu5:Qh 12 s.data.toList p8 with
 | none =>
  rw [hu5] at ho
  have HN:Hid (RR=none):=by show _=_; rw [H5.out,hu5]; rfl
  obtain⟨rfl,hb⟩:=ho
  exact⟨rfl,by rw [HN.out]; exact⟨rfl,hb⟩⟩
 | some np5 =>
 obtain⟨n4,p9⟩:=np5
 rw [hu5] at ho
 obtain⟨rfl,hr⟩:=ho
 obtain⟨hn40,hn41⟩:=Qo hu5
 obtain⟨k4,rfl⟩:=Int.eq_ofNat_of_zero_le hn40
 have hk4:k4≤12:=by omega
 obtain⟨hri,hrl⟩:=intsR_I k1 hl1
 obtain⟨hci,hcl⟩:=intsR_I k2 hl3
 obtain⟨hdi,hdl⟩:=insR_I k3 hl4
 have HKA:Hid (∀ (ta:Option Addr) (tc:Nat) (ts:List StM) (nb4:List Bx),Keep nb4 (fun V=>SlAt V 1 ta tc (ts.map StM.vals)∧∀ s ∈ ts,StL V s)→Keep (nb4 ++ (nb3 ++ (nb2 ++ nb1))) (fun V=>TbL V ⟨x,a1,k1,rs,sl,a2,k2,cs,a3,k3,ds,ta,tc,ts⟩)):=fun ta tc ts nb4 h4 V hV=>by
  obtain⟨⟨t1,t2⟩,d1,c1,r1⟩:=(h4.app (hkp4.app (hkp3.app hkp1))) V hV
  exact⟨r1,hri,⟨by show _≤sl; omega,by show sl≤_; omega⟩,c1,hci,d1,hdi,t1,t2,HX.out⟩
 have HK5:Hid (Keep (nb3 ++ (nb2 ++ nb1)) (fun V=>TbL V ⟨x,a1,k1,rs,sl,a2,k2,cs,a3,k3,ds,none,0,[]⟩)):=HKA.out none 0 [] [] (fun V _=>⟨⟨by simp,by simp,fun i hi=>by simp at hi⟩,by simp⟩)
 have hIT:IsT ⟨.string x,.slice a1 k1 k1,zI sl,.slice a2 k2 k2,.slice a3 k3 k3,.slice none 0 0,0⟩ ⟨x,a1,k1,rs,sl,a2,k2,cs,a3,k3,ds,none,0,[]⟩:=⟨rfl,by show _=Value.slice a1 rs.length k1; rw [hrl],rfl,by show _=Value.slice a2 cs.length k2; rw [hcl],by show _=Value.slice a3 ds.length k3; rw [hdl],rfl⟩
 have cL5:=states_any (n:=k4) (t:=⟨x,a1,k1,rs,sl,a2,k2,cs,a3,k3,ds,none,0,[]⟩) hr hs hk4 ⟨by show (0:Int)≤0; omega,by show (0:Int)≤_; omega⟩ hIT (nb3 ++ (nb2 ++ nb1)) (fun b hb=>by simp only [List.mem_append] at hb ⊢; rcases hb with hb | hb | hb <;> simp [hb]) HK5.out
 have hsim:=statesR_sim ds s.data.toList k4 (q:=⟨.string x,.slice a1 k1 k1,zI sl,.slice a2 k2 k2,.slice a3 k3 k3,.slice none 0 0,0⟩) (q':=q00) rfl p9
 have HMZ5:Hid (mz≤w9§):=hr.M
 clear hr HR5 hIT HK5
 go_wp2_with fail
 refine cL5.mono ?_
 intro e w10 ho
 clear cL5
 rcases hsim.cases with ⟨e1,e2⟩ | ⟨gs,q6,q7,p10,e1,e2,_⟩
 ·replace ho:OutL w0 mz R (nb3 ++ (nb2 ++ (nb1 ++ bs))) s RelS 69 1 k4 w9§ (Qd (Qs ds s.data.toList) k4 ⟨.string x,.slice a1 k1 k1,zI sl,.slice a2 k2 k2,.slice a3 k3 k3,.slice none 0 0,0⟩ p9) e w10:=ho
  rw [e1] at ho
  have HN:Hid (RR=none):=by show _=_; rw [H5.out,hu5]; show Option.map _ (Qd (Qs ds s.data.toList) k4 q00 p9)=_; rw [e2]; rfl
  obtain⟨rfl,hb⟩:=ho
  exact⟨rfl,by rw [HN.out]; exact⟨rfl,hb⟩⟩
 ·replace ho:OutL w0 mz R (nb3 ++ (nb2 ++ (nb1 ++ bs))) s RelS 69 1 k4 w9§ (Qd (Qs ds s.data.toList) k4 ⟨.string x,.slice a1 k1 k1,zI sl,.slice a2 k2 k2,.slice a3 k3 k3,.slice none 0 0,0⟩ p9) e w10:=ho
  rw [e1] at ho
  have H6:Hid (RR=some (⟨x,rs,sl,cs,ds,gs⟩,p10)):=by show _=_; rw [H5.out,hu5]; show Option.map _ (Qd (Qs ds s.data.toList) k4 q00 p9)=_; rw [e2]; rfl
  obtain⟨hgi,hgl⟩:=statesR_I k4 e1 ⟨by show (0:Int)≤0; omega,by show (0:Int)≤_; omega⟩
  obtain⟨a5,xs5,nb5,nbs5,rfl,hrel5,hxl5,hkp5,hr,hff5,_,how5⟩:=ho
  have HW5:=zH how5
  clear how5
  have HF5:Hid (∀ b ∈ nb5 ++ nbs5,mz≤b.1):=fun b hb=>Nat.le_trans HMZ5.out (hff5 b hb)
  clear hff5
  obtain⟨ts,rfl,hts,hkts,hso⟩:=rels_S hrel5 hgi
  have HSO:Hid (SO nbs5 ts):=hso
  clear hso
  have hS6:QK ⟨.string x,.slice a1 k1 k1,zI sl,.slice a2 k2 k2,.slice a3 k3 k3,.slice none 0 0,0⟩ q6:=statesR_6 k4 e1
  obtain⟨y0,y1,y2,y3,y4,y5,ysp⟩:=q6
  obtain⟨s0,s1,s2,s3,s4,s5⟩:=hS6
  simp only at s0 s1 s2 s3 s4 s5
  subst s0 s1 s2 s3 s4 s5
  have m6:w10.cell? ⟨R,5,none⟩=some (.slice none 0 0):=Co hr.H 5
  have f6:=Fo hr.H 5
  have HR6:Hid (Rd w0 mz (w10.setCell ⟨R,5,none⟩ (.slice a5 k4 k4)) R (nb5 ++ (nbs5 ++ (nb3 ++ (nb2 ++ (nb1 ++ bs))))) ⟨.string x,.slice a1 k1 k1,zI sl,.slice a2 k2 k2,.slice a3 k3 k3,.slice a5 k4 k4,ysp⟩ s p10):=hr.set 5 _ rfl
  rw [List.length_map] at hxl5
  have HKF:=zH (HKA.out a5 k4 ts (nb5 ++ nbs5) (hkp5.app hkts))
  have HLN:Hid (rs.length=k1∧cs.length=k2∧ds.length=k3∧ts.length=k4):=⟨hrl,hcl,hdl,hxl5⟩
  have HTS:=zH hts
  clear hr hrel5 hkp5 hkts hgi e1 e2 hts
  go_wp2_with fail
  go_end0
  rw [H6.out]
  refine⟨⟨x,a1,k1,rs,sl,a2,k2,cs,a3,k3,ds,a5,k4,ts⟩,⟨.string x,.slice a1 k1 k1,zI sl,.slice a2 k2 k2,.slice a3 k3 k3,.slice a5 k4 k4,ysp⟩,(nb5 ++ nbs5) ++ (nb3 ++ (nb2 ++ nb1)),rfl,⟨rfl,rfl,rfl,rfl,rfl,HTS.out⟩,⟨rfl,?_,rfl,?_,?_,?_⟩,HKF.out,?_,?_,?_⟩
  rotate_left 4
  ·intro b hb
   rcases List.mem_append.1 hb with hb | hb
   ·exact HF5.out b hb
   ·rcases List.mem_append.1 hb with hb | hb
    ·exact HF4.out b hb
    ·rcases List.mem_append.1 hb with hb | hb
     ·exact HF3.out b hb
     ·exact HF1.out b hb
  ·have:=HR6.out
   simp only [List.append_assoc] at this ⊢
   exact this
  ·refine⟨⟨?_,HW1.out.2.mono (fun b hb=>by simp [hb])⟩,⟨?_,HW3.out.2.mono (fun b hb=>by simp [hb])⟩,⟨?_,HW4.out.2.mono (fun b hb=>by simp [hb])⟩,⟨?_,HW5.out.2.mono (fun b hb=>by simp [hb])⟩,HSO.out.mono (fun b hb=>by simp [hb]),⟨HLN.out.1.symm,HLN.out.2.1.symm,HLN.out.2.2.1.symm,HLN.out.2.2.2.symm⟩,HW1.out.2.apt HW3.out.2 HAP.out⟩
   ·show Keep _ (fun V=>OwR V 2 1 a1 rs.length (rs.map QF)); rw [HLN.out.1]; exact kup HW1.out.1 (fun b hb=>by simp [hb])
   ·show Keep _ (fun V=>OwR V 2 1 a2 cs.length (cs.map QF)); rw [HLN.out.2.1]; exact kup HW3.out.1 (fun b hb=>by simp [hb])
   ·show Keep _ (fun V=>OwR V 61 2 a3 ds.length (ds.map InM.vals)); rw [HLN.out.2.2.1]; exact kup HW4.out.1 (fun b hb=>by simp [hb])
   ·show Keep _ (fun V=>OwR V 69 1 a5 ts.length (ts.map StM.vals)); rw [HLN.out.2.2.2]; exact kup HW5.out.1 (fun b hb=>by simp [hb])
  ·show Value.slice a1 k1 k1=.slice a1 rs.length k1; rw [HLN.out.1]
  ·show Value.slice a2 k2 k2=.slice a2 cs.length k2; rw [HLN.out.2.1]
  ·show Value.slice a3 k3 k3=.slice a3 ds.length k3; rw [HLN.out.2.2.1]
  ·show Value.slice a5 k4 k4=.slice a5 ts.length k4; rw [HLN.out.2.2.2]
end O
namespace O
set_option maxRecDepth 100000
set_option maxHeartbeats 4000000
open Go.RowKit
set_option linter.unusedVariables false
set_option linter.unusedSimpArgs false
def OutB (w:World) (r:Option TbP) (e:Ending) (w':World):Prop :=
 match r with
 | some T=>∃ t nb,e=.returned (.agg t.vals)∧Is T t∧Bxs w w' t nb∧Below w§ w w'∧OwT nb t
 | none=>e=pan pf∧Below w§ w w'
theorem J8 (b:ByteArray) (w:World) (hs:b.size≤1099511627776):Calls zG 41 #[.string b] w fun e w'=>OutB w (unR b) e w':=by
 have cN:=Kd
 have cO:=Kc
 have hb0:=Bn w (.cells zA3 26)
 have hn0:=Hn w (.cells zA3 26)
 obtain⟨W1,e1⟩:∃ W,w.alloc (.cells zA3 26)=W:=⟨_,rfl⟩
 have E1:=zH e1
 rw [e1] at hb0 hn0
 have HB1:=zH hb0
 have HN1:=zH hn0
 obtain⟨RR,eRR⟩:∃ r,unR b=r:=⟨_,rfl⟩
 have H0:Hid (RR=unR b):=eRR.symm
 rw [eRR]
 have cU:=W.unframe_any b 0 hs W1
 have hbl:(b.size:Int)≤1099511627776:=by omega
 clear eRR hb0 hn0 e1
 go_enter Tryz.func41,Tryz.ntmps41
 go_upto_region 1 with fail
 rw [E1.out]
 clear E1
 go_wp2_with fail
 refine cU.mono ?_
 rintro e w2 ⟨rfl,hb2⟩
 have HB2:=zH (Qa HB1.out hb2)
 have HN2:Hid (w2.heap[w§]? = some (.cells zA3 26 (0,0))):=(hb2.block _ (Array.getElem?_eq_some_iff.1 HN1.out).1).trans HN1.out
 clear cU hb2 HB1 HN1
 obtain⟨L,eL⟩:∃ L,W.unS b.data.toList 0=L:=⟨_,rfl⟩
 obtain⟨P,eP⟩:∃ P,W.unP b.data.toList 0=P:=⟨_,rfl⟩
 obtain⟨E,eE⟩:∃ E:Int,((W.unE b.data.toList 0:Nat):Int)=E:=⟨_,rfl⟩
 have HLs:Hid (L.length≤1099511627776):=by show _≤_; rw [← eL]; exact Nat.le_trans (unS_le b) hs
 have H1:Hid (RR=if E == 0 then (if P == (b.size:Int) then (Jo L 0).bind fun r=>if r.2 == (L.length:Int) then some r.1 else none else none) else none):=by
  show _=_
  rw [H0.out]
  unfold unR
  rw [eL,eP,← eE]
  by_cases h:W.unE b.data.toList 0=0
  ·have h':((W.unE b.data.toList 0:Nat):Int)=0:=by omega
   rw [if_pos h,h']; rfl
  ·rw [if_neg h,if_neg (by simp; omega)]
 rw [eL,eP,eE]
 clear eL eP eE H0
 cases hE:(E == 0) with
 | false =>
  have HN:Hid (RR=none):=by show _=_; rw [H1.out,if_neg (by simp [hE])]
  go_wp2_with fail
  refine (cN _).mono ?_
  rintro e w3 ⟨rfl,rfl⟩
  exact⟨rfl,by rw [HN.out]; exact⟨rfl,HB2.out⟩⟩
 | true =>
  cases hP:(P == (b.size:Int)) with
  | false =>
   have HN:Hid (RR=none):=by show _=_; rw [H1.out,if_pos hE,if_neg (by simp [hP])]
   go_wp2_with fail
   refine (cN _).mono ?_
   rintro e w3 ⟨rfl,rfl⟩
   exact⟨rfl,by rw [HN.out]; exact⟨rfl,HB2.out⟩⟩
  | true =>
   have H2:Hid (RR=(Jo L 0).bind fun r=>if r.2 == (L.length:Int) then some r.1 else none):=by show _=_; rw [H1.out,if_pos hE,if_pos hP]
   clear H1
   go_wp2_with fail
   refine (cO _).mono ?_
   rintro e w3 ⟨rfl,rfl⟩
   have HB3:=Bn w3 (.cells (rdA q00 (W.bytes L) 0) 148)
   have HRD:Hid (Rd w w3§ (w3.alloc (.cells (rdA q00 (W.bytes L) 0) 148)) w3§ [(w§,26,zA3)] q00 (W.bytes L) 0):=⟨Hn _ _,Qa HB2.out HB3,HB2.out.size,fun b hb=>by
    rw [List.mem_singleton.1 hb]
    have:=(Array.getElem?_eq_some_iff.1 HN2.out).1
    exact⟨(HB3.block _ this).trans HN2.out,Nat.ne_of_lt this⟩,fun b hb=>by rw [List.mem_singleton.1 hb]; exact Nat.le_refl _,by rw [Sa]; omega⟩
   have hLL:(W.bytes L).data.toList=L:=by simp [W.bytes]
   have hLZ:(W.bytes L).size=L.length:=by rw [← W.len_of,hLL]
   have cR:=read_any w3§ [(w§,26,zA3)] (W.bytes L) 0 (w3.alloc (.cells (rdA q00 (W.bytes L) 0) 148)) w HRD.out (by rw [hLZ]; exact HLs.out)
   rw [hLL] at cR
   clear HB3 HRD hLL
   go_wp2_with fail
   refine cR.mono ?_
   intro e w4 ho
   clear cR
   cases hr:Jo L 0 with
   | none =>
    rw [hr] at ho
    have HN:Hid (RR=none):=by show _=_; rw [H2.out,hr]; rfl
    obtain⟨rfl,hb⟩:=ho
    exact⟨rfl,by rw [HN.out]; exact⟨rfl,hb⟩⟩
   | some Tp =>
    obtain⟨T,p4⟩:=Tp
    rw [hr] at ho
    obtain⟨t,q,nb,rfl,hIs,hIT,hKp,hF4,hR4,hOw⟩:=ho
    have HOW:Hid (OwT nb t):=hOw
    clear hOw
    have HF4:=zH hF4
    have x8:w4.cell? ⟨w3§,8,none⟩=some (zI p4):=Co hR4.H 8
    have HIT:Hid (IsT q t∧Is T t∧Keep nb (fun V=>TbL V t)):=⟨hIT,hIs,hKp⟩
    have HR4:=zH hR4
    clear hIs hIT hKp hR4 hF4
    cases hp:(p4 == (L.length:Int)) with
    | false =>
     have HN:Hid (RR=none):=by show _=_; rw [H2.out,hr]; show (if p4 == (L.length:Int) then _ else _)=_; rw [if_neg (by simp [hp])]
     have HB4:=zH HR4.out.B
     go_wp2_with fail
     refine (cN _).mono ?_
     rintro e w5 ⟨rfl,rfl⟩
     exact⟨rfl,by rw [HN.out]; exact⟨rfl,HB4.out⟩⟩
    | true =>
     have HN:Hid (RR=some T):=by show _=_; rw [H2.out,hr]; show (if p4 == (L.length:Int) then _ else _)=_; rw [if_pos hp]
     obtain⟨y0,y1,y2,y3,y4,y5⟩:=HIT.out.1
     have z0:w4.cell? ⟨w3§,0,none⟩=some (.string t.x):=(Co HR4.out.H 0).trans (congrArg some y0)
     have z1:w4.cell? ⟨w3§,1,none⟩=some (.slice t.ra t.rs.length t.rc):=(Co HR4.out.H 1).trans (congrArg some y1)
     have z2:w4.cell? ⟨w3§,2,none⟩=some (zI t.sl):=(Co HR4.out.H 2).trans (congrArg some y2)
     have z3:w4.cell? ⟨w3§,3,none⟩=some (.slice t.ca t.cs.length t.cc):=(Co HR4.out.H 3).trans (congrArg some y3)
     have z4:w4.cell? ⟨w3§,4,none⟩=some (.slice t.da t.ds.length t.dc):=(Co HR4.out.H 4).trans (congrArg some y4)
     have z5:w4.cell? ⟨w3§,5,none⟩=some (.slice t.ta t.ts.length t.tc):=(Co HR4.out.H 5).trans (congrArg some y5)
     have HN4:=zH ((HR4.out.K (w§,26,zA3) (by simp)).1)
     have HTL:Hid (Bxs w (w4.setRow w§ t.vals) t nb):=⟨HIT.out.2.2,fun bx hbx=>by
      have h1:=HF4.out bx hbx
      have h2:=(Array.getElem?_eq_some_iff.1 HN2.out).1
      exact⟨(setRow_other _ _ _ _ (by omega)).trans (HR4.out.K bx (by simp [hbx])).1,by omega⟩⟩
     have HBS:Hid (Below w§ w (w4.setRow w§ t.vals)):=Qc HR4.out.B (Nat.le_refl _) _
     have HNS:Hid ((w4.setRow w§ t.vals).heap[w§]? = some (.cells t.vals 26 (0,0))):=setRow_heap _ _ _ _ _ _ HN4.out
     clear y0 y1 y2 y3 y4 y5
     go_wp2_with fail
     refine (cO _).mono ?_
     rintro e w5 ⟨rfl,rfl⟩
     go_wp2_with (refine wpList_store_row rfl 26 (.tmp 2) (.tmp 39) rfl w§ t.vals rfl rfl 26 zA3 HN4.out Qe rfl (JN _) ?_)
     refine bodyPost_ret (results_cell_row rfl _ _ w§ 26 t.vals (0,0) _ rfl HNS.out Tryz.underlying26 rfl Qe) rfl ?_
     rw [HN.out]
     exact⟨t,nb,rfl,HIT.out.2.1,HTL.out,HBS.out,HOW.out⟩
end O
end Go.Proofs.YteedmmljahgpjaaGreatDoor
