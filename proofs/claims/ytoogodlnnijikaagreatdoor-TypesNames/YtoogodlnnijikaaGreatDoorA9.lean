import Derived.Test.YtoogodlnnijikaaGreatDoorA0
import Derived.Test.YtoogodlnnijikaaGreatDoorA8
import Derived.Test.YtoogodlnnijikaaGreatDoorA2
namespace Go.Proofs.YtoogodlnnijikaaGreatDoor
set_option maxRecDepth 100000
open Go.RowKit
theorem put3 {w:yW}{b:Nat}{a0 a1 a2 a3 a4 a5 a6:Value}(h:w.heap[b]? = (zC #[a0,a1,a2,a3,a4,a5,a6] 77)) (v4 v5 v6:Value):(((w.setCell b¢4 v4).setCell b¢5 v5).setCell b¢6 v6).heap[b]? = (zC #[a0,a1,a2,a3,v4,v5,v6] 77):=by
 have h1:(w.setCell b¢4 v4).heap[b]? = (zC #[a0,a1,a2,a3,v4,a5,a6] 77):=Qi v4 h
 have h2:((w.setCell b¢4 v4).setCell b¢5 v5).heap[b]? = (zC #[a0,a1,a2,a3,v4,v5,a6] 77):=Qi v5 h1
 exact Qi v6 h2
theorem oth3 (w:yW) {b c:Nat}(h:c≠b) (v4 v5 v6:Value):(((w.setCell b¢4 v4).setCell b¢5 v5).setCell b¢6 v6).heap[c]? = w.heap[c]?:=by
 iterate 3 (refine (Below.heap_setCell _ _ _ _ (show c≠b from h)).trans ?_)
 rfl
theorem mv3 {w0 w:yW}{b:Nat}(m:Mv w0 w (fun k=>k=b)) (v4 v5 v6:Value):Mv w0 (((w.setCell b¢4 v4).setCell b¢5 v5).setCell b¢6 v6) (fun k=>k=b) :=
 ((m.setCell (a:=b¢4) (.inl rfl) v4).setCell (a:=b¢5) (.inl rfl) v5).setCell (a:=b¢6) (.inl rfl) v6
theorem wrong_over {w:yW}{b:Nat}{K:PK}{i:Nat}{e p:Int}{t:Bool}(h:Pr w b K i e p t) (he:e≠0) (no:Int) :
  Calls zG 62 #[zP b,zI no] w fun e w'=>e=.returned (.tuple #[])∧w'=w:=by
 have cO:=over_yes h he
 clear h
 go_enter Tryz.func62,Tryz.ntmps62
 go_wp2_with fail
 refine cO.mono ?_
 rintro e w1 ⟨rfl,rfl⟩
 go_wp2_with fail
 exact bodyPost_ret (results_none rfl _ _ _) rfl ⟨rfl,rfl⟩
theorem wrong_lex {w:yW}{b:Nat}{K:PK}{p:Int}{t:Bool}(h:Pr w b K K.T.length 0 p t) (no:Int) :
  Calls zG 62 #[zP b,zI no] w fun e w'=>e=.returned (.tuple #[])∧Pr w' b K K.T.length K.be K.ba true∧Mv w w' (fun k=>k=b):=by
 have cO:=JS h
 have HP:=h.hid
 have c0:w.cell? b¢0=some (.slice K.a K.T.length K.c):=Qa h.h 0
 have c3:w.cell? b¢3=some (zI K.T.length):=Qa h.h 3
 clear h
 go_enter Tryz.func62,Tryz.ntmps62
 go_wp2_with fail
 refine cO.mono ?_
 rintro e w1 ⟨rfl,rfl⟩
 clear cO
 go_upto_region 1 with fail
 go_quiet (fail)
 obtain⟨V,eV⟩:∃ V,w1.drewN nq=V:=⟨_,rfl⟩
 have HPV:=(HP.out.blk (w':=V) (fun _ _=>by rw [← eV]; rfl)).hid
 have HMV:Hid (Mv w1 V (fun k=>k=b)):=by rw [← eV]; exact⟨rfl,rfl,rfl,Nat.le_refl _,fun _ _ _=>rfl⟩
 rw [eV]
 clear eV c0 c3 HP
 have c1:V.cell? b¢1=some (zI K.be):=Qa HPV.out.h 1
 have c2:V.cell? b¢2=some (zI K.ba):=Qa HPV.out.h 2
 go_upto_region 2 with fail
 refine wp_region_held_drew (S:=fun v=>v.cell? b¢1=some (zI K.be)∧v.cell? b¢2=some (zI K.ba)) zK ⟨c1,c2⟩ (fun hHeld=>?_)
 refine wpAnyH_take (i:=0) (v:=?_) rfl zK zK zK (fun _ _ _ h=>h) (Or.inl ⟨by rfl,?_⟩) (by assumption) ?_
 rotate_left
 ·(intro v hv; obtain⟨t1,t2⟩:=hv; go_simp; try (with_reducible rfl))
 try simp [Act.put]
 refine wpAnyH_take (i:=1) (v:=?_) rfl zK zK zK (fun _ _ _ h=>h) (Or.inl ⟨by rfl,?_⟩) (by assumption) ?_
 rotate_left
 ·(intro v hv; obtain⟨t1,t2⟩:=hv; go_simp; try (with_reducible rfl))
 try simp [Act.put]
 refine wpAnyH_take (i:=2) (v:=?_) rfl zK zK zK (fun _ _ _ h=>h) (Or.inl ⟨by rfl,?_⟩) (by assumption) ?_
 rotate_left
 ·(intro v hv; obtain⟨t1,t2⟩:=hv; go_simp; try (with_reducible rfl))
 try simp [Act.put]
 refine wpAnyH_take (i:=3) (v:=?_) rfl zK zK zK (fun _ _ _ h=>h) (Or.inl ⟨by rfl,?_⟩) (by assumption) ?_
 rotate_left
 ·(intro v hv; obtain⟨t1,t2⟩:=hv; go_simp; try (with_reducible rfl))
 try simp [Act.put]
 refine wpAnyH_take (i:=4) (v:=?_) rfl zK zK zK (fun _ _ _ h=>h) (Or.inl ⟨by rfl,?_⟩) (by assumption) ?_
 rotate_left
 ·(intro v hv; obtain⟨t1,t2⟩:=hv; go_simp; try (with_reducible rfl))
 try simp [Act.put]
 refine wpAnyH_take (i:=5) (v:=?_) rfl zK zK zK (fun _ _ _ h=>h) (Or.inl ⟨by rfl,?_⟩) (by assumption) ?_
 rotate_left
 ·(intro v hv; obtain⟨t1,t2⟩:=hv; go_simp; try (with_reducible rfl))
 try simp [Act.put]
 refine wpAnyH_take (i:=6) (v:=?_) rfl zK zK zK (fun _ _ _ h=>h) (Or.inl ⟨by rfl,?_⟩) (by assumption) ?_
 rotate_left
 ·(intro v hv; obtain⟨t1,t2⟩:=hv; go_simp; try (with_reducible rfl))
 try simp [Act.put]
 refine wpAnyH_take (i:=7) (v:=?_) rfl zK zK zK (fun _ _ _ h=>h) (Or.inl ⟨by rfl,?_⟩) (by assumption) ?_
 rotate_left
 ·(intro v hv; obtain⟨t1,t2⟩:=hv; go_simp; try (with_reducible rfl))
 try simp [Act.put]
 refine wpAnyH_take (i:=8) (v:=?_) rfl zK zK zK (fun _ _ _ h=>h) (Or.inl ⟨by rfl,?_⟩) (by assumption) ?_
 rotate_left
 ·(intro v hv; obtain⟨t1,t2⟩:=hv; go_simp; try (with_reducible rfl))
 try simp [Act.put]
 refine wpAnyH_take (i:=9) (v:=?_) rfl zK zK zK (fun _ _ _ h=>h) (Or.inl ⟨by rfl,?_⟩) (by assumption) ?_
 rotate_left
 ·(intro v hv; obtain⟨t1,t2⟩:=hv; go_simp; try (with_reducible rfl))
 try simp [Act.put]
 refine wpAnyH_take (i:=10) (v:=?_) rfl zK zK zK (fun _ _ _ h=>h) (Or.inl ⟨by rfl,?_⟩) (by assumption) ?_
 rotate_left
 ·(intro v hv; obtain⟨t1,t2⟩:=hv; go_simp; try (with_reducible rfl))
 try simp [Act.put]
 refine wpAnyH_take (i:=11) (v:=?_) rfl zK zK zK (fun _ _ _ h=>h) (Or.inl ⟨by rfl,?_⟩) (by assumption) ?_
 rotate_left
 ·(intro v hv; obtain⟨t1,t2⟩:=hv; go_simp; try (with_reducible rfl))
 try simp [Act.put]
 obtain⟨U,eU⟩:∃ U,V.drew=U:=⟨_,rfl⟩
 have HPU:=(HPV.out.blk (w':=U) (fun _ _=>by rw [← eU]; rfl)).hid
 have HMU:Hid (Mv w1 U (fun k=>k=b)):=by rw [← eU]; exact HMV.out.drew
 rw [eU] at hHeld ⊢
 clear eU c1 c2
 have z4:U.cell? b¢4=some (zI 0):=Qa HPU.out.h 4
 have q4:U.frozen? b¢4=false:=Qb HPU.out.h 4
 have z5:U.cell? b¢5=some (zI p):=Qa HPU.out.h 5
 have q5:U.frozen? b¢5=false:=Qb HPU.out.h 5
 have z6:U.cell? b¢6=some (.bool t):=Qa HPU.out.h 6
 have q6:U.frozen? b¢6=false:=Qb HPU.out.h 6
 refine wpAnyH_ready (rs:=[12]) zK (by simp) ?_
 refine AllReadyH.cons rfl (fun K' hK=>?_) AllReadyH.nil
 go_simp
 have hfin:=put3 HPU.out.h (zI K.be) (zI K.ba) (.bool true)
 have HF:Hid (Pr (((U.setCell b¢4 (zI K.be)).setCell b¢5 (zI K.ba)).setCell b¢6 (.bool true)) b K K.T.length K.be K.ba true):=HPU.out.new (fun c hc _=>oth3 _ hc _ _ _) (Nat.le_refl _) (fun hl=>absurd (HPU.out.z hl).1 (by decide)) hfin
 refine hK.out _ _ ⟨Qa hfin 1,Qa hfin 2⟩ (fun hHeld7=>?_)
 clear hK K' hfin
 refine wpAnyH_done zK ?_ _
 go_wp2_with fail
 exact bodyPost_ret (results_none rfl _ _ _) rfl ⟨rfl,HF.out,mv3 HMU.out _ _ _⟩
theorem wrong_tok {w:yW}{b:Nat}{K:PK}{i:Nat}{p:Int}{t:Bool}{tk:Tk}(h:Pr w b K i 0 p t) (hg:K.T[i]? = some tk) (no:Int) :
  Calls zG 62 #[zP b,zI no] w fun e w'=>e=.returned (.tuple #[])∧Pr w' b K i no tk.p false∧Mv w w' (fun k=>k=b):=by
 have cO:=JS h
 obtain⟨hi,etk⟩:=List.getElem?_eq_some_iff.1 hg
 clear hg
 obtain⟨G,o,ea,hn,ht⟩:=h.r i hi
 rw [etk] at ht
 have HP:=h.hid
 have HTK:Hid (TkC w G (o+i * 5) tk):=ht
 have c0:w.cell? b¢0=some (.slice K.a K.T.length K.c):=Qa h.h 0
 have c3:w.cell? b¢3=some (zI i):=Qa h.h 3
 have hd:¬ (K.T.length:Int)≤(i:Int):=by omega
 have hd':decide ((K.T.length:Int)≤(i:Int))=false:=decide_eq_false hd
 clear h ht etk
 go_enter Tryz.func62,Tryz.ntmps62
 go_wp2_with fail
 refine cO.mono ?_
 rintro e w1 ⟨rfl,rfl⟩
 clear cO
 go_upto_region 1 with fail
 go_quiet (fail)
 obtain⟨V,eV⟩:∃ V,w1.drewN nq=V:=⟨_,rfl⟩
 have HPV:=(HP.out.blk (w':=V) (fun _ _=>by rw [← eV]; rfl)).hid
 have HMV:Hid (Mv w1 V (fun k=>k=b)):=by rw [← eV]; exact⟨rfl,rfl,rfl,Nat.le_refl _,fun _ _ _=>rfl⟩
 have HTV:Hid (TkC V G (o+i * 5) tk):=HTK.out.blk (by rw [← eV]; rfl)
 rw [eV]
 clear eV c0 c3 HP HTK
 have c0:V.cell? b¢0=some (.slice (some G¢o) K.T.length K.c):=by rw [← ea]; exact Qa HPV.out.h 0
 have c3:V.cell? b¢3=some (zI i):=Qa HPV.out.h 3
 have y4:=HTV.out.c4
 have hi':(i:Int) < (K.T.length:Int):=by omega
 have HEA:Hid (K.a=some G¢o):=ea
 clear ea
 go_upto_region 3 with fail
 refine wp_region_held_drew (S:=fun v=>v.cell? b¢0=some (.slice (some G¢o) K.T.length K.c)∧v.cell? b¢3=some (zI i)∧v.cell? ⟨G,o+i * 5+4,none⟩=some (zI tk.p)) zK ⟨c0,c3,y4⟩ (fun hHeld=>?_)
 refine wpAnyH_take (i:=0) (v:=?_) rfl zK zK zK (fun _ _ _ h=>h) (Or.inl ⟨by rfl,?_⟩) (by assumption) ?_
 rotate_left
 ·(intro v hv; obtain⟨t0,t3,t4⟩:=hv; go_simp; try (with_reducible rfl))
 try simp [Act.put]
 refine wpAnyH_take (i:=1) (v:=?_) rfl zK zK zK (fun _ _ _ h=>h) (Or.inl ⟨by rfl,?_⟩) (by assumption) ?_
 rotate_left
 ·(intro v hv; obtain⟨t0,t3,t4⟩:=hv; go_simp; try (with_reducible rfl))
 try simp [Act.put]
 refine wpAnyH_take (i:=2) (v:=?_) rfl zK zK zK (fun _ _ _ h=>h) (Or.inl ⟨by rfl,?_⟩) (by assumption) ?_
 rotate_left
 ·(intro v hv; obtain⟨t0,t3,t4⟩:=hv; go_simp; try (with_reducible rfl))
 try simp [Act.put]
 refine wpAnyH_take (i:=3) (v:=?_) rfl zK zK zK (fun _ _ _ h=>h) (Or.inl ⟨by rfl,?_⟩) (by assumption) ?_
 rotate_left
 ·(intro v hv; obtain⟨t0,t3,t4⟩:=hv; go_simp; try (with_reducible rfl))
 try simp [Act.put]
 refine wpAnyH_take (i:=4) (v:=?_) rfl zK zK zK (fun _ _ _ h=>h) (Or.inl ⟨by rfl,?_⟩) (by assumption) ?_
 rotate_left
 ·(intro v hv; obtain⟨t0,t3,t4⟩:=hv; go_simp; try (with_reducible rfl))
 try simp [Act.put]
 refine wpAnyH_take (i:=5) (v:=?_) rfl zK zK zK (fun _ _ _ h=>h) (Or.inl ⟨by rfl,?_⟩) (by assumption) ?_
 rotate_left
 ·(intro v hv; obtain⟨t0,t3,t4⟩:=hv; go_simp; try (with_reducible rfl))
 try simp [Act.put]
 refine wpAnyH_take (i:=6) (v:=?_) rfl zK zK zK (fun _ _ _ h=>h) (Or.inl ⟨by rfl,?_⟩) (by assumption) ?_
 rotate_left
 ·(intro v hv; obtain⟨t0,t3,t4⟩:=hv; go_simp; try (with_reducible rfl))
 try simp [Act.put]
 refine wpAnyH_take (i:=7) (v:=?_) rfl zK zK zK (fun _ _ _ h=>h) (Or.inl ⟨by rfl,?_⟩) (by assumption) ?_
 rotate_left
 ·(intro v hv; obtain⟨t0,t3,t4⟩:=hv; go_simp; try (with_reducible rfl))
 try simp [Act.put]
 refine wpAnyH_take (i:=8) (v:=?_) rfl zK zK zK (fun _ _ _ h=>h) (Or.inl ⟨by rfl,?_⟩) (by assumption) ?_
 rotate_left
 ·(intro v hv; obtain⟨t0,t3,t4⟩:=hv; go_simp; try (with_reducible rfl))
 try simp [Act.put]
 refine wpAnyH_take (i:=9) (v:=?_) rfl zK zK zK (fun _ _ _ h=>h) (Or.inl ⟨by rfl,?_⟩) (by assumption) ?_
 rotate_left
 ·(intro v hv; obtain⟨t0,t3,t4⟩:=hv; go_simp; try (with_reducible rfl))
 try simp [Act.put]
 refine wpAnyH_take (i:=10) (v:=?_) rfl zK zK zK (fun _ _ _ h=>h) (Or.inl ⟨by rfl,?_⟩) (by assumption) ?_
 rotate_left
 ·(intro v hv; obtain⟨t0,t3,t4⟩:=hv; go_simp; try (with_reducible rfl))
 try simp [Act.put]
 refine wpAnyH_take (i:=11) (v:=?_) rfl zK zK zK (fun _ _ _ h=>h) (Or.inl ⟨by rfl,?_⟩) (by assumption) ?_
 rotate_left
 ·(intro v hv; obtain⟨t0,t3,t4⟩:=hv; go_simp; try (with_reducible rfl))
 try simp [Act.put]
 refine wpAnyH_take (i:=12) (v:=?_) rfl zK zK zK (fun _ _ _ h=>h) (Or.inl ⟨by rfl,?_⟩) (by assumption) ?_
 rotate_left
 ·(intro v hv; obtain⟨t0,t3,t4⟩:=hv; go_simp; try (with_reducible rfl))
 try simp [Act.put]
 refine wpAnyH_take (i:=13) (v:=?_) rfl zK zK zK (fun _ _ _ h=>h) (Or.inl ⟨by rfl,?_⟩) (by assumption) ?_
 rotate_left
 ·(intro v hv; obtain⟨t0,t3,t4⟩:=hv; go_simp; try (with_reducible rfl))
 try simp [Act.put]
 refine wpAnyH_take (i:=14) (v:=?_) rfl zK zK zK (fun _ _ _ h=>h) (Or.inl ⟨by rfl,?_⟩) (by assumption) ?_
 rotate_left
 ·(intro v hv; obtain⟨t0,t3,t4⟩:=hv; go_simp; try (with_reducible rfl))
 try simp [Act.put]
 refine wpAnyH_take (i:=15) (v:=?_) rfl zK zK zK (fun _ _ _ h=>h) (Or.inl ⟨by rfl,?_⟩) (by assumption) ?_
 rotate_left
 ·(intro v hv; obtain⟨t0,t3,t4⟩:=hv; go_simp; try (with_reducible rfl))
 try simp [Act.put]
 obtain⟨U,eU⟩:∃ U,V.drew=U:=⟨_,rfl⟩
 have HPU:=(HPV.out.blk (w':=U) (fun _ _=>by rw [← eU]; rfl)).hid
 have HMU:Hid (Mv w1 U (fun k=>k=b)):=by rw [← eU]; exact HMV.out.drew
 have HTU:Hid (TkC U G (o+i * 5) tk):=HTV.out.blk (by rw [← eU]; rfl)
 rw [eU] at hHeld ⊢
 clear eU c0 c3 y4
 have z4:U.cell? b¢4=some (zI 0):=Qa HPU.out.h 4
 have q4:U.frozen? b¢4=false:=Qb HPU.out.h 4
 have z5:U.cell? b¢5=some (zI p):=Qa HPU.out.h 5
 have q5:U.frozen? b¢5=false:=Qb HPU.out.h 5
 have z6:U.cell? b¢6=some (.bool t):=Qa HPU.out.h 6
 have q6:U.frozen? b¢6=false:=Qb HPU.out.h 6
 refine wpAnyH_ready (rs:=[16]) zK (by simp) ?_
 refine AllReadyH.cons rfl (fun K' hK=>?_) AllReadyH.nil
 go_simp
 have hfin:=put3 HPU.out.h (zI no) (zI tk.p) (.bool false)
 have HF:Hid (Pr (((U.setCell b¢4 (zI no)).setCell b¢5 (zI tk.p)).setCell b¢6 (.bool false)) b K i no tk.p false):=HPU.out.new (fun c hc _=>oth3 _ hc _ _ _) HPU.out.l (fun hl=>absurd (HPU.out.z hl).1 (by decide)) hfin
 refine hK.out _ _ ⟨by rw [← HEA.out]; exact Qa hfin 0,Qa hfin 3,(HTU.out.blk (oth3 _ hn _ _ _)).c4⟩ (fun hHeld7=>?_)
 clear hK K' hfin
 refine wpAnyH_done zK ?_ _
 go_wp2_with fail
 go_end0
 exact⟨rfl,HF.out,mv3 HMU.out _ _ _⟩
theorem J4 {w:yW}{b:Nat}{K:PK}{t:Tk}{ts:List Tk}(h:Lv w b K (t :: ts)) (no:Int) (hn:no≠0) :
  Calls zG 62 #[zP b,zI no] w fun e w'=>e=.returned (.tuple #[])∧Dd w' b K (.tok no t.p)∧Mv w w' (fun k=>k=b):=by
 obtain⟨i,p,u,h1,h2⟩:=h
 have hg:K.T[i]? = some t:=by
  have:=congrArg (fun l=>l[0]?) h2
  simp at this
  exact this.symm
 refine (wrong_tok h1 hg no).mono ?_
 rintro e w' ⟨rfl,hp,hm⟩
 exact⟨rfl,⟨i,hp,hn⟩,hm⟩
theorem wrong_dead {w:yW}{b:Nat}{K:PK}{f:Ft}(h:Dd w b K f) (no:Int) :
  Calls zG 62 #[zP b,zI no] w fun e w'=>e=.returned (.tuple #[])∧Dd w' b K f∧Mv w w' (fun k=>k=b):=by
 cases f with
 | tok n p =>
  obtain⟨i,h1,h2⟩:=h
  refine (wrong_over h1 h2 no).mono ?_
  rintro e w' ⟨rfl,rfl⟩
  exact⟨rfl,⟨i,h1,h2⟩,Mv.refl _ _⟩
 | lex =>
  obtain⟨e,p,t,h1,h2⟩:=h
  by_cases he:e=0
  ·subst he
   refine (wrong_lex h1 no).mono ?_
   rintro e w' ⟨rfl,hp,hm⟩
   exact⟨rfl,⟨_,_,_,hp,.inr (.inl ⟨rfl,rfl,rfl⟩)⟩,hm⟩
  ·refine (wrong_over h1 he no).mono ?_
   rintro e w' ⟨rfl,rfl⟩
   exact⟨rfl,⟨_,_,_,h1,h2⟩,Mv.refl _ _⟩
theorem Qt {w:yW}{b:Nat}{K:PK}{t:Tk}{ts:List Tk}(h:Lv w b K (t :: ts)) :
  Calls zG 90 #[zP b] w fun e w'=>e=.returned (.agg (tkA t))∧yD w w':=by
 obtain⟨i,p,u,h1,h2⟩:=h
 have hg:K.T[i]? = some t:=by
  have:=congrArg (fun l=>l[0]?) h2
  simp at this
  exact this.symm
 exact now_live h1 hg
theorem dead_now {w:yW}{b:Nat}{K:PK}{f:Ft}(h:Dd w b K f) :
  Calls zG 90 #[zP b] w fun e w'=>e=.returned (.agg (tkA tk0))∧yD w w':=by
 cases f with
 | tok n p =>
  obtain⟨i,h1,h2⟩:=h
  exact now_over h1 h2
 | lex =>
  obtain⟨e,p,t,h1,h2⟩:=h
  by_cases he:e=0
  ·subst he
   exact now_none h1
  ·exact now_over h1 he
theorem Jo {w:yW}{b:Nat}{K:PK}{t:Tk}{ts:List Tk}(h:Lv w b K (t :: ts)) (x:yB) (hx:t.x=x→t.k=1∨t.k=4) :
  Calls zG 57 #[zP b,.string x] w fun e w'=>e=.returned (.bool (decide (t.x=x)))∧yD w w':=by
 have cN:=Qt h
 clear h
 unfold tkA at cN
 by_cases e:t.x=x
 ·rw [decide_eq_true e]
  rcases hx e with hk | hk
  ·subst e
   rw [hk] at cN
   clear hx hk
   go_enter Tryz.func57,Tryz.ntmps57
   go_wp2_with fail
   refine cN.mono ?_
   rintro e w1 ⟨rfl,hb⟩
   have HB:Hid (yD w w1):=hb
   clear cN hb
   go_wp2_with fail
   go_ret
   exact⟨rfl,Qe HB.out (Qc _ _)⟩
  ·subst e
   rw [hk] at cN
   clear hx hk
   go_enter Tryz.func57,Tryz.ntmps57
   go_wp2_with fail
   refine cN.mono ?_
   rintro e w1 ⟨rfl,hb⟩
   have HB:Hid (yD w w1):=hb
   clear cN hb
   go_wp2_with fail
   go_ret
   exact⟨rfl,Qe HB.out (Qc _ _)⟩
 ·have hs:=str_ne e
  rw [decide_eq_false e]
  clear hx e
  go_enter Tryz.func57,Tryz.ntmps57
  go_wp2_with fail
  refine cN.mono ?_
  rintro e w1 ⟨rfl,hb⟩
  have HB:Hid (yD w w1):=hb
  clear cN hb
  go_wp2_with fail
  go_ret
  exact⟨rfl,Qe HB.out (Qc _ _)⟩
theorem is_dead {w:yW}{b:Nat}{K:PK}{f:Ft}(h:Dd w b K f) (x:yB) (hx:x≠⟨#[]⟩) :
  Calls zG 57 #[zP b,.string x] w fun e w'=>e=.returned (.bool false)∧yD w w':=by
 have cN:=dead_now h
 clear h
 unfold tkA tk0 at cN
 have hs0:¬ x.toList = []:=fun e=>hx (ba_ext2 (by rw [ByteArray.toList_eq] at e; exact e))
 have hs:x.toList.isEmpty=false:=by cases hl:x.toList with | nil=>exact absurd hl hs0 | cons _ _=>rfl
 clear hx
 go_enter Tryz.func57,Tryz.ntmps57
 go_wp2_with fail
 refine cN.mono ?_
 rintro e w1 ⟨rfl,hb⟩
 have HB:Hid (yD w w1):=hb
 clear cN hb
 go_wp2_with fail
 go_ret
 exact⟨rfl,Qe HB.out (Qc _ _)⟩
def fnd (y:yB):List yB→Nat→Int
 | [],_=>-1
 | x :: xs,i=>if y=x then (i:Int) else fnd y xs (i+1)
theorem fnd_none (y:yB):∀ (L:List yB) (k:Nat),(∀ j (h:j < L.length),y≠L[j])→fnd y L k = -1:=by
 intro L
 induction L with
 | nil=>intro k _; rfl
 | cons x xs ih =>
  intro k h
  have h0:=h 0 (by simp)
  simp only [List.getElem_cons_zero] at h0
  rw [fnd,if_neg h0]
  exact ih (k+1) (fun j hj=>by have:=h (j+1) (by simpa using hj); simpa using this)
theorem fnd_at (y:yB):∀ (L:List yB) (k i:Nat) (hi:i < L.length),(∀ j (h:j < L.length),j < i→y≠L[j])→y=L[i]→fnd y L k=((k+i:Nat):Int):=by
 intro L
 induction L with
 | nil=>intro k i hi; simp at hi
 | cons x xs ih =>
  intro k i hi h he
  cases i with
  | zero =>
   simp only [List.getElem_cons_zero] at he
   rw [fnd,if_pos he]
   simp
  | succ i =>
   have h0:=h 0 (by simp) (by omega)
   simp only [List.getElem_cons_zero] at h0
   rw [fnd,if_neg h0,ih (k+1) i (by simpa using hi) (fun j hj hji=>by have:=h (j+1) (by simpa using hj) (by omega); simpa using this) (by simpa using he)]
   congr 1
   omega
def SLs (w:yW) (A:Nat) (L:List yB):Prop:=∀ j (hj:j < L.length),w.cell? A¢j=some (.string L[j])
theorem SLs.on {w w':yW}{A:Nat}{L:List yB}(h:SLs w A L) (k:yD w w'):SLs w' A L:=fun j hj =>
 (World.cell?_of_block (k.block A (World.block_lt_of_cell? w _ (h j hj)))).trans (h j hj)
theorem any_live {w:yW}{b:Nat}{K:PK}{t0:Tk}{ts:List Tk}(h:Lv w b K (t0 :: ts)) {A:Nat}{L:List yB}{c:Nat}(hL:SLs w A L) (hn:L.length≤1000) (hx:∀ x ∈ L,t0.x=x→t0.k=1∨t0.k=4) :
  Calls zG 92 #[zP b,.slice (some A¢0) L.length c] w fun e w'=>e=.returned (zI (fnd t0.x L 0))∧yD w w':=by
 have HH:=h.hid
 have HL:Hid (SLs w A L):=hL
 have HX:=hx
 clear h hL hx
 go_enter Tryz.func92,Tryz.ntmps92
 go_wp2_with fail
 go_loopw [5,6] (fun t _ wr=>∃ i:Nat,i≤L.length∧t=zI i∧Hid (yD w wr)∧Hid (∀ j (h:j < L.length),j < i→t0.x≠L[j])) (fun t _ _=>L.length - (intOf t).toNat)
 case atStart=>exact⟨0,by omega,rfl,Below.refl _ _,fun j _ hj=>by omega⟩
 case round =>
  obtain⟨i,hi,rfl,HR,HJ⟩:=hrel
  by_cases hlt:i < L.length
  ·have hlt':(i:Int) < (L.length:Int):=by omega
   have cs:=(HL.out.on HR.out) i hlt
   have cI:=Jo (HH.out.on HR.out) L[i] (HX L[i] (List.getElem_mem hlt))
   have hmx:(i:Int)+1≤9223372036854775807:=by omega
   obtain⟨x,ex⟩:∃ x,L[i]=x:=⟨_,rfl⟩
   have HEX:Hid (L[i]=x):=ex
   rw [ex] at cs cI
   clear ex
   by_cases he:t0.x=x
   ·rw [decide_eq_true he] at cI
    have HE:Hid (t0.x=x):=he
    clear he
    go_wp2_with fail
    refine cI.mono ?_
    rintro e w1 ⟨rfl,hb⟩
    have HB1:Hid (yD w w1):=Qe HR.out hb
    clear cI hb cs
    go_wp2_with fail
    go_ret
    exact⟨by show Ending.returned (zI (i:Int))=_; rw [fnd_at t0.x L 0 i hlt HJ.out (by rw [HEX.out,HE.out])]; simp,HB1.out⟩
   ·rw [decide_eq_false he] at cI
    have HE:Hid (¬ t0.x=x):=he
    clear he
    go_wp2_with fail
    refine cI.mono ?_
    rintro e w1 ⟨rfl,hb⟩
    have HB1:Hid (yD w w1):=Qe HR.out hb
    clear cI hb cs
    go_wp2_with fail
    exact⟨⟨i+1,hlt,rfl,HB1,fun j hj hji=>by
     by_cases e:j=i
     ·subst e; rw [HEX.out]; exact HE.out
     ·exact HJ.out j hj (by omega)⟩,by simp only [intOf]; omega⟩
  ·obtain rfl:i=L.length:=by omega
   have hnot:¬ (L.length:Int) < (L.length:Int):=by omega
   go_wp2_with fail
   go_ret
   exact⟨by show Ending.returned (zI (-1))=_; rw [fnd_none t0.x L 0 (fun j hj=>HJ.out j hj hj)],HR.out⟩
theorem any_dead {w:yW}{b:Nat}{K:PK}{f:Ft}(h:Dd w b K f) {A:Nat}{L:List yB}{c:Nat}(hL:SLs w A L) (hn:L.length≤1000) (hx:∀ x ∈ L,x≠⟨#[]⟩) :
  Calls zG 92 #[zP b,.slice (some A¢0) L.length c] w fun e w'=>e=.returned (zI (-1))∧yD w w':=by
 have HH:=h.hid
 have HL:Hid (SLs w A L):=hL
 have HX:=hx
 clear h hL hx
 go_enter Tryz.func92,Tryz.ntmps92
 go_wp2_with fail
 go_loopw [5,6] (fun t _ wr=>∃ i:Nat,i≤L.length∧t=zI i∧Hid (yD w wr)) (fun t _ _=>L.length - (intOf t).toNat)
 case atStart=>exact⟨0,by omega,rfl,Below.refl _ _⟩
 case round =>
  obtain⟨i,hi,rfl,HR⟩:=hrel
  by_cases hlt:i < L.length
  ·have hlt':(i:Int) < (L.length:Int):=by omega
   have cs:=(HL.out.on HR.out) i hlt
   have cI:=is_dead (HH.out.on HR.out) L[i] (HX L[i] (List.getElem_mem hlt))
   have hmx:(i:Int)+1≤9223372036854775807:=by omega
   obtain⟨x,ex⟩:∃ x,L[i]=x:=⟨_,rfl⟩
   rw [ex] at cs cI
   clear ex
   go_wp2_with fail
   refine cI.mono ?_
   rintro e w1 ⟨rfl,hb⟩
   have HB1:Hid (yD w w1):=Qe HR.out hb
   clear cI hb cs
   go_wp2_with fail
   exact⟨⟨i+1,hlt,rfl,HB1⟩,by simp only [intOf]; omega⟩
  ·obtain rfl:i=L.length:=by omega
   have hnot:¬ (L.length:Int) < (L.length:Int):=by omega
   go_wp2_with fail
   go_ret
   exact⟨rfl,HR.out⟩
theorem Lv.at' {w:yW}{b:Nat}{K:PK}{t:Tk}{ts:List Tk}(h:Lv w b K (t :: ts)):∃ i:Nat,w.cell? b¢3=some (zI i)∧w.frozen? b¢3=false∧(i:Int)+1≤9223372036854775807 ∧
  Lv (w.setCell b¢3 (zI ((i:Int)+1))) b K ts∧Mv w (w.setCell b¢3 (zI ((i:Int)+1))) (fun k=>k=b)∧(∀ k,k≠b→(w.setCell b¢3 (zI ((i:Int)+1))).heap[k]? = w.heap[k]?)∧(w.setCell b¢3 (zI ((i:Int)+1)))§=w§:=by
 obtain⟨i,p,u,h1,h2⟩:=h
 have hi:i < K.T.length:=by
  have:=congrArg List.length h2
  simp at this
  omega
 have ets:ts=K.T.drop (i+1):=by
  have:=congrArg List.tail h2
  simpa using this
 have hm:=h1.m
 have hb:(w.setCell b¢3 (zI ((i:Int)+1))).heap[b]? = (zC #[.slice K.a K.T.length K.c,zI K.be,zI K.ba,zI ((i:Int)+1),zI 0,zI p,.bool u] 77):=Qi _ h1.h
 refine⟨i,Qa h1.h 3,Qb h1.h 3,by omega,⟨i+1,p,u,?_,ets⟩,Mv.setCell (F:=fun k=>k=b) (a:=b¢3) (Mv.refl _ _) (.inl rfl) _,fun k hk=>Below.heap_setCell _ _ _ _ hk,by simp [World.setCell]⟩
 exact h1.new (fun c hc _=>Below.heap_setCell _ _ _ _ hc) hi h1.z (by rw [hb]; simp)
theorem take_live {w:yW}{b:Nat}{K:PK}{t:Tk}{ts:List Tk}(h:Lv w b K (t :: ts)) (x:yB) (hx:t.x=x→t.k=1∨t.k=4) :
  Calls zG 55 #[zP b,.string x] w fun e w'=>(∃ p,e=.returned (zI p)∧(t.x=x→p=t.p))∧(if t.x=x then Lv w' b K ts else Dd w' b K (.tok 130 t.p))∧Mv w w' (fun k=>k=b):=by
 have cI:=Jo h x hx
 have HH:=h.hid
 clear h hx
 by_cases e:t.x=x
 ·rw [decide_eq_true e] at cI
  simp only [e,if_true]
  clear e
  go_enter Tryz.func55,Tryz.ntmps55
  go_wp2_with fail
  refine cI.mono ?_
  rintro e w1 ⟨rfl,hb⟩
  have HB1:Hid (yD w w1):=hb
  have cN:=Qt (HH.out.on hb)
  have hf:=fun v=>QF t v
  clear cI hb
  go_wp2_with fail
  refine cN.mono ?_
  rintro e w2 ⟨rfl,hb⟩
  have HB2:Hid (yD w w2):=Qe HB1.out hb
  obtain⟨i,c3,f3,hmx,hL,hM,_,_⟩:=(HH.out.on HB2.out).at'
  have HL:=hL.hid
  have HM:Hid (Mv w2 _ (fun k=>k=b)):=hM
  clear cN hb hL hM
  go_wp2_with fail
  go_ret
  exact⟨⟨t.p,rfl,fun _=>rfl⟩,HL.out,(Mv.ofBelow HB2.out).trans HM.out (fun k e=>.inl e)⟩
 ·rw [decide_eq_false e] at cI
  simp only [e,if_false,false_implies]
  clear e
  go_enter Tryz.func55,Tryz.ntmps55
  go_wp2_with fail
  refine cI.mono ?_
  rintro e w1 ⟨rfl,hb⟩
  have HB1:Hid (yD w w1):=hb
  have cN:=J4 (HH.out.on hb) 130 (by decide)
  clear cI hb
  go_wp2_with fail
  refine cN.mono ?_
  rintro e w2 ⟨rfl,hd,hm⟩
  have HD:=hd.hid
  have HM:Hid (Mv w1 w2 (fun k=>k=b)):=hm
  clear cN hd hm
  go_wp2_with fail
  go_ret
  exact⟨⟨0,rfl,trivial⟩,HD.out,(Mv.ofBelow HB1.out).trans HM.out (fun k e=>.inl e)⟩
theorem take_dead {w:yW}{b:Nat}{K:PK}{f:Ft}(h:Dd w b K f) (x:yB) (hx:x≠⟨#[]⟩) :
  Calls zG 55 #[zP b,.string x] w fun e w'=>(∃ p,e=.returned (zI p))∧Dd w' b K f∧Mv w w' (fun k=>k=b):=by
 have cI:=is_dead h x hx
 have HH:=h.hid
 clear h hx
 go_enter Tryz.func55,Tryz.ntmps55
 go_wp2_with fail
 refine cI.mono ?_
 rintro e w1 ⟨rfl,hb⟩
 have HB1:Hid (yD w w1):=hb
 have cN:=wrong_dead (HH.out.on hb) 130
 clear cI hb
 go_wp2_with fail
 refine cN.mono ?_
 rintro e w2 ⟨rfl,hd,hm⟩
 have HD:=hd.hid
 have HM:Hid (Mv w1 w2 (fun k=>k=b)):=hm
 clear cN hd hm
 go_wp2_with fail
 go_ret
 exact⟨⟨0,rfl⟩,HD.out,(Mv.ofBelow HB1.out).trans HM.out (fun k e=>.inl e)⟩
theorem KD {w:yW}{b:Nat}{K:PK}{t:Tk}{ts:List Tk}(h:Lv w b K (t :: ts)) (d:Nat) (hd:d < 24) :
  Calls zG 89 #[zP b,zI d] w fun e w'=>e=.returned (.bool true)∧w'=w:=by
 obtain⟨i,p,u,h1,h2⟩:=h
 have cO:=JS h1
 have h3:¬ (24:Int) < (d:Int)+1:=by omega
 have h4:decide ((24:Int) < (d:Int)+1)=false:=decide_eq_false h3
 have h5:(d:Int)+1≤9223372036854775807:=by omega
 clear h1 h2
 go_enter Tryz.func89,Tryz.ntmps89
 go_wp2_with fail
 refine cO.mono ?_
 rintro e w1 ⟨rfl,rfl⟩
 go_wp2_with fail
 go_ret
 exact⟨rfl,rfl⟩
theorem KH {w:yW}{b:Nat}{K:PK}{t:Tk}{ts:List Tk}(h:Lv w b K (t :: ts)) (d:Nat) (hd:¬ d < 24) (hm:d≤1000) :
  Calls zG 89 #[zP b,zI d] w fun e w'=>e=.returned (.bool false)∧Dd w' b K (.tok 132 t.p)∧Mv w w' (fun k=>k=b):=by
 have cW:=J4 h 132 (by decide)
 have h3:(24:Int) < (d:Int)+1:=by omega
 have h4:decide ((24:Int) < (d:Int)+1)=true:=decide_eq_true h3
 have h5:(d:Int)+1≤9223372036854775807:=by omega
 clear h
 go_enter Tryz.func89,Tryz.ntmps89
 go_wp2_with fail
 refine cW.mono ?_
 rintro e w1 ⟨rfl,hd,hm⟩
 have HD:=hd.hid
 have HM:Hid (Mv w w1 (fun k=>k=b)):=hm
 obtain⟨i,h6,h7⟩:=hd
 have cO:=over_yes h6 h7
 clear cW hm h6 h7
 go_wp2_with fail
 refine cO.mono ?_
 rintro e w2 ⟨rfl,rfl⟩
 go_wp2_with fail
 go_ret
 exact⟨rfl,HD.out,HM.out⟩
end Go.Proofs.YtoogodlnnijikaaGreatDoor
