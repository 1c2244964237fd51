import Derived.Test.YtfbjofnaghjmeaaGreatDoorA0
import Derived.Test.YtfbjofnaghjmeaaGreatDoorA7
import Derived.Test.YtfbjofnaghjmeaaGreatDoorA2
import Derived.Test.YtfbjofnaghjmeaaGreatDoorA1
import Derived.Below
import Derived.BigQuiet
import Derived.Deep.QuietTactic
import Derived.Laws.Rows
import Derived.Outline
import Derived.ProofKit
import Derived.WalkKit
namespace Go.Proofs.YtfbjofnaghjmeaaGreatDoor
set_option maxHeartbeats 4000000
set_option maxRecDepth 100000
open Go.RowKit
theorem put3 {w:yW}{b:Nat}{a0 a1 a2 a3 a4 a5 a6:Value}(h:w.heap[b]? = (zC #[a0,a1,a2,a3,a4,a5,a6] 168)) (v4 v5 v6:Value):(((w.setCell b¢4 v4).setCell b¢5 v5).setCell b¢6 v6).heap[b]? = (zC #[a0,a1,a2,a3,v4,v5,v6] 168):=by
 have h1:(w.setCell b¢4 v4).heap[b]? = (zC #[a0,a1,a2,a3,v4,a5,a6] 168):=heap_set v4 h
 have h2:((w.setCell b¢4 v4).setCell b¢5 v5).heap[b]? = (zC #[a0,a1,a2,a3,v4,v5,a6] 168):=heap_set v5 h1
 exact heap_set v6 h2
theorem oth3 (w:yW) {b c:Nat}(h:c≠b) (v4 v5 v6:Value):(((w.setCell b¢4 v4).setCell b¢5 v5).setCell b¢6 v6).heap[c]? = w.heap[c]?:=by
 iterate 3 (refine (Below.heap_setCell _ _ _ _ (show c≠b from h)).trans ?_)
 rfl
theorem mv3 {w0 w:yW}{b:Nat}(m:Mv w0 w (fun k=>k=b)) (v4 v5 v6:Value):Mv w0 (((w.setCell b¢4 v4).setCell b¢5 v5).setCell b¢6 v6) (fun k=>k=b) :=
 ((m.setCell (a:=b¢4) (.inl rfl) v4).setCell (a:=b¢5) (.inl rfl) v5).setCell (a:=b¢6) (.inl rfl) v6
theorem wrong_tok {w:yW}{b:Nat}{K:PK}{i:Nat}{p:Int}{t:Bool}{tk:Tk}(h:Pr w b K i 0 p t) (hg:K.T[i]? = some tk) (no:Int) :
  Calls zG 142 #[zP b,zI no] w fun e w'=>e=.returned (.tuple #[])∧Pr w' b K i no tk.p false∧Mv w w' (fun k=>k=b):=by
 have cO:=over_no h
 obtain⟨hi,etk⟩:=List.getElem?_eq_some_iff.1 hg
 clear hg
 obtain⟨G,o,ea,hn,ht⟩:=h.r i hi
 rw [etk] at ht
 have HP:=h.hid
 have HTK:Hid (TkC w G (o+i * 5) tk):=ht
 have c0:w.cell? b¢0=some (.slice K.a K.T.length K.c):=cell_of h.h 0
 have c3:w.cell? b¢3=some (zI i):=cell_of h.h 3
 have hd:¬ (K.T.length:Int)≤(i:Int):=by omega
 have hd':decide ((K.T.length:Int)≤(i:Int))=false:=decide_eq_false hd
 clear h ht etk
 go_enter Tryz.func142,Tryz.ntmps142
 go_wp2_with fail
 refine cO.mono ?_
 rintro e w1 ⟨rfl,rfl⟩
 clear cO
 go_upto_region 1 with fail
 go_quiet (fail)
 obtain⟨V,eV⟩:∃ V,w1.drewN nq=V:=⟨_,rfl⟩
 have HPV:=(HP.out.blk (w':=V) (fun _ _=>by rw [← eV]; rfl)).hid
 have HMV:Hid (Mv w1 V (fun k=>k=b)):=by rw [← eV]; exact⟨rfl,rfl,rfl,Nat.le_refl _,fun _ _ _=>rfl⟩
 have HTV:Hid (TkC V G (o+i * 5) tk):=HTK.out.blk (by rw [← eV]; rfl)
 rw [eV]
 clear eV c0 c3 HP HTK
 have c0:V.cell? b¢0=some (.slice (some G¢o) K.T.length K.c):=by rw [← ea]; exact cell_of HPV.out.h 0
 have c3:V.cell? b¢3=some (zI i):=cell_of HPV.out.h 3
 have y4:=HTV.out.c4
 have hi':(i:Int) < (K.T.length:Int):=by omega
 have HEA:Hid (K.a=some G¢o):=ea
 clear ea
 go_upto_region 3 with fail
 refine wp_region_held_drew (S:=fun v=>v.cell? b¢0=some (.slice (some G¢o) K.T.length K.c)∧v.cell? b¢3=some (zI i)∧v.cell? ⟨G,o+i * 5+4,none⟩=some (zI tk.p)) zK ⟨c0,c3,y4⟩ (fun hHeld=>?_)
 refine wpAnyH_take (i:=0) (v:=?_) rfl zK zK zK (fun _ _ _ h=>h) (Or.inl ⟨by rfl,?_⟩) (by assumption) ?_
 rotate_left
 ·(intro v hv; obtain⟨t0,t3,t4⟩:=hv; go_simp; try (with_reducible rfl))
 try simp [Act.put]
 refine wpAnyH_take (i:=1) (v:=?_) rfl zK zK zK (fun _ _ _ h=>h) (Or.inl ⟨by rfl,?_⟩) (by assumption) ?_
 rotate_left
 ·(intro v hv; obtain⟨t0,t3,t4⟩:=hv; go_simp; try (with_reducible rfl))
 try simp [Act.put]
 refine wpAnyH_take (i:=2) (v:=?_) rfl zK zK zK (fun _ _ _ h=>h) (Or.inl ⟨by rfl,?_⟩) (by assumption) ?_
 rotate_left
 ·(intro v hv; obtain⟨t0,t3,t4⟩:=hv; go_simp; try (with_reducible rfl))
 try simp [Act.put]
 refine wpAnyH_take (i:=3) (v:=?_) rfl zK zK zK (fun _ _ _ h=>h) (Or.inl ⟨by rfl,?_⟩) (by assumption) ?_
 rotate_left
 ·(intro v hv; obtain⟨t0,t3,t4⟩:=hv; go_simp; try (with_reducible rfl))
 try simp [Act.put]
 refine wpAnyH_take (i:=4) (v:=?_) rfl zK zK zK (fun _ _ _ h=>h) (Or.inl ⟨by rfl,?_⟩) (by assumption) ?_
 rotate_left
 ·(intro v hv; obtain⟨t0,t3,t4⟩:=hv; go_simp; try (with_reducible rfl))
 try simp [Act.put]
 refine wpAnyH_take (i:=5) (v:=?_) rfl zK zK zK (fun _ _ _ h=>h) (Or.inl ⟨by rfl,?_⟩) (by assumption) ?_
 rotate_left
 ·(intro v hv; obtain⟨t0,t3,t4⟩:=hv; go_simp; try (with_reducible rfl))
 try simp [Act.put]
 refine wpAnyH_take (i:=6) (v:=?_) rfl zK zK zK (fun _ _ _ h=>h) (Or.inl ⟨by rfl,?_⟩) (by assumption) ?_
 rotate_left
 ·(intro v hv; obtain⟨t0,t3,t4⟩:=hv; go_simp; try (with_reducible rfl))
 try simp [Act.put]
 refine wpAnyH_take (i:=7) (v:=?_) rfl zK zK zK (fun _ _ _ h=>h) (Or.inl ⟨by rfl,?_⟩) (by assumption) ?_
 rotate_left
 ·(intro v hv; obtain⟨t0,t3,t4⟩:=hv; go_simp; try (with_reducible rfl))
 try simp [Act.put]
 refine wpAnyH_take (i:=8) (v:=?_) rfl zK zK zK (fun _ _ _ h=>h) (Or.inl ⟨by rfl,?_⟩) (by assumption) ?_
 rotate_left
 ·(intro v hv; obtain⟨t0,t3,t4⟩:=hv; go_simp; try (with_reducible rfl))
 try simp [Act.put]
 refine wpAnyH_take (i:=9) (v:=?_) rfl zK zK zK (fun _ _ _ h=>h) (Or.inl ⟨by rfl,?_⟩) (by assumption) ?_
 rotate_left
 ·(intro v hv; obtain⟨t0,t3,t4⟩:=hv; go_simp; try (with_reducible rfl))
 try simp [Act.put]
 refine wpAnyH_take (i:=10) (v:=?_) rfl zK zK zK (fun _ _ _ h=>h) (Or.inl ⟨by rfl,?_⟩) (by assumption) ?_
 rotate_left
 ·(intro v hv; obtain⟨t0,t3,t4⟩:=hv; go_simp; try (with_reducible rfl))
 try simp [Act.put]
 refine wpAnyH_take (i:=11) (v:=?_) rfl zK zK zK (fun _ _ _ h=>h) (Or.inl ⟨by rfl,?_⟩) (by assumption) ?_
 rotate_left
 ·(intro v hv; obtain⟨t0,t3,t4⟩:=hv; go_simp; try (with_reducible rfl))
 try simp [Act.put]
 refine wpAnyH_take (i:=12) (v:=?_) rfl zK zK zK (fun _ _ _ h=>h) (Or.inl ⟨by rfl,?_⟩) (by assumption) ?_
 rotate_left
 ·(intro v hv; obtain⟨t0,t3,t4⟩:=hv; go_simp; try (with_reducible rfl))
 try simp [Act.put]
 refine wpAnyH_take (i:=13) (v:=?_) rfl zK zK zK (fun _ _ _ h=>h) (Or.inl ⟨by rfl,?_⟩) (by assumption) ?_
 rotate_left
 ·(intro v hv; obtain⟨t0,t3,t4⟩:=hv; go_simp; try (with_reducible rfl))
 try simp [Act.put]
 refine wpAnyH_take (i:=14) (v:=?_) rfl zK zK zK (fun _ _ _ h=>h) (Or.inl ⟨by rfl,?_⟩) (by assumption) ?_
 rotate_left
 ·(intro v hv; obtain⟨t0,t3,t4⟩:=hv; go_simp; try (with_reducible rfl))
 try simp [Act.put]
 refine wpAnyH_take (i:=15) (v:=?_) rfl zK zK zK (fun _ _ _ h=>h) (Or.inl ⟨by rfl,?_⟩) (by assumption) ?_
 rotate_left
 ·(intro v hv; obtain⟨t0,t3,t4⟩:=hv; go_simp; try (with_reducible rfl))
 try simp [Act.put]
 obtain⟨U,eU⟩:∃ U,V.drew=U:=⟨_,rfl⟩
 have HPU:=(HPV.out.blk (w':=U) (fun _ _=>by rw [← eU]; rfl)).hid
 have HMU:Hid (Mv w1 U (fun k=>k=b)):=by rw [← eU]; exact HMV.out.drew
 have HTU:Hid (TkC U G (o+i * 5) tk):=HTV.out.blk (by rw [← eU]; rfl)
 rw [eU] at hHeld ⊢
 clear eU c0 c3 y4
 have z4:U.cell? b¢4=some (zI 0):=cell_of HPU.out.h 4
 have q4:U.frozen? b¢4=false:=frozen_of HPU.out.h 4
 have z5:U.cell? b¢5=some (zI p):=cell_of HPU.out.h 5
 have q5:U.frozen? b¢5=false:=frozen_of HPU.out.h 5
 have z6:U.cell? b¢6=some (.bool t):=cell_of HPU.out.h 6
 have q6:U.frozen? b¢6=false:=frozen_of HPU.out.h 6
 refine wpAnyH_ready (rs:=[16]) zK (by simp) ?_
 refine AllReadyH.cons rfl (fun K' hK=>?_) AllReadyH.nil
 go_simp
 have hfin:=put3 HPU.out.h (zI no) (zI tk.p) (.bool false)
 have HF:Hid (Pr (((U.setCell b¢4 (zI no)).setCell b¢5 (zI tk.p)).setCell b¢6 (.bool false)) b K i no tk.p false):=HPU.out.new (fun c hc _=>oth3 _ hc _ _ _) HPU.out.l (fun hl=>absurd (HPU.out.z hl).1 (by decide)) hfin
 refine hK.out _ _ ⟨by rw [← HEA.out]; exact cell_of hfin 0,cell_of hfin 3,(HTU.out.blk (oth3 _ hn _ _ _)).c4⟩ (fun hHeld7=>?_)
 clear hK K' hfin
 refine wpAnyH_done zK ?_ _
 go_wp2_with fail
 go_end0
 exact⟨rfl,HF.out,mv3 HMU.out _ _ _⟩
theorem wrong_live {w:yW}{b:Nat}{K:PK}{t:Tk}{ts:List Tk}(h:Lv w b K (t :: ts)) (no:Int) (hn:no≠0) :
  Calls zG 142 #[zP b,zI no] w fun e w'=>e=.returned (.tuple #[])∧Dd w' b K (.tok no t.p)∧Mv w w' (fun k=>k=b):=by
 obtain⟨i,p,u,h1,h2⟩:=h
 have hg:K.T[i]? = some t:=by
  have:=congrArg (fun l=>l[0]?) h2
  simp at this
  exact this.symm
 refine (wrong_tok h1 hg no).mono ?_
 rintro e w' ⟨rfl,hp,hm⟩
 exact⟨rfl,⟨i,hp,hn⟩,hm⟩
theorem live_now {w:yW}{b:Nat}{K:PK}{t:Tk}{ts:List Tk}(h:Lv w b K (t :: ts)) :
  Calls zG 173 #[zP b] w fun e w'=>e=.returned (.agg (tkA t))∧yD w w':=by
 obtain⟨i,p,u,h1,h2⟩:=h
 have hg:K.T[i]? = some t:=by
  have:=congrArg (fun l=>l[0]?) h2
  simp at this
  exact this.symm
 exact now_live h1 hg
theorem is_live {w:yW}{b:Nat}{K:PK}{t:Tk}{ts:List Tk}(h:Lv w b K (t :: ts)) (x:yB) (hx:t.x=x→t.k=1∨t.k=4) :
  Calls zG 137 #[zP b,.string x] w fun e w'=>e=.returned (.bool (decide (t.x=x)))∧yD w w':=by
 have cN:=live_now h
 clear h
 unfold tkA at cN
 by_cases e:t.x=x
 ·rw [decide_eq_true e]
  rcases hx e with hk | hk
  ·subst e
   rw [hk] at cN
   clear hx hk
   go_enter Tryz.func137,Tryz.ntmps137
   go_wp2_with fail
   refine cN.mono ?_
   rintro e w1 ⟨rfl,hb⟩
   have HB:Hid (yD w w1):=hb
   clear cN hb
   go_wp2_with fail
   go_ret
   exact⟨rfl,below2 HB.out (below_new _ _)⟩
  ·subst e
   rw [hk] at cN
   clear hx hk
   go_enter Tryz.func137,Tryz.ntmps137
   go_wp2_with fail
   refine cN.mono ?_
   rintro e w1 ⟨rfl,hb⟩
   have HB:Hid (yD w w1):=hb
   clear cN hb
   go_wp2_with fail
   go_ret
   exact⟨rfl,below2 HB.out (below_new _ _)⟩
 ·have hs:=str_ne e
  rw [decide_eq_false e]
  clear hx e
  go_enter Tryz.func137,Tryz.ntmps137
  go_wp2_with fail
  refine cN.mono ?_
  rintro e w1 ⟨rfl,hb⟩
  have HB:Hid (yD w w1):=hb
  clear cN hb
  go_wp2_with fail
  go_ret
  exact⟨rfl,below2 HB.out (below_new _ _)⟩
def fnd (y:yB):List yB→Nat→Int
 | [],_=>-1
 | x :: xs,i=>if y=x then (i:Int) else fnd y xs (i+1)
theorem fnd_none (y:yB):∀ (L:List yB) (k:Nat),(∀ j (h:j < L.length),y≠L[j])→fnd y L k = -1:=by
 intro L
 induction L with
 | nil=>intro k _; rfl
 | cons x xs ih =>
  intro k h
  have h0:=h 0 (by simp)
  simp only [List.getElem_cons_zero] at h0
  rw [fnd,if_neg h0]
  exact ih (k+1) (fun j hj=>by have:=h (j+1) (by simpa using hj); simpa using this)
theorem fnd_at (y:yB):∀ (L:List yB) (k i:Nat) (hi:i < L.length),(∀ j (h:j < L.length),j < i→y≠L[j])→y=L[i]→fnd y L k=((k+i:Nat):Int):=by
 intro L
 induction L with
 | nil=>intro k i hi; simp at hi
 | cons x xs ih =>
  intro k i hi h he
  cases i with
  | zero =>
   simp only [List.getElem_cons_zero] at he
   rw [fnd,if_pos he]
   simp
  | succ i =>
   have h0:=h 0 (by simp) (by omega)
   simp only [List.getElem_cons_zero] at h0
   rw [fnd,if_neg h0,ih (k+1) i (by simpa using hi) (fun j hj hji=>by have:=h (j+1) (by simpa using hj) (by omega); simpa using this) (by simpa using he)]
   congr 1
   omega
def SLs (w:yW) (A:Nat) (L:List yB):Prop:=∀ j (hj:j < L.length),w.cell? A¢j=some (.string L[j])
theorem SLs.on {w w':yW}{A:Nat}{L:List yB}(h:SLs w A L) (k:yD w w'):SLs w' A L:=fun j hj =>
 (World.cell?_of_block (k.block A (World.block_lt_of_cell? w _ (h j hj)))).trans (h j hj)
theorem any_live {w:yW}{b:Nat}{K:PK}{t0:Tk}{ts:List Tk}(h:Lv w b K (t0 :: ts)) {A:Nat}{L:List yB}{c:Nat}(hL:SLs w A L) (hn:L.length≤1000) (hx:∀ x ∈ L,t0.x=x→t0.k=1∨t0.k=4) :
  Calls zG 174 #[zP b,.slice (some A¢0) L.length c] w fun e w'=>e=.returned (zI (fnd t0.x L 0))∧yD w w':=by
 have HH:=h.hid
 have HL:Hid (SLs w A L):=hL
 have HX:=hx
 clear h hL hx
 go_enter Tryz.func174,Tryz.ntmps174
 go_wp2_with fail
 go_loopw [5,6] (fun t _ wr=>∃ i:Nat,i≤L.length∧t=zI i∧Hid (yD w wr)∧Hid (∀ j (h:j < L.length),j < i→t0.x≠L[j])) (fun t _ _=>L.length - (intOf t).toNat)
 case atStart=>exact⟨0,by omega,rfl,Below.refl _ _,fun j _ hj=>by omega⟩
 case round =>
  obtain⟨i,hi,rfl,HR,HJ⟩:=hrel
  by_cases hlt:i < L.length
  ·have hlt':(i:Int) < (L.length:Int):=by omega
   have cs:=(HL.out.on HR.out) i hlt
   have cI:=is_live (HH.out.on HR.out) L[i] (HX L[i] (List.getElem_mem hlt))
   have hmx:(i:Int)+1≤9223372036854775807:=by omega
   obtain⟨x,ex⟩:∃ x,L[i]=x:=⟨_,rfl⟩
   have HEX:Hid (L[i]=x):=ex
   rw [ex] at cs cI
   clear ex
   by_cases he:t0.x=x
   ·rw [decide_eq_true he] at cI
    have HE:Hid (t0.x=x):=he
    clear he
    go_wp2_with fail
    refine cI.mono ?_
    rintro e w1 ⟨rfl,hb⟩
    have HB1:Hid (yD w w1):=below2 HR.out hb
    clear cI hb cs
    go_wp2_with fail
    go_ret
    exact⟨by show Ending.returned (zI (i:Int))=_; rw [fnd_at t0.x L 0 i hlt HJ.out (by rw [HEX.out,HE.out])]; simp,HB1.out⟩
   ·rw [decide_eq_false he] at cI
    have HE:Hid (¬ t0.x=x):=he
    clear he
    go_wp2_with fail
    refine cI.mono ?_
    rintro e w1 ⟨rfl,hb⟩
    have HB1:Hid (yD w w1):=below2 HR.out hb
    clear cI hb cs
    go_wp2_with fail
    exact⟨⟨i+1,hlt,rfl,HB1,fun j hj hji=>by
     by_cases e:j=i
     ·subst e; rw [HEX.out]; exact HE.out
     ·exact HJ.out j hj (by omega)⟩,by simp only [intOf]; omega⟩
  ·obtain rfl:i=L.length:=by omega
   have hnot:¬ (L.length:Int) < (L.length:Int):=by omega
   go_wp2_with fail
   go_ret
   exact⟨by show Ending.returned (zI (-1))=_; rw [fnd_none t0.x L 0 (fun j hj=>HJ.out j hj hj)],HR.out⟩
theorem Lv.at' {w:yW}{b:Nat}{K:PK}{t:Tk}{ts:List Tk}(h:Lv w b K (t :: ts)):∃ i:Nat,w.cell? b¢3=some (zI i)∧w.frozen? b¢3=false∧(i:Int)+1≤9223372036854775807 ∧
  Lv (w.setCell b¢3 (zI ((i:Int)+1))) b K ts∧Mv w (w.setCell b¢3 (zI ((i:Int)+1))) (fun k=>k=b)∧(∀ k,k≠b→(w.setCell b¢3 (zI ((i:Int)+1))).heap[k]? = w.heap[k]?)∧(w.setCell b¢3 (zI ((i:Int)+1)))§=w§:=by
 obtain⟨i,p,u,h1,h2⟩:=h
 have hi:i < K.T.length:=by
  have:=congrArg List.length h2
  simp at this
  omega
 have ets:ts=K.T.drop (i+1):=by
  have:=congrArg List.tail h2
  simpa using this
 have hm:=h1.m
 have hb:(w.setCell b¢3 (zI ((i:Int)+1))).heap[b]? = (zC #[.slice K.a K.T.length K.c,zI K.be,zI K.ba,zI ((i:Int)+1),zI 0,zI p,.bool u] 168):=heap_set _ h1.h
 refine⟨i,cell_of h1.h 3,frozen_of h1.h 3,by omega,⟨i+1,p,u,?_,ets⟩,Mv.setCell (F:=fun k=>k=b) (a:=b¢3) (Mv.refl _ _) (.inl rfl) _,fun k hk=>Below.heap_setCell _ _ _ _ hk,by simp [World.setCell]⟩
 exact h1.new (fun c hc _=>Below.heap_setCell _ _ _ _ hc) hi h1.z (by rw [hb]; simp)
theorem take_live {w:yW}{b:Nat}{K:PK}{t:Tk}{ts:List Tk}(h:Lv w b K (t :: ts)) (x:yB) (hx:t.x=x→t.k=1∨t.k=4) :
  Calls zG 135 #[zP b,.string x] w fun e w'=>(∃ p,e=.returned (zI p)∧(t.x=x→p=t.p))∧(if t.x=x then Lv w' b K ts else Dd w' b K (.tok 130 t.p))∧Mv w w' (fun k=>k=b):=by
 have cI:=is_live h x hx
 have HH:=h.hid
 clear h hx
 by_cases e:t.x=x
 ·rw [decide_eq_true e] at cI
  simp only [e,if_true]
  clear e
  go_enter Tryz.func135,Tryz.ntmps135
  go_wp2_with fail
  refine cI.mono ?_
  rintro e w1 ⟨rfl,hb⟩
  have HB1:Hid (yD w w1):=hb
  have cN:=live_now (HH.out.on hb)
  have hf:=fun v=>field82_4 t v
  clear cI hb
  go_wp2_with fail
  refine cN.mono ?_
  rintro e w2 ⟨rfl,hb⟩
  have HB2:Hid (yD w w2):=below2 HB1.out hb
  obtain⟨i,c3,f3,hmx,hL,hM,_,_⟩:=(HH.out.on HB2.out).at'
  have HL:=hL.hid
  have HM:Hid (Mv w2 _ (fun k=>k=b)):=hM
  clear cN hb hL hM
  go_wp2_with fail
  go_ret
  exact⟨⟨t.p,rfl,fun _=>rfl⟩,HL.out,(Mv.ofBelow HB2.out).trans HM.out (fun k e=>.inl e)⟩
 ·rw [decide_eq_false e] at cI
  simp only [e,if_false,false_implies]
  clear e
  go_enter Tryz.func135,Tryz.ntmps135
  go_wp2_with fail
  refine cI.mono ?_
  rintro e w1 ⟨rfl,hb⟩
  have HB1:Hid (yD w w1):=hb
  have cN:=wrong_live (HH.out.on hb) 130 (by decide)
  clear cI hb
  go_wp2_with fail
  refine cN.mono ?_
  rintro e w2 ⟨rfl,hd,hm⟩
  have HD:=hd.hid
  have HM:Hid (Mv w1 w2 (fun k=>k=b)):=hm
  clear cN hd hm
  go_wp2_with fail
  go_ret
  exact⟨⟨0,rfl,trivial⟩,HD.out,(Mv.ofBelow HB1.out).trans HM.out (fun k e=>.inl e)⟩
theorem deeper_ok {w:yW}{b:Nat}{K:PK}{t:Tk}{ts:List Tk}(h:Lv w b K (t :: ts)) (d:Nat) (hd:d < 24) :
  Calls zG 219 #[zP b,zI d] w fun e w'=>e=.returned (.bool true)∧w'=w:=by
 obtain⟨i,p,u,h1,h2⟩:=h
 have cO:=over_no h1
 have h3:¬ (24:Int) < (d:Int)+1:=by omega
 have h4:decide ((24:Int) < (d:Int)+1)=false:=decide_eq_false h3
 have h5:(d:Int)+1≤9223372036854775807:=by omega
 clear h1 h2
 go_enter Tryz.func219,Tryz.ntmps219
 go_wp2_with fail
 refine cO.mono ?_
 rintro e w1 ⟨rfl,rfl⟩
 go_wp2_with fail
 go_ret
 exact⟨rfl,rfl⟩
set_option linter.unusedVariables false
def Lw (B b:Nat) (K:PK):Prop:=b < B∧∀ j,j < K.T.length→∀ G o,K.a=some G¢o→G < B
theorem Pr.lw {w:yW}{b:Nat}{K:PK}{i:Nat}{e p:Int}{t:Bool}(h:Pr w b K i e p t):Lw w§ b K:=⟨h.lt,fun j hj G o e=>by
 obtain⟨G',o',e',hn,ht⟩:=h.r j hj
 rw [e] at e'
 cases e'
 exact ht.lt⟩
theorem Pr.off {w w':yW}{b:Nat}{K:PK}{i:Nat}{e p:Int}{t:Bool}(h:Pr w b K i e p t) {B:Nat}(hB:Lw B b K) (o:∀ k,k < B→w'.heap[k]? = w.heap[k]?):Pr w' b K i e p t :=
 ⟨(o b hB.1).trans h.h,h.l,h.m,h.z,fun j hj=>by
  obtain⟨G,o',ea,hn,ht⟩:=h.r j hj
  exact⟨G,o',ea,hn,ht.blk (o G (hB.2 j hj G o' ea))⟩⟩
theorem Lv.lw {w:yW}{b:Nat}{K:PK}{ts:List Tk}(h:Lv w b K ts):Lw w§ b K:=by
 obtain⟨i,p,t,h1,h2⟩:=h
 exact h1.lw
theorem Lv.off {w w':yW}{b:Nat}{K:PK}{ts:List Tk}(h:Lv w b K ts) {B:Nat}(hB:Lw B b K) (o:∀ k,k < B→w'.heap[k]? = w.heap[k]?):Lv w' b K ts:=by
 obtain⟨i,p,t,h1,h2⟩:=h
 exact⟨i,p,t,h1.off hB o,h2⟩
theorem Lw.mono {B B' b:Nat}{K:PK}(h:Lw B b K) (k:B≤B'):Lw B' b K:=⟨Nat.lt_of_lt_of_le h.1 k,fun j hj G o e=>Nat.lt_of_lt_of_le (h.2 j hj G o e) k⟩
structure TkOk (t:Tk):Prop where
 r:RgT t
structure KOk (K:PK):Prop where
 t:∀ t ∈ K.T,TkOk t
 n:K.T.length≤4097
theorem Lv.mem {w:yW}{b:Nat}{K:PK}{ts:List Tk}(h:Lv w b K ts):∀ t ∈ ts,t ∈ K.T:=by
 obtain⟨i,p,u,h1,rfl⟩:=h
 exact fun t ht=>List.mem_of_mem_drop ht
theorem Lv.len {w:yW}{b:Nat}{K:PK}{ts:List Tk}(h:Lv w b K ts):ts.length≤K.T.length:=by
 obtain⟨i,p,u,h1,rfl⟩:=h
 simp
theorem Lv.ok {w:yW}{b:Nat}{K:PK}{t:Tk}{ts:List Tk}(h:Lv w b K (t :: ts)) (hK:KOk K):TkOk t:=hK.t t (h.mem t (by simp))
def Gd (t:Tk):Prop:=Good t∨(t.k=0∧t.x=⟨#[]⟩∧t.ty=0∧t.n=0)
theorem one_gd {s:yB}{f:Nat}(hf:f≤s.size) (h:oneE s f=0):Gd (oneT s f):=by
 by_cases hp:oneP s f=s.size
 ·rw [(oneP_end hp).2]; exact .inr ⟨rfl,rfl,rfl,rfl⟩
 ·exact .inl (one_good hf h hp).1
theorem beg_gd {s:yB}:∀ (d f:Nat),s.size - f≤d→f≤s.size→(∀ t ∈ (begO s f).1,Gd t)∧(begO s f).1.length≤s.size - f+1:=by
 intro d
 induction d with
 | zero =>
  intro f h1 h2
  by_cases h:oneE s f=0
  ·by_cases hk:(oneT s f).k=0
   ·rw [beg_end h hk]
    refine⟨fun t ht=>?_,by simp⟩
    obtain rfl:=List.mem_singleton.1 ht
    exact one_gd h2 h
   ·obtain⟨a1,a2,_,_⟩:=beg_more h2 h hk
    omega
  ·rw [beg_bad h]
   exact⟨fun t ht=>by simp at ht,by simp⟩
 | succ d ih =>
  intro f h1 h2
  by_cases h:oneE s f=0
  ·by_cases hk:(oneT s f).k=0
   ·rw [beg_end h hk]
    refine⟨fun t ht=>?_,by simp⟩
    obtain rfl:=List.mem_singleton.1 ht
    exact one_gd h2 h
   ·obtain⟨a1,a2,_,a4⟩:=beg_more h2 h hk
    rw [a4]
    obtain⟨b1,b2⟩:=ih _ (by omega) a2
    refine⟨fun t ht=>?_,by simp only [List.length_cons]; omega⟩
    rcases List.mem_cons.1 ht with rfl | ht
    ·exact one_gd h2 h
    ·exact b1 t ht
  ·rw [beg_bad h]
   exact⟨fun t ht=>by simp at ht,by simp⟩
theorem rdT_beg {s:yB}(hs:s.size≤4096):rdT s=(begO s 0).1:=by
 have h1:tksE s=(begO s 0).2.1:=if_neg (by omega)
 unfold rdT
 by_cases h:tksE s=0
 ·rw [if_pos h]
  unfold tksL
  rw [if_pos h]
 ·rw [if_neg h]
  unfold allL allF
  rw [if_neg (by omega),if_neg (by rw [← h1]; exact h)]
theorem rdT_long {s:yB}(hs:s.size > 4096):rdT s = []∧tksE s=110∧tksB s=0:=by
 obtain⟨h1,_,h3⟩:=tks_long hs
 refine⟨?_,h1,?_⟩
 ·unfold rdT
  rw [if_neg (by rw [h1]; decide)]
  unfold allL
  rw [if_pos hs]
 ·unfold tksB
  rw [if_neg (by rw [h1]; decide),if_pos hs]
theorem rdT_gd (s:yB):∀ t ∈ rdT s,Gd t:=by
 by_cases hs:s.size≤4096
 ·rw [rdT_beg hs]
  exact (beg_gd s.size 0 (by omega) (by omega)).1
 ·rw [(rdT_long (by omega)).1]
  exact fun t ht=>by simp at ht
theorem rdT_len (s:yB):(rdT s).length≤4097:=by
 by_cases hs:s.size≤4096
 ·rw [rdT_beg hs]
  have:=(beg_gd (s:=s) s.size 0 (by omega) (by omega)).2
  omega
 ·rw [(rdT_long (by omega)).1]
  simp
section
variable {e : Tk} (hk : e.k = 0) (hx : e.x = ⟨#[]⟩) (hy : e.ty = 0)
include hx in
include hx in
include hx in
include hx in
include hx in
include hx in
include hx in
include hx in
include hk hx hy in
include hk hx hy in
include hk hx hy in
include hk hx hy in
include hk hx hy in
include hk hx hy in
end
structure KG (K:PK):Prop where
 k:KOk K
 g:∀ t ∈ K.T,Gd t
theorem kw_gd {t:Tk}(h:Gd t) {x:yB}(hx:(lx x.data.toList).map (·.1)=some 1∨(lx x.data.toList).map (·.1)=some 4):t.x=x→t.k=1∨t.k=4:=by
 rintro rfl
 rcases h with h | ⟨_,h2,_⟩
 ·rw [h.lk] at hx
  simp only [Option.map_some,Option.some.injEq] at hx
  exact hx
 ·exfalso
  rw [h2] at hx
  rcases hx with hx | hx <;> exact absurd hx (by decide +kernel)
theorem Lv.gd {w:yW}{b:Nat}{K:PK}{t:Tk}{ts:List Tk}(h:Lv w b K (t :: ts)) (hK:KG K):Gd t:=hK.g t (h.mem t (by simp))
theorem rf_letter_any (c:UInt8) (w:yW):Calls zG 123 #[zU (c.toNat:Int)] w fun e w'=>e=.returned (.bool (letB c))∧w'=w:=by
 go_enter Tryz.func123,Tryz.ntmps123
 go_wp2
 all_goals go_ret
 all_goals refine⟨retB ?_,rfl⟩
 all_goals unfold letB
 ·have h:97≤c.toNat:=by omega
  by_cases h2:c.toNat≤122
  ·rw [decide_eq_true (show (c.toNat:Int)≤122 by omega),decide_eq_true ⟨h,h2⟩]
  ·rw [decide_eq_false (show ¬ (c.toNat:Int)≤122 by omega),decide_eq_false (fun k=>h2 k.2)]
 ·rw [decide_eq_false (by omega)]
theorem rf_digit_any (c:UInt8) (w:yW):Calls zG 169 #[zU (c.toNat:Int)] w fun e w'=>e=.returned (.bool (digB c))∧w'=w:=by
 go_enter Tryz.func169,Tryz.ntmps169
 go_wp2
 all_goals go_ret
 all_goals refine⟨retB ?_,rfl⟩
 all_goals unfold digB
 ·have h:48≤c.toNat:=by omega
  by_cases h2:c.toNat≤57
  ·rw [decide_eq_true (show (c.toNat:Int)≤57 by omega),decide_eq_true ⟨h,h2⟩]
  ·rw [decide_eq_false (show ¬ (c.toNat:Int)≤57 by omega),decide_eq_false (fun k=>h2 k.2)]
 ·rw [decide_eq_false (by omega)]
theorem rf_letter_b {c:UInt8}{b:Bool}(h:letB c=b) (w:yW):Calls zG 123 #[zU (c.toNat:Int)] w fun e w'=>e=.returned (.bool b)∧w'=w:=h ▸ rf_letter_any c w
theorem rf_digit_b {c:UInt8}{b:Bool}(h:digB c=b) (w:yW):Calls zG 169 #[zU (c.toNat:Int)] w fun e w'=>e=.returned (.bool b)∧w'=w:=h ▸ rf_digit_any c w
theorem rf_goes_any (c:UInt8) (w:yW):Calls zG 124 #[zU (c.toNat:Int)] w fun e w'=>e=.returned (.bool (goB c))∧w'=w:=by
 cases b1:letB c
 ·cases b2:digB c
  ·have hg:goB c=((c.toNat:Int) == 95):=by
    unfold goB
    rw [b1,b2]
    by_cases h:c.toNat=95
    ·rw [h]; rfl
    ·have h':((c.toNat:Int) == 95)=false:=beq_false_of_ne (by omega)
     rw [h']; simp [h]
   go_enter Tryz.func124,Tryz.ntmps124
   go_wp2_with (first | (go_at_call 123; refine (rf_letter_b b1 _).mono ?_; rintro _ v ⟨rfl,e⟩; obtain rfl:=e.symm) | (go_at_call 169; refine (rf_digit_b b2 _).mono ?_; rintro _ v ⟨rfl,e⟩; obtain rfl:=e.symm))
   all_goals go_ret
   all_goals exact⟨by rw [hg]; rfl,rfl⟩
  ·have hg:goB c=true:=by unfold goB; rw [b1,b2]; rfl
   go_enter Tryz.func124,Tryz.ntmps124
   go_wp2_with (first | (go_at_call 123; refine (rf_letter_b b1 _).mono ?_; rintro _ v ⟨rfl,e⟩; obtain rfl:=e.symm) | (go_at_call 169; refine (rf_digit_b b2 _).mono ?_; rintro _ v ⟨rfl,e⟩; obtain rfl:=e.symm))
   all_goals go_ret
   all_goals exact⟨by rw [hg]; rfl,rfl⟩
 ·have hg:goB c=true:=by unfold goB; rw [b1]; rfl
  go_enter Tryz.func124,Tryz.ntmps124
  go_wp2_with (go_at_call 123; refine (rf_letter_b b1 _).mono ?_; rintro _ v ⟨rfl,e⟩; obtain rfl:=e.symm)
  all_goals go_ret
  all_goals exact⟨by rw [hg]; rfl,rfl⟩
theorem rf_goes_b {c:UInt8}{b:Bool}(h:goB c=b) (w:yW):Calls zG 124 #[zU (c.toNat:Int)] w fun e w'=>e=.returned (.bool b)∧w'=w:=h ▸ rf_goes_any c w
theorem rf_over_any (s:yB) (a:Nat) (hs:s.size≤140737488355328) (ha:a≤s.size) (d:Nat) (hd:Hid (d=a+ov (rest s a) false)) (w:yW) :
  Calls zG 199 #[.string s,zI a] w fun e w'=>e=.returned (zI d)∧w'=w:=by
 go_enter Tryz.func199,Tryz.ntmps199
 go_wp2_with fail
 go_loop [5,6] (fun r t=>∃ (i:Nat) (b:Bool),a≤i∧i≤s.size∧t=zI i∧r=.bool b∧Hid (d=i+ov (rest s i) b)) (fun _ t=>s.size - (intOf t).toNat)
 case atStart=>exact⟨a,false,Nat.le_refl _,ha,rfl,rfl,hd⟩
 case round =>
  obtain⟨i,b,hi1,hi2,rfl,rfl,HR⟩:=hrel
  clear hd
  by_cases hlt:i < s.size
  ·have hlt':(i:Int) < (s.size:Int):=by omega
   have hr:=rest_at s i hlt
   obtain⟨c,hc⟩:∃ c,s[i]=c:=⟨_,rfl⟩
   rw [hc] at hr
   have hcl:=byte_lt c
   have hq:Hid (rest s i=c :: rest s (i+1)):=hr
   clear hr
   have e10:(((c.toNat:Int) == 10)=true ↔ c.toNat=10):=by rw [beq_iff_eq]; omega
   by_cases k35:c.toNat=35
   ·have x10:((c.toNat:Int) == 10)=false:=beq_false_of_ne (by omega)
    have x35:((c.toNat:Int) == 35)=true:=by rw [k35]; rfl
    have hs2:Hid (d=(i+1)+ov (rest s (i+1)) true):=by
     show _=_
     have e:remB b c=true:=by unfold remB; rw [if_pos k35]
     rw [HR.out,hq.out,ov_go (by rw [e]; simp),e]; omega
    clear e10
    cases b <;> go_wp2 <;> exact⟨⟨i+1,true,by omega,by omega,by go_num,rfl,hs2⟩,by simp only [intOf]; omega⟩
   ·have x35:((c.toNat:Int) == 35)=false:=beq_false_of_ne (by omega)
    by_cases k10:c.toNat=10
    ·have x10:((c.toNat:Int) == 10)=true:=by rw [k10]; rfl
     have hs2:Hid (d=(i+1)+ov (rest s (i+1)) false):=by
      show _=_
      have e:remB b c=false:=by unfold remB; rw [if_neg k35,if_pos k10]
      have e2:blankB c=true:=by unfold blankB; simp [k10]
      rw [HR.out,hq.out,ov_go (by rw [e2]; simp),e]; omega
     have n10:((c.toNat:Int) != 10)=false:=by rw [k10]; rfl
     clear e10
     cases b <;> go_wp2 <;> first | exact⟨⟨i+1,false,by omega,by omega,by go_num,rfl,hs2⟩,by simp only [intOf]; omega⟩ | (exfalso; omega)
    ·have x10:((c.toNat:Int) == 10)=false:=beq_false_of_ne (by omega)
     have n10:((c.toNat:Int) != 10)=true:=by simp; omega
     have e:remB b c=b:=by unfold remB; rw [if_neg k35,if_neg k10]
     clear e10
     cases b
     ·cases hb:blankB c
      ·have n32:((c.toNat:Int) != 32)=true:=by unfold blankB at hb; simp at hb ⊢; omega
       have n9:((c.toNat:Int) != 9)=true:=by unfold blankB at hb; simp at hb ⊢; omega
       have n13:((c.toNat:Int) != 13)=true:=by unfold blankB at hb; simp at hb ⊢; omega
       have hs2:Hid (i=d):=by show _=_; rw [HR.out,hq.out,ov_stop e hb]; omega
       go_wp2
       go_ret
       exact⟨retI (by rw [hs2.out]),rfl⟩
      ·have hs2:Hid (d=(i+1)+ov (rest s (i+1)) false):=by
        show _=_
        rw [HR.out,hq.out,ov_go (by rw [hb]; simp),e]; omega
       have hor:c.toNat=32∨c.toNat=9∨c.toNat=13:=by unfold blankB at hb; simp at hb; omega
       have n32:((c.toNat:Int) != 32)=decide (c.toNat≠32):=by by_cases h:c.toNat=32 <;> simp [h]; omega
       have n9:((c.toNat:Int) != 9)=decide (c.toNat≠9):=by by_cases h:c.toNat=9 <;> simp [h]; omega
       have n13:((c.toNat:Int) != 13)=decide (c.toNat≠13):=by by_cases h:c.toNat=13 <;> simp [h]; omega
       clear hb
       rcases hor with h | h | h
       all_goals simp only [h] at n32 n9 n13
       all_goals go_wp2
       all_goals first | exact⟨⟨i+1,false,by omega,by omega,by go_num,rfl,hs2⟩,by simp only [intOf]; omega⟩ | (exfalso; omega)
     ·have hs2:Hid (d=(i+1)+ov (rest s (i+1)) true):=by
       show _=_
       rw [HR.out,hq.out,ov_go (by rw [e]; simp),e]; omega
      go_wp2
      exact⟨⟨i+1,true,by omega,by omega,by go_num,rfl,hs2⟩,by simp only [intOf]; omega⟩
  ·have hn:¬ (i:Int) < (s.size:Int):=by omega
   have hs2:Hid (s.size=d):=by show _=_; rw [HR.out,rest_end s i (by omega)]; show _=i+0; omega
   go_wp2
   go_ret
   exact⟨retI (by rw [hs2.out]),rfl⟩
theorem rf_words_any (w:yW):Calls zG 168 #[] w fun e w'=>e=.returned (.slice (some w§¢0) 41 41)∧w'=w.alloc (.cells wordsV 9):=by
 go_enter Tryz.func168,Tryz.ntmps168
 go_wp2
 go_ret
 exact⟨rfl,rfl⟩
theorem rf_word_any (s:yB) (w:yW):Calls zG 122 #[.string s] w fun e w'=>e=.returned (.bool (isW s))∧yD w w':=by
 have hc:=words_cell w
 have hB:=below_new w (.cells wordsV 9)
 go_enter Tryz.func122,Tryz.ntmps122
 go_wp2_with fail
 refine (rf_words_any _).mono ?_
 rintro _ v ⟨rfl,e⟩
 rw [← e] at hc hB
 have HC:Hid (∀ j,j < 41→v.cell? w§¢j=some (.string (wd j))):=hc
 clear hc e
 go_wp2_with fail
 go_loop [4] (fun t=>∃ i:Nat,i≤41∧t=zI i∧Hid (∀ j,j < i→¬ wd j=s)) (fun t=>41 - (intOf t).toNat)
 case atStart=>exact⟨0,by omega,rfl,fun j hj=>by omega⟩
 case round =>
  obtain⟨i,hi,rfl,HR⟩:=hrel
  by_cases hlt:i < 41
  ·have hlt':(i:Int) < 41:=by omega
   have hcell:=HC.out i hlt
   obtain⟨x,ex⟩:∃ x,wd i=x:=⟨_,rfl⟩
   rw [ex] at hcell
   by_cases he:x=s
   ·have hw:=isW_yes hlt (ex.trans he)
    subst he
    go_wp2
    go_ret
    exact⟨by first | rfl | exact retB hw.symm,hB⟩
   ·have hne:=seq_ne he
    have hn:Hid (∀ j,j < i+1→¬ wd j=s):=fun j hj=>by
     by_cases e:j=i
     ·subst e; rw [ex]; exact he
     ·exact HR.out j (by omega)
    clear he ex
    go_wp2
    exact⟨⟨i+1,by omega,by go_num,hn⟩,by simp only [intOf]; omega⟩
  ·obtain rfl:i=41:=by omega
   have hw:=isW_no HR.out
   go_wp2
   go_ret
   exact⟨by first | rfl | exact retB hw.symm,hB⟩
theorem rf_named_any (s:yB) (a:Nat) (hs:s.size≤140737488355328) (ha:a≤s.size) (w:yW) :
  Calls zG 200 #[.string s,zI a] w fun e w'=>e=.returned (.tuple #[.agg (tkA (nmT s a)),zI (nmE s a)])∧yD w w':=by
 obtain⟨d,hd⟩:∃ d,a+lead goB (rest s a)=d:=⟨_,rfl⟩
 have hd1:a≤d:=by omega
 have hd2:d≤s.size:=by have:=lead_le goB (rest s a); rw [rest_len] at this; omega
 have HT:Hid (nmT s a=if d - a > 16 then tk0 else ⟨if isW (s.extract a d)=true then 1 else 2,s.extract a d,0,0,a⟩):=by show _=_; unfold nmT; rw [hd,show lead goB (rest s a)=d - a by omega]
 have HE:Hid (nmE s a=if d - a > 16 then 112 else 0):=by show _=_; unfold nmE; rw [show lead goB (rest s a)=d - a by omega]
 have HD:Hid (d=a+lead goB (rest s a)):=hd.symm
 have H0:Hid (TkH (w.alloc (.cells (tkA tk0) 233)) w§ tk0):=heap_new w _
 have hB:=below_new w (.cells (tkA tk0) 233)
 have hz:=size_alloc w (.cells (tkA tk0) 233)
 unfold tkA tk0 at hB hz
 dsimp only at hB hz
 clear hd
 go_enter Tryz.func200,Tryz.ntmps200
 go_wp2_with fail
 obtain⟨W,eW⟩:∃ W,w.alloc (.cells zt 233)=W:=⟨_,rfl⟩
 have H1:Hid (TkH W w§ tk0):=by have:=H0.out; unfold tkA tk0 at this; dsimp only at this; rw [eW] at this; exact this
 rw [eW] at hB hz ⊢
 clear eW H0
 go_loop [6] (fun t=>∃ i:Nat,a≤i∧i≤d∧t=zI i∧Hid (d=i+lead goB (rest s i))) (fun t=>s.size - (intOf t).toNat)
 case atStart=>exact⟨a,Nat.le_refl _,hd1,rfl,HD⟩
 case round =>
  obtain⟨i,hi1,hi2,rfl,HR⟩:=hrel
  clear HD
  by_cases hlt:i < s.size
  ·have hlt':(i:Int) < (s.size:Int):=by omega
   have hr:=rest_at s i hlt
   obtain⟨c,hc⟩:∃ c,s[i]=c:=⟨_,rfl⟩
   rw [hc] at hr
   cases hg:goB c
   ·have hs2:Hid (i=d):=by show _=_; rw [HR.out,hr,lead,if_neg (by rw [hg]; decide)]; omega
    have hs3:=hs2.out
    subst hs3
    clear hr hs2 HR
    by_cases h16:i - a > 16
    ·have h16':(16:Int) < (i:Int) - (a:Int):=by omega
     have hT:=HT.out
     rw [if_pos h16] at hT
     have hE:=HE.out
     rw [if_pos h16] at hE
     obtain⟨r0,r1,r2,r3,r4⟩:=H1.out.cells
     obtain⟨f0,f1,f2,f3,f4⟩:=H1.out.froz
     have hlt4:=H1.out.lt
     have KT:Hid (nmT s a=tk0):=hT
     have KE:Hid (nmE s a=112):=hE
     clear hT hE HT HE
     go_wp2_with (go_at_call 124; refine (rf_goes_b hg _).mono ?_; rintro _ v ⟨rfl,e⟩; obtain rfl:=e.symm)
     exact bodyPost_ret (results_two (p:=4) (u:=5) (ty:=233) rfl _ _ w§ 233 (tkA tk0) (0,0) _ rfl (heap_old (H1.out.put tk0) (H1.out.put tk0).lt) Tryz.underlying233 rfl zK) rfl ⟨by rw [KT.out,KE.out]; rfl,(below_put hB (Nat.le_refl _) _ _ _ _ _).alloc (below_put hB (Nat.le_refl _) _ _ _ _ _).size _⟩
    ·have h16':¬ (16:Int) < (i:Int) - (a:Int):=by omega
     have hT:=HT.out
     rw [if_neg h16] at hT
     have hE:=HE.out
     rw [if_neg h16] at hE
     obtain⟨x,ex⟩:∃ x,s.extract a i=x:=⟨_,rfl⟩
     rw [ex] at hT
     have hY:TkH (W.alloc (.cells (tkA ⟨2,x,0,0,a⟩) 233)) W§ ⟨2,x,0,0,a⟩:=heap_new W _
     have hR:TkH (W.alloc (.cells (tkA ⟨2,x,0,0,a⟩) 233)) w§ tk0:=heap_old H1.out H1.out.lt
     have hB2:=hB.alloc hB.size (.cells (tkA ⟨2,x,0,0,a⟩) 233)
     rw [hz] at hY
     have HY:=hY.hid
     have HRR:=hR.hid
     have HB2:Hid (yD w (W.alloc (.cells (tkA ⟨2,x,0,0,a⟩) 233))):=hB2
     have hwa:=rf_word_any x
     cases hw:isW x
     ·rw [hw] at hT hwa
      have hT':nmT s a=⟨2,x,0,0,a⟩:=hT
      have KT:Hid (nmT s a=⟨2,x,0,0,a⟩):=hT'
      have KE:Hid (nmE s a=0):=hE
      clear hT hE HT HE hT' hY hR hB2
      go_wp2_with (go_at_call 124; refine (rf_goes_b hg _).mono ?_; rintro _ v ⟨rfl,e⟩; obtain rfl:=e.symm)
      refine (hwa _).mono ?_
      rintro _ v ⟨rfl,bb⟩
      have HY2:=(HY.out.onto bb).hid
      have HR2:=(HRR.out.onto bb).hid
      have hB3:=HB2.out.trans (bb.mono HB2.out.size)
      obtain⟨y0,y1,y2,y3,y4⟩:=HY2.out.cells
      obtain⟨r0,r1,r2,r3,r4⟩:=HR2.out.cells
      obtain⟨f0,f1,f2,f3,f4⟩:=HR2.out.froz
      clear bb
      go_wp2
      exact bodyPost_ret (results_two (p:=4) (u:=5) (ty:=233) rfl _ _ w§ 233 (tkA ⟨2,x,0,0,a⟩) (0,0) _ rfl (HR2.out.put ⟨2,x,0,0,a⟩) Tryz.underlying233 rfl zK) rfl ⟨by rw [KT.out,KE.out]; rfl,below_put hB3 (Nat.le_refl _) _ _ _ _ _⟩
     ·rw [hw] at hT hwa
      have hT':nmT s a=⟨1,x,0,0,a⟩:=hT
      have KT:Hid (nmT s a=⟨1,x,0,0,a⟩):=hT'
      have KE:Hid (nmE s a=0):=hE
      clear hT hE HT HE hT' hY hR hB2
      go_wp2_with (go_at_call 124; refine (rf_goes_b hg _).mono ?_; rintro _ v ⟨rfl,e⟩; obtain rfl:=e.symm)
      refine (hwa _).mono ?_
      rintro _ v ⟨rfl,bb⟩
      have HY2:=(HY.out.onto bb).hid
      have HR2:=(HRR.out.onto bb).hid
      have hB3:=HB2.out.trans (bb.mono HB2.out.size)
      obtain⟨V,eV⟩:∃ V,v.setCell ⟨w§+1,0,none⟩ (zU 1)=V:=⟨_,rfl⟩
      have HY3:Hid (TkH V (w§+1) ⟨1,x,0,0,a⟩):=by show TkH V _ _; rw [← eV]; exact heap_set _ HY2.out
      have HR3:Hid (TkH V w§ tk0):=by show TkH V _ _; rw [← eV]; exact (Below.heap_setCell _ _ _ _ (by simp)).trans HR2.out
      have hB4:yD w V:=by rw [← eV]; exact hB3.setCell (p:=⟨w§+1,0,none⟩) (by simp) _
      obtain⟨z0,z1,z2,z3,z4⟩:=HY2.out.cells
      obtain⟨g0,g1,g2,g3,g4⟩:=HY2.out.froz
      obtain⟨y0,y1,y2,y3,y4⟩:=HY3.out.cells
      obtain⟨r0,r1,r2,r3,r4⟩:=HR3.out.cells
      obtain⟨f0,f1,f2,f3,f4⟩:=HR3.out.froz
      clear bb hB3
      go_wp2
      exact bodyPost_ret (results_two (p:=4) (u:=5) (ty:=233) rfl _ _ w§ 233 (tkA ⟨1,x,0,0,a⟩) (0,0) _ rfl (HR3.out.put ⟨1,x,0,0,a⟩) Tryz.underlying233 rfl zK) rfl ⟨by rw [KT.out,KE.out]; rfl,below_put hB4 (Nat.le_refl _) _ _ _ _ _⟩
   ·have hs2:Hid (d=(i+1)+lead goB (rest s (i+1))):=by show _=_; rw [HR.out,hr,lead,if_pos hg]; omega
    have h3:i+1≤d:=by have:=hs2.out; omega
    clear hr
    go_wp2_with (go_at_call 124; refine (rf_goes_b hg _).mono ?_; rintro _ v ⟨rfl,e⟩; obtain rfl:=e.symm)
    exact⟨⟨i+1,by omega,h3,by go_num,hs2⟩,by simp only [intOf]; omega⟩
  ·have hn:¬ (i:Int) < (s.size:Int):=by omega
   have hs3:i=d:=by rw [HR.out,rest_end s i (by omega)]; rfl
   subst hs3
   clear HR
   by_cases h16:i - a > 16
   ·have h16':(16:Int) < (i:Int) - (a:Int):=by omega
    have hT:=HT.out
    rw [if_pos h16] at hT
    have hE:=HE.out
    rw [if_pos h16] at hE
    obtain⟨r0,r1,r2,r3,r4⟩:=H1.out.cells
    obtain⟨f0,f1,f2,f3,f4⟩:=H1.out.froz
    have hlt4:=H1.out.lt
    have KT:Hid (nmT s a=tk0):=hT
    have KE:Hid (nmE s a=112):=hE
    clear hT hE HT HE
    go_wp2_with fail
    exact bodyPost_ret (results_two (p:=4) (u:=5) (ty:=233) rfl _ _ w§ 233 (tkA tk0) (0,0) _ rfl (heap_old (H1.out.put tk0) (H1.out.put tk0).lt) Tryz.underlying233 rfl zK) rfl ⟨by rw [KT.out,KE.out]; rfl,(below_put hB (Nat.le_refl _) _ _ _ _ _).alloc (below_put hB (Nat.le_refl _) _ _ _ _ _).size _⟩
   ·have h16':¬ (16:Int) < (i:Int) - (a:Int):=by omega
    have hT:=HT.out
    rw [if_neg h16] at hT
    have hE:=HE.out
    rw [if_neg h16] at hE
    obtain⟨x,ex⟩:∃ x,s.extract a i=x:=⟨_,rfl⟩
    rw [ex] at hT
    have hY:TkH (W.alloc (.cells (tkA ⟨2,x,0,0,a⟩) 233)) W§ ⟨2,x,0,0,a⟩:=heap_new W _
    have hR:TkH (W.alloc (.cells (tkA ⟨2,x,0,0,a⟩) 233)) w§ tk0:=heap_old H1.out H1.out.lt
    have hB2:=hB.alloc hB.size (.cells (tkA ⟨2,x,0,0,a⟩) 233)
    rw [hz] at hY
    have HY:=hY.hid
    have HRR:=hR.hid
    have HB2:Hid (yD w (W.alloc (.cells (tkA ⟨2,x,0,0,a⟩) 233))):=hB2
    have hwa:=rf_word_any x
    cases hw:isW x
    ·rw [hw] at hT hwa
     have hT':nmT s a=⟨2,x,0,0,a⟩:=hT
     have KT:Hid (nmT s a=⟨2,x,0,0,a⟩):=hT'
     have KE:Hid (nmE s a=0):=hE
     clear hT hE HT HE hT' hY hR hB2
     go_wp2_with fail
     refine (hwa _).mono ?_
     rintro _ v ⟨rfl,bb⟩
     have HY2:=(HY.out.onto bb).hid
     have HR2:=(HRR.out.onto bb).hid
     have hB3:=HB2.out.trans (bb.mono HB2.out.size)
     obtain⟨y0,y1,y2,y3,y4⟩:=HY2.out.cells
     obtain⟨r0,r1,r2,r3,r4⟩:=HR2.out.cells
     obtain⟨f0,f1,f2,f3,f4⟩:=HR2.out.froz
     clear bb
     go_wp2
     exact bodyPost_ret (results_two (p:=4) (u:=5) (ty:=233) rfl _ _ w§ 233 (tkA ⟨2,x,0,0,a⟩) (0,0) _ rfl (HR2.out.put ⟨2,x,0,0,a⟩) Tryz.underlying233 rfl zK) rfl ⟨by rw [KT.out,KE.out]; rfl,below_put hB3 (Nat.le_refl _) _ _ _ _ _⟩
    ·rw [hw] at hT hwa
     have hT':nmT s a=⟨1,x,0,0,a⟩:=hT
     have KT:Hid (nmT s a=⟨1,x,0,0,a⟩):=hT'
     have KE:Hid (nmE s a=0):=hE
     clear hT hE HT HE hT' hY hR hB2
     go_wp2_with fail
     refine (hwa _).mono ?_
     rintro _ v ⟨rfl,bb⟩
     have HY2:=(HY.out.onto bb).hid
     have HR2:=(HRR.out.onto bb).hid
     have hB3:=HB2.out.trans (bb.mono HB2.out.size)
     obtain⟨V,eV⟩:∃ V,v.setCell ⟨w§+1,0,none⟩ (zU 1)=V:=⟨_,rfl⟩
     have HY3:Hid (TkH V (w§+1) ⟨1,x,0,0,a⟩):=by show TkH V _ _; rw [← eV]; exact heap_set _ HY2.out
     have HR3:Hid (TkH V w§ tk0):=by show TkH V _ _; rw [← eV]; exact (Below.heap_setCell _ _ _ _ (by simp)).trans HR2.out
     have hB4:yD w V:=by rw [← eV]; exact hB3.setCell (p:=⟨w§+1,0,none⟩) (by simp) _
     obtain⟨z0,z1,z2,z3,z4⟩:=HY2.out.cells
     obtain⟨g0,g1,g2,g3,g4⟩:=HY2.out.froz
     obtain⟨y0,y1,y2,y3,y4⟩:=HY3.out.cells
     obtain⟨r0,r1,r2,r3,r4⟩:=HR3.out.cells
     obtain⟨f0,f1,f2,f3,f4⟩:=HR3.out.froz
     clear bb hB3
     go_wp2
     exact bodyPost_ret (results_two (p:=4) (u:=5) (ty:=233) rfl _ _ w§ 233 (tkA ⟨1,x,0,0,a⟩) (0,0) _ rfl (HR3.out.put ⟨1,x,0,0,a⟩) Tryz.underlying233 rfl zK) rfl ⟨by rw [KT.out,KE.out]; rfl,below_put hB4 (Nat.le_refl _) _ _ _ _ _⟩
theorem rf_mark_any (s:yB) (a:Nat) (hs:s.size≤140737488355328) (ha:a≤s.size) (w:yW) :
  Calls zG 202 #[.string s,zI a] w fun e w'=>e=.returned (.tuple #[.agg (tkA (mkT s a)),zI (mkE s a)])∧yD w w':=by
 have h0:TkH ((w.alloc (.cells (tkA tk0) 233)).alloc (.cells marksV 9)) w§ tk0:=heap_old (heap_new w _) (by rw [size_alloc]; omega)
 have hc:∀ j,j < 23→((w.alloc (.cells (tkA tk0) 233)).alloc (.cells marksV 9)).cell? ⟨w§+1,j,none⟩=some (.string (mk j)):=fun j hj=>by
  have:=marks_cell (w.alloc (.cells (tkA tk0) 233)) j hj
  rwa [size_alloc] at this
 have hB:=below_two w (.cells (tkA tk0) 233) (.cells marksV 9)
 go_enter Tryz.func202,Tryz.ntmps202
 go_wp2_with fail
 obtain⟨W,eW⟩:∃ W,(w.alloc (.cells (tkA tk0) 233)).alloc (.cells marksV 9)=W:=⟨_,rfl⟩
 rw [eW] at h0 hc hB
 have eW':(w.alloc (.cells zt 233)).alloc (.cells #[.string ⟨#[61,61]⟩,.string ⟨#[33,61]⟩,.string ⟨#[60,61]⟩,.string ⟨#[62,61]⟩,.string Z7,.string Zf,.string Zg,.string Ze,.string ⟨#[40]⟩,.string ⟨#[41]⟩,.string Z8,.string Z9,.string Zh,.string ⟨#[58]⟩,.string Zi,.string ⟨#[33]⟩,.string ⟨#[60]⟩,.string ⟨#[62]⟩,.string ⟨#[43]⟩,.string Zj,.string ⟨#[42]⟩,.string ⟨#[47]⟩,.string ⟨#[37]⟩] 9)=W:=eW
 rw [eW']
 have H0:=h0.hid
 have HC:Hid (∀ j,j < 23→W.cell? ⟨w§+1,j,none⟩=some (.string (mk j))):=hc
 clear h0 hc eW eW'
 go_loopw [7] (fun t wr=>∃ i n:Nat,i≤23∧t=zI i∧wr=W.drewN n∧Hid (∀ j,j < i→mkB s a j=false)) (fun t _=>23 - (intOf t).toNat)
 case atStart=>exact⟨0,0,by omega,rfl,rfl,fun j hj=>by omega⟩
 case round =>
  obtain⟨i,n,hi,rfl,rfl,HR⟩:=hrel
  by_cases hlt:i < 23
  ·have hlt':(i:Int) < 23:=by omega
   have hcell:=HC.out i hlt
   have hsz:=mk_size i
   obtain⟨x,ex⟩:∃ x,mk i=x:=⟨_,rfl⟩
   rw [ex] at hcell hsz
   obtain⟨r0,r1,r2,r3,r4⟩:=H0.out.cells
   obtain⟨f0,f1,f2,f3,f4⟩:=H0.out.froz
   obtain⟨q,hq⟩:∃ q:Nat,a+x.size=q:=⟨_,rfl⟩
   have hq':(a:Int)+(x.size:Int)=(q:Int):=by omega
   have haq:a≤q:=by omega
   have haq':(a:Int)≤(q:Int):=by omega
   by_cases hfit:q≤s.size
   ·have hfit':(q:Int)≤(s.size:Int):=by omega
    obtain⟨y,ey⟩:∃ y,s.extract a q=y:=⟨_,rfl⟩
    by_cases he:y=x
    ·have hm:mkB s a i=true:=by unfold mkB; rw [ex,hq,ey,he,decide_eq_true hfit]; simp
     have hO:=mkO_some hlt HR.out hm
     have KT:Hid (mkT s a=⟨4,x,0,0,a⟩):=by show _=_; unfold mkT; rw [hO]; simp only [ex]
     have KE:Hid (mkE s a=0):=by show _=_; unfold mkE; rw [hO]
     subst he
     clear hm hO ex hq
     go_wp2
     go_quiet (fail)
     go_wp2
     exact bodyPost_ret (results_two (p:=4) (u:=5) (ty:=233) rfl _ _ w§ 233 (tkA ⟨4,y,0,0,a⟩) (0,0) _ rfl ((H0.out.drewN _).put ⟨4,y,0,0,a⟩) Tryz.underlying233 rfl zK) rfl ⟨by rw [KT.out,KE.out]; rfl,below_put (below_drew hB _) (Nat.le_refl _) _ _ _ _ _⟩
    ·have hne:=seq_ne he
     have hm:mkB s a i=false:=by
      unfold mkB
      rw [ex,hq,ey]
      have:(y.data.toList == x.data.toList)=false:=beq_false_of_ne (fun h=>he (str_eq h))
      rw [this]; simp
     have hn:Hid (∀ j,j < i+1→mkB s a j=false):=fun j hj=>by
      by_cases e:j=i
      ·subst e; exact hm
      ·exact HR.out j (by omega)
     clear hm ex hq he
     go_wp2
     go_quiet (fail)
     go_wp2
     exact⟨⟨i+1,_,by omega,by go_num,rfl,hn⟩,by simp only [intOf]; omega⟩
   ·have hfit':¬ (q:Int)≤(s.size:Int):=by omega
    have hm:mkB s a i=false:=by unfold mkB; rw [ex,hq,decide_eq_false hfit]; rfl
    have hn:Hid (∀ j,j < i+1→mkB s a j=false):=fun j hj=>by
     by_cases e:j=i
     ·subst e; exact hm
     ·exact HR.out j (by omega)
    clear hm ex hq
    go_wp2
    go_quiet (fail)
    go_wp2
    exact⟨⟨i+1,_,by omega,by go_num,rfl,hn⟩,by simp only [intOf]; omega⟩
  ·obtain rfl:i=23:=by omega
   have hO:=mkO_none HR.out
   have KT:Hid (mkT s a=tk0):=by show _=_; unfold mkT; rw [hO]
   have KE:Hid (mkE s a=111):=by show _=_; unfold mkE; rw [hO]
   obtain⟨r0,r1,r2,r3,r4⟩:=H0.out.cells
   obtain⟨f0,f1,f2,f3,f4⟩:=H0.out.froz
   clear hO
   go_wp2
   exact bodyPost_ret (results_two (p:=4) (u:=5) (ty:=233) rfl _ _ w§ 233 (tkA tk0) (0,0) _ rfl ((H0.out.drewN _).put tk0) Tryz.underlying233 rfl zK) rfl ⟨by rw [KT.out,KE.out]; rfl,below_put (below_drew hB _) (Nat.le_refl _) _ _ _ _ _⟩
end Go.Proofs.YtfbjofnaghjmeaaGreatDoor
