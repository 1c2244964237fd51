import Derived.Test.YtfbjofnaghjmeaaGreatDoorA23
namespace Go.Proofs.YtfbjofnaghjmeaaGreatDoor
open Go.Proofs.Tryz
set_option maxRecDepth 100000
set_option maxHeartbeats 1000000
open Go.RowKit
set_option linter.unusedVariables false
theorem Qfx {b:Nat}{o t n f p:Int}{x:yB}{a:Option Addr}{c:Nat}{ks:List Nd}{w:yW}{F:Nat}{r:Except Int Int}
  (cD:∀ v,Calls zG 71 #[zU o] v fun e w'=>e=.returned (fnV F)∧yD v w') (hE:∀ args v,Sem.run zG (callFunc F args) v=.ok (.enter F args) v)
  (cF:∀ v,yD w v→Calls zG F #[zP b,.slice a ks.length c] v (OutV v r)) :
  Calls zG 37 #[zP b,.agg (zW 5 o t n f x a ks c p)] w (OutV w r):=by
 have HB:=Qb w (.cells (zW 5 o t n f x a ks c p) 38)
 have HN:=Qc w (.cells (zW 5 o t n f x a ks c p) 38)
 obtain⟨W,eW⟩:∃ W,w.alloc (.cells (zW 5 o t n f x a ks c p) 38)=W:=jV
 have EW:=zH eW
 rw [eW] at HB HN
 have q0:zQ W w§¢0 (zU 5):=Qa HN 0
 have q1:zQ W w§¢1 (zU o):=Qa HN 1
 have q6:zQ W w§¢6 (.slice a ks.length c):=Qa HN 6
 have HB:=zH HB
 have HS:Hid (∀ v,GB W v→zQ v w§¢1 (zU o)∧zQ v w§¢6 (.slice a ks.length c)∧GB W v):=fun v hv=>⟨QG q1 hv,QG q6 hv,hv⟩
 have HF:Hid (∀ v,GB W v→Calls zG F #[zP b,.slice a ks.length c] v (OutV v r)):=fun v hv=>cF v (Qm HB.out hv)
 unfold fnV at cD
 clear eW HN cF
 go_enter func37,ntmps37
 go_upto_region 2 with fail
 rw [EW.out]
 clear EW
 go_upto_region 16 with fail
 cases r with
 | error q =>
  have cF:∀ v,GB W v→Calls zG F #[zP b,.slice a ks.length c] v fun e w'=>e=fltE q∧yD v w':=HF.out
  refine wp_region_held_drew (S:=(fun v=>zQ v w§¢1 (zU o)∧zQ v w§¢6 (.slice a ks.length c)∧GB W v)) zK (HS.out _ (by (repeat (first | with_reducible assumption | with_reducible exact GB.refl _ | with_reducible apply GB.drew | with_reducible apply GB.alloc | with_reducible refine GB.call (by with_reducible assumption) ?_)))) (fun hHeld=>?_)
  refine zTa 0
  rotate_left
  ·(intro w hSw;(try dsimp only at hSw);go_simp;try (with_reducible rfl))
  try simp [Act.put]
  refine zTa 1
  rotate_left
  ·(intro w hSw;(try dsimp only at hSw);go_simp;try (with_reducible rfl))
  try simp [Act.put]
  refine zTa 3
  rotate_left
  ·(intro w hSw;(try dsimp only at hSw);go_simp;try (with_reducible rfl))
  try simp [Act.put]
  refine zTa 4
  rotate_left
  ·(intro w hSw;(try dsimp only at hSw);go_simp;try (with_reducible rfl))
  try simp [Act.put]
  refine zTa 5
  rotate_left
  ·(intro w hSw;(try dsimp only at hSw);go_simp;try (with_reducible rfl))
  try simp [Act.put]
  refine wpAnyH_ready (rs:=[2]) zK (by simp) ?_
  refine AllReadyH.cons rfl (fun K hK=>?_) AllReadyH.nil
  go_simp
  refine (cD _).mono ?_
  rintro e w2 ⟨rfl,hb2⟩
  have hg2:GB W w2:=GB.call hb2 (by (repeat (first | with_reducible assumption | with_reducible exact GB.refl _ | with_reducible apply GB.drew | with_reducible apply GB.alloc | with_reducible refine GB.call (by with_reducible assumption) ?_)))
  have HG2:Hid (GB W w2):=hg2
  go_simp
  refine hK.out _ _ ?_ (fun hHeld=>?_)
  ·exact HS.out _ hg2
  clear hK K
  try simp [Act.put]
  refine wpAnyH_ready (rs:=[6]) zK (by simp) ?_
  refine AllReadyH.cons rfl (fun K hK=>?_) AllReadyH.nil
  go_simp
  refine (cF _ HG2.out).mono ?_
  rintro e w3 ⟨rfl,hb3⟩
  exact⟨rfl,rfl,Qm HB.out (GB.call hb3 HG2.out)⟩
 | ok z =>
  have cF:∀ v,GB W v→Calls zG F #[zP b,.slice a ks.length c] v fun e w'=>e=.returned (zI z)∧yD v w':=HF.out
  go_region_held3 (fun v=>zQ v w§¢1 (zU o)∧zQ v w§¢6 (.slice a ks.length c)∧GB W v)
   (exact HS.out _ (by (repeat (first | with_reducible assumption | with_reducible exact GB.refl _ | with_reducible apply GB.drew | with_reducible apply GB.alloc | with_reducible refine GB.call (by with_reducible assumption) ?_))))
   (first
    | (go_at_call 71;refine (cD _).mono ?_;rintro e w6 ⟨rfl,hb6⟩)
    | (refine (cF _ (by (repeat (first | with_reducible assumption | with_reducible exact GB.refl _ | with_reducible apply GB.drew | with_reducible apply GB.alloc | with_reducible refine GB.call (by with_reducible assumption) ?_)))).mono ?_;rintro e w7 ⟨rfl,hb7⟩))
  all_goals
   refine J9 (P:=fun V=>GB W V) (by (repeat (first | with_reducible assumption | with_reducible exact GB.refl _ | with_reducible apply GB.drew | with_reducible apply GB.alloc | with_reducible refine GB.call (by with_reducible assumption) ?_))) ?_
   intro V hV
   have HV:=zH (Qm HB.out hV)
   clear hV
   go_wp2
   go_ret
   exact⟨rfl,HV.out⟩
theorem Qfw {b:Nat}{o t n f p:Int}{x:yB}{a:Option Addr}{c:Nat}{ks:List Nd}{w:yW}{F:Nat}{r:Except Int Int}
  (cD:∀ v,Calls zG 71 #[zU o] v fun e w'=>e=.returned (fnV F)∧yD v w') (hE:∀ args v,Sem.run zG (callFunc F args) v=.ok (.enter F args) v)
  (cF:∀ v,yD w v→Calls zG F #[zP b,.slice a ks.length c] v (OutV v r)) :
  Calls zG 37 #[zP b,.agg (zW 6 o t n f x a ks c p)] w (OutV w r):=by
 have HB:=Qb w (.cells (zW 6 o t n f x a ks c p) 38)
 have HN:=Qc w (.cells (zW 6 o t n f x a ks c p) 38)
 obtain⟨W,eW⟩:∃ W,w.alloc (.cells (zW 6 o t n f x a ks c p) 38)=W:=jV
 have EW:=zH eW
 rw [eW] at HB HN
 have q0:zQ W w§¢0 (zU 6):=Qa HN 0
 have q1:zQ W w§¢1 (zU o):=Qa HN 1
 have q6:zQ W w§¢6 (.slice a ks.length c):=Qa HN 6
 have HB:=zH HB
 have HS:Hid (∀ v,GB W v→zQ v w§¢1 (zU o)∧zQ v w§¢6 (.slice a ks.length c)∧GB W v):=fun v hv=>⟨QG q1 hv,QG q6 hv,hv⟩
 have HF:Hid (∀ v,GB W v→Calls zG F #[zP b,.slice a ks.length c] v (OutV v r)):=fun v hv=>cF v (Qm HB.out hv)
 unfold fnV at cD
 clear eW HN cF
 go_enter func37,ntmps37
 go_upto_region 2 with fail
 rw [EW.out]
 clear EW
 go_upto_region 16 with fail
 cases r with
 | error q =>
  have cF:∀ v,GB W v→Calls zG F #[zP b,.slice a ks.length c] v fun e w'=>e=fltE q∧yD v w':=HF.out
  refine wp_region_held_drew (S:=(fun v=>zQ v w§¢1 (zU o)∧zQ v w§¢6 (.slice a ks.length c)∧GB W v)) zK (HS.out _ (by (repeat (first | with_reducible assumption | with_reducible exact GB.refl _ | with_reducible apply GB.drew | with_reducible apply GB.alloc | with_reducible refine GB.call (by with_reducible assumption) ?_)))) (fun hHeld=>?_)
  refine zTa 0
  rotate_left
  ·(intro w hSw;(try dsimp only at hSw);go_simp;try (with_reducible rfl))
  try simp [Act.put]
  refine zTa 1
  rotate_left
  ·(intro w hSw;(try dsimp only at hSw);go_simp;try (with_reducible rfl))
  try simp [Act.put]
  refine zTa 3
  rotate_left
  ·(intro w hSw;(try dsimp only at hSw);go_simp;try (with_reducible rfl))
  try simp [Act.put]
  refine zTa 4
  rotate_left
  ·(intro w hSw;(try dsimp only at hSw);go_simp;try (with_reducible rfl))
  try simp [Act.put]
  refine zTa 5
  rotate_left
  ·(intro w hSw;(try dsimp only at hSw);go_simp;try (with_reducible rfl))
  try simp [Act.put]
  refine wpAnyH_ready (rs:=[2]) zK (by simp) ?_
  refine AllReadyH.cons rfl (fun K hK=>?_) AllReadyH.nil
  go_simp
  refine (cD _).mono ?_
  rintro e w2 ⟨rfl,hb2⟩
  have hg2:GB W w2:=GB.call hb2 (by (repeat (first | with_reducible assumption | with_reducible exact GB.refl _ | with_reducible apply GB.drew | with_reducible apply GB.alloc | with_reducible refine GB.call (by with_reducible assumption) ?_)))
  have HG2:Hid (GB W w2):=hg2
  go_simp
  refine hK.out _ _ ?_ (fun hHeld=>?_)
  ·exact HS.out _ hg2
  clear hK K
  try simp [Act.put]
  refine wpAnyH_ready (rs:=[6]) zK (by simp) ?_
  refine AllReadyH.cons rfl (fun K hK=>?_) AllReadyH.nil
  go_simp
  refine (cF _ HG2.out).mono ?_
  rintro e w3 ⟨rfl,hb3⟩
  exact⟨rfl,rfl,Qm HB.out (GB.call hb3 HG2.out)⟩
 | ok z =>
  have cF:∀ v,GB W v→Calls zG F #[zP b,.slice a ks.length c] v fun e w'=>e=.returned (zI z)∧yD v w':=HF.out
  go_region_held3 (fun v=>zQ v w§¢1 (zU o)∧zQ v w§¢6 (.slice a ks.length c)∧GB W v)
   (exact HS.out _ (by (repeat (first | with_reducible assumption | with_reducible exact GB.refl _ | with_reducible apply GB.drew | with_reducible apply GB.alloc | with_reducible refine GB.call (by with_reducible assumption) ?_))))
   (first
    | (go_at_call 71;refine (cD _).mono ?_;rintro e w6 ⟨rfl,hb6⟩)
    | (refine (cF _ (by (repeat (first | with_reducible assumption | with_reducible exact GB.refl _ | with_reducible apply GB.drew | with_reducible apply GB.alloc | with_reducible refine GB.call (by with_reducible assumption) ?_)))).mono ?_;rintro e w7 ⟨rfl,hb7⟩))
  all_goals
   refine J9 (P:=fun V=>GB W V) (by (repeat (first | with_reducible assumption | with_reducible exact GB.refl _ | with_reducible apply GB.drew | with_reducible apply GB.alloc | with_reducible refine GB.call (by with_reducible assumption) ?_))) ?_
   intro V hV
   have HV:=zH (Qm HB.out hV)
   clear hV
   go_wp2
   go_ret
   exact⟨rfl,HV.out⟩
theorem Qa3 {b:Nat}{o t n f p:Int}{x:yB}{a:Option Addr}{c:Nat}{ks:List Nd}{w:yW}{F:Nat}{r:Except Int Int}
  (cD:∀ v,Calls zG 71 #[zU o] v fun e w'=>e=.returned (fnV F)∧yD v w') (hE:∀ args v,Sem.run zG (callFunc F args) v=.ok (.enter F args) v)
  (cF:∀ v,yD w v→Calls zG F #[zP b,.slice a ks.length c] v (OutV v r)) :
  Calls zG 37 #[zP b,.agg (zW 8 o t n f x a ks c p)] w (OutV w r):=by
 have HB:=Qb w (.cells (zW 8 o t n f x a ks c p) 38)
 have HN:=Qc w (.cells (zW 8 o t n f x a ks c p) 38)
 obtain⟨W,eW⟩:∃ W,w.alloc (.cells (zW 8 o t n f x a ks c p) 38)=W:=jV
 have EW:=zH eW
 rw [eW] at HB HN
 have q0:zQ W w§¢0 (zU 8):=Qa HN 0
 have q1:zQ W w§¢1 (zU o):=Qa HN 1
 have q6:zQ W w§¢6 (.slice a ks.length c):=Qa HN 6
 have HB:=zH HB
 have HS:Hid (∀ v,GB W v→zQ v w§¢1 (zU o)∧zQ v w§¢6 (.slice a ks.length c)∧GB W v):=fun v hv=>⟨QG q1 hv,QG q6 hv,hv⟩
 have HF:Hid (∀ v,GB W v→Calls zG F #[zP b,.slice a ks.length c] v (OutV v r)):=fun v hv=>cF v (Qm HB.out hv)
 unfold fnV at cD
 clear eW HN cF
 go_enter func37,ntmps37
 go_upto_region 2 with fail
 rw [EW.out]
 clear EW
 go_upto_region 16 with fail
 cases r with
 | error q =>
  have cF:∀ v,GB W v→Calls zG F #[zP b,.slice a ks.length c] v fun e w'=>e=fltE q∧yD v w':=HF.out
  refine wp_region_held_drew (S:=(fun v=>zQ v w§¢1 (zU o)∧zQ v w§¢6 (.slice a ks.length c)∧GB W v)) zK (HS.out _ (by (repeat (first | with_reducible assumption | with_reducible exact GB.refl _ | with_reducible apply GB.drew | with_reducible apply GB.alloc | with_reducible refine GB.call (by with_reducible assumption) ?_)))) (fun hHeld=>?_)
  refine zTa 0
  rotate_left
  ·(intro w hSw;(try dsimp only at hSw);go_simp;try (with_reducible rfl))
  try simp [Act.put]
  refine zTa 1
  rotate_left
  ·(intro w hSw;(try dsimp only at hSw);go_simp;try (with_reducible rfl))
  try simp [Act.put]
  refine zTa 3
  rotate_left
  ·(intro w hSw;(try dsimp only at hSw);go_simp;try (with_reducible rfl))
  try simp [Act.put]
  refine zTa 4
  rotate_left
  ·(intro w hSw;(try dsimp only at hSw);go_simp;try (with_reducible rfl))
  try simp [Act.put]
  refine zTa 5
  rotate_left
  ·(intro w hSw;(try dsimp only at hSw);go_simp;try (with_reducible rfl))
  try simp [Act.put]
  refine wpAnyH_ready (rs:=[2]) zK (by simp) ?_
  refine AllReadyH.cons rfl (fun K hK=>?_) AllReadyH.nil
  go_simp
  refine (cD _).mono ?_
  rintro e w2 ⟨rfl,hb2⟩
  have hg2:GB W w2:=GB.call hb2 (by (repeat (first | with_reducible assumption | with_reducible exact GB.refl _ | with_reducible apply GB.drew | with_reducible apply GB.alloc | with_reducible refine GB.call (by with_reducible assumption) ?_)))
  have HG2:Hid (GB W w2):=hg2
  go_simp
  refine hK.out _ _ ?_ (fun hHeld=>?_)
  ·exact HS.out _ hg2
  clear hK K
  try simp [Act.put]
  refine wpAnyH_ready (rs:=[6]) zK (by simp) ?_
  refine AllReadyH.cons rfl (fun K hK=>?_) AllReadyH.nil
  go_simp
  refine (cF _ HG2.out).mono ?_
  rintro e w3 ⟨rfl,hb3⟩
  exact⟨rfl,rfl,Qm HB.out (GB.call hb3 HG2.out)⟩
 | ok z =>
  have cF:∀ v,GB W v→Calls zG F #[zP b,.slice a ks.length c] v fun e w'=>e=.returned (zI z)∧yD v w':=HF.out
  go_region_held3 (fun v=>zQ v w§¢1 (zU o)∧zQ v w§¢6 (.slice a ks.length c)∧GB W v)
   (exact HS.out _ (by (repeat (first | with_reducible assumption | with_reducible exact GB.refl _ | with_reducible apply GB.drew | with_reducible apply GB.alloc | with_reducible refine GB.call (by with_reducible assumption) ?_))))
   (first
    | (go_at_call 71;refine (cD _).mono ?_;rintro e w6 ⟨rfl,hb6⟩)
    | (refine (cF _ (by (repeat (first | with_reducible assumption | with_reducible exact GB.refl _ | with_reducible apply GB.drew | with_reducible apply GB.alloc | with_reducible refine GB.call (by with_reducible assumption) ?_)))).mono ?_;rintro e w7 ⟨rfl,hb7⟩))
  all_goals
   refine J9 (P:=fun V=>GB W V) (by (repeat (first | with_reducible assumption | with_reducible exact GB.refl _ | with_reducible apply GB.drew | with_reducible apply GB.alloc | with_reducible refine GB.call (by with_reducible assumption) ?_))) ?_
   intro V hV
   have HV:=zH (Qm HB.out hV)
   clear hV
   go_wp2
   go_ret
   exact⟨rfl,HV.out⟩
theorem V7 {h:Hd}{l:Nat}(e:fitB h l=true):(h.k=1∧l=0)∨(h.k=2∧l=0)∨(h.k=3∧l=0∧1≤h.f∧h.f≤6)∨(h.k=4∧l=0∧1≤h.f∧h.f≤3)∨(h.k=5∧l=1∧1≤h.o∧h.o≤2) ∨
  (h.k=6∧l=2∧6≤h.o∧h.o≤18)∨(h.k=7∧l=3)∨(h.k=8∧l=1∧h.o=3)∨(h.k=8∧l=2∧4≤h.o∧h.o≤5)∨(h.k=9∧l=1):=by
 unfold fitB at e
 by_cases h1:h.k=1
 ·rw [if_pos h1] at e;simp at e;exact .inl ⟨h1,e.1⟩
 rw [if_neg h1] at e
 by_cases h2:h.k=2
 ·rw [if_pos h2] at e;simp at e;exact .inr (.inl ⟨h2,e.1⟩)
 rw [if_neg h2] at e
 by_cases h3:h.k=3
 ·rw [if_pos h3] at e;simp at e;exact .inr (.inr (.inl ⟨h3,e⟩))
 rw [if_neg h3] at e
 by_cases h4:h.k=4
 ·rw [if_pos h4] at e;simp at e;exact .inr (.inr (.inr (.inl ⟨h4,e⟩)))
 rw [if_neg h4] at e
 by_cases h5:h.k=5
 ·rw [if_pos h5] at e;simp at e;exact .inr (.inr (.inr (.inr (.inl ⟨h5,e⟩))))
 rw [if_neg h5] at e
 by_cases h6:h.k=6
 ·rw [if_pos h6] at e;simp at e;exact .inr (.inr (.inr (.inr (.inr (.inl ⟨h6,e⟩)))))
 rw [if_neg h6] at e
 by_cases h7:h.k=7
 ·rw [if_pos h7] at e;simp at e;exact .inr (.inr (.inr (.inr (.inr (.inr (.inl ⟨h7,e⟩))))))
 rw [if_neg h7] at e
 by_cases h8:h.k=8
 ·rw [if_pos h8] at e
  simp at e
  rcases e with e | e
  ·exact .inr (.inr (.inr (.inr (.inr (.inr (.inr (.inl ⟨h8,e⟩)))))))
  ·exact .inr (.inr (.inr (.inr (.inr (.inr (.inr (.inr (.inl ⟨h8,e⟩))))))))
 rw [if_neg h8] at e
 by_cases h9:h.k=9
 ·rw [if_pos h9] at e;simp at e;exact .inr (.inr (.inr (.inr (.inr (.inr (.inr (.inr (.inr ⟨h9,e.1⟩))))))))
 rw [if_neg h9] at e
 cases e
theorem KY (o:Nat) (h1:1≤o) (h2:o≤18) (args:Array Value) (v:yW):Sem.run zG (callFunc (103+o) args) v=.ok (.enter (103+o) args) v:=by
 have:o=1∨o=2∨o=3∨o=4∨o=5∨o=6∨o=7∨o=8∨o=9∨o=10∨o=11∨o=12∨o=13∨o=14∨o=15∨o=16∨o=17∨o=18:=by omega
 rcases this with rfl | rfl | rfl | rfl | rfl | rfl | rfl | rfl | rfl | rfl | rfl | rfl | rfl | rfl | rfl | rfl | rfl | rfl <;> (show _=_;kernel_rfl)
theorem Qf6 {o:Nat}(h1:1≤o) (h2:o≤3) {w:yW}{b kb ko l c:Nat}{m0:Nd}{r0 r1:Except Int Int}(h:K1 w b kb ko l m0 r0) :
  Calls zG (103+o) #[zP b,.slice (some kb¢ko) l c] w (OutV w (opR o r0 r1)):=by
 have:o=1∨o=2∨o=3:=by omega
 rcases this with rfl | rfl | rfl
 ·exact Qh9 h
 ·exact Qh6 h
 ·exact abs_op h
theorem QfB {o:Nat}(h1:4≤o) (h2:o≤18) {w:yW}{b kb ko l c:Nat}{m0 m1:Nd}{r0 r1:Except Int Int}(h:K2 w b kb ko l m0 m1 r0 r1) :
  Calls zG (103+o) #[zP b,.slice (some kb¢ko) l c] w (OutV w (opR o r0 r1)):=by
 have:o=4∨o=5∨o=6∨o=7∨o=8∨o=9∨o=10∨o=11∨o=12∨o=13∨o=14∨o=15∨o=16∨o=17∨o=18:=by omega
 rcases this with rfl | rfl | rfl | rfl | rfl | rfl | rfl | rfl | rfl | rfl | rfl | rfl | rfl | rfl | rfl
 ·exact Qil h
 ·exact Qin h
 ·exact add_op h
 ·exact Qhv h
 ·exact Qii h
 ·exact div_op h
 ·exact Qij h
 ·exact eq_op h
 ·exact ne_op h
 ·exact lt_op h
 ·exact le_op h
 ·exact gt_op h
 ·exact ge_op h
 ·exact and_op h
 ·exact or_op h
theorem Jx {b:Nat}{s:Sx.Sn}{G:yB→Option Int}(hs:∀ f,I64 (Sx.getN s f)):∀ (m:Nd) (w:yW),Sv w b s G→Lies w m→Res G m →
  Calls zG 37 #[zP b,.agg m.vals] w (OutV w (valR s G m)):=by
 refine Nd.ind fun h a c ks ih w hv hl hr=>?_
 cases hr with | mk _ _ _ _ hf hn hk =>
 have hx:=Qbo hl
 have hG:∀ x v,x.size≤maxLen→G x=some v→I64 v:=fun x v h1 h2=>(hv.rg x v h1 h2).1
 have HK:∀ i (hi:i < ks.length),KC w b ks[i] ((Jq s G ks).getD i (.ok 0)):=fun i hi=>by
  rw [Uv,dif_pos hi]
  have hm:ks[i] ∈ ks:=List.getElem_mem hi
  exact⟨Qc0 hs hG _ (hl.sub _ hm),fun v k=>ih _ hm v (hv.on k) ((hl.sub _ hm).on k) (hk _ hm)⟩
 have HA:0 < ks.length→∃ kb ko,a=some kb¢ko∧∀ i (hi:i < ks.length),NdAt w kb (ko+i * 8) ks[i]:=fun h0=>by
  obtain⟨kb,ko,e,_⟩:=hl.kid 0 h0
  refine⟨kb,ko,e,fun i hi=>?_⟩
  obtain⟨b',o',e',h'⟩:=hl.kid i hi
  have e2:=e.symm.trans e'
  cases e2
  exact h'
 rw [valR]
 obtain⟨k,o,t,n,f,x,p⟩:=h
 have C:=V7 hf
 simp only at C hn
 show Calls zG 37 #[zP b,.agg (zW k o t n f x a ks c p)] w _
 have D:∀ o:Int,1≤o→o≤18→∀ v,Calls zG 71 #[zU o] v fun e w'=>e=.returned (fnV (103+o.toNat))∧yD v w':=fun o h1 h2 v=>by
  have:=Qfc o.toNat zY zY v
  rwa [Int.toNat_of_nonneg zY] at this
 have C1:ks.length=1→1≤o→o≤3→∀ v,yD w v→Calls zG (103+o.toNat) #[zP b,.slice a ks.length c] v (OutV v (opR o ((Jq s G ks).getD 0 (.ok 0)) ((Jq s G ks).getD 1 (.ok 0)))):=fun h1 h2 h3 v hb=>by
  obtain⟨kb,ko,rfl,ha⟩:=HA zY
  have:=Qf6 (o:=o.toNat) (c:=c) (r1:=(Jq s G ks).getD 1 (.ok 0)) zY zY (w:=v) (b:=b) (kb:=kb) (ko:=ko) (l:=ks.length) ⟨by omega,(ha 0 zY).on hb,(HK 0 zY).on hb⟩
  rwa [Int.toNat_of_nonneg zY] at this
 have C2:ks.length=2→4≤o→o≤18→∀ v,yD w v→Calls zG (103+o.toNat) #[zP b,.slice a ks.length c] v (OutV v (opR o ((Jq s G ks).getD 0 (.ok 0)) ((Jq s G ks).getD 1 (.ok 0)))):=fun h1 h2 h3 v hb=>by
  obtain⟨kb,ko,rfl,ha⟩:=HA zY
  have:=QfB (o:=o.toNat) (c:=c) zY zY (w:=v) (b:=b) (kb:=kb) (ko:=ko) (l:=ks.length) ⟨by omega,(ha 0 zY).on hb,(ha 1 zY).on hb,(HK 0 zY).on hb,(HK 1 zY).on hb⟩
  rwa [Int.toNat_of_nonneg zY] at this
 rcases C with ⟨rfl,h0⟩ | ⟨rfl,h0⟩ | ⟨rfl,h0,f0,f1⟩ | ⟨rfl,h0,f0,f1⟩ | ⟨rfl,h0,f0,f1⟩ | ⟨rfl,h0,f0,f1⟩ | ⟨rfl,h0⟩ | ⟨rfl,h0,rfl⟩ | ⟨rfl,h0,f0,f1⟩ | ⟨rfl,h0⟩
 ·exact Qfy (s:=s) (G:=G)
 ·obtain⟨v,eg⟩:=Option.isSome_iff_exists.1 (hn rfl)
  have:=Qfv (o:=o) (t:=t) (n:=n) (f:=f) (p:=p) (a:=a) (c:=c) (ks:=ks) hv hx eg
  show Calls _ _ _ _ (OutV w (.ok ((G x).getD 0)))
  rw [eg]
  exact this
 ·exact QfA hv f0 f1
 ·exact Qfz hv f0 zY
 ·exact Qfx (D o zY zY) (KY o.toNat zY zY) (C1 h0 zY zY)
 ·exact Qfw (D o zY zY) (KY o.toNat zY zY) (C2 h0 zY zY)
 ·obtain⟨kb,ko,ea,ha⟩:=HA zY
  exact QcZ (s:=s) (G:=G) (R:=fun i=>(Jq s G ks).getD i (.ok 0)) zY ea (fun i hi=>⟨ha i hi,HK i hi⟩)
 ·exact Qa3 (D 3 zY zY) (KY 3 zY zY) (C1 h0 zY zY)
 ·exact Qa3 (D o zY zY) (KY o.toNat zY zY) (C2 h0 zY zY)
 ·obtain⟨kb,ko,ea,ha⟩:=HA zY
  exact QcY (s:=s) (G:=G) (R:=fun i=>(Jq s G ks).getD i (.ok 0)) zY ea (fun i hi=>⟨ha i hi,HK i hi⟩)
open Go
def arF (L:List (Array Value)) (n j:Nat):Value:=(L.getD (j / n) #[]).getD (j % n) undef
structure RA (W w:yW) (e:TypeId) (n:Nat) (v:Value) (L:List (Array Value)):Prop where
 row:Row w e n v L.length (arF L n)
 nb:∀ k,v.ownBlock=some k→W§≤k
 B:yD W w
 sz:∀ x ∈ L,x.size=n
theorem RA.nil {W w:yW}(h:yD W w) (e:TypeId) (n:Nat):RA W w e n (zO) []:=⟨Row.nil _ _ _ _,fun k h=>by simp [Value.ownBlock] at h,h,fun x hx=>by cases hx⟩
theorem RA.call {W w w':yW}{e:TypeId}{n:Nat}{v:Value}{L:List (Array Value)}(h:RA W w e n v L) (k:yD w w'):RA W w' e n v L :=
 ⟨h.row.of_block (fun b hb=>k.block b (h.row.lt b hb)),h.nb,h.B.trans (k.mono h.B.size),h.sz⟩
theorem RA.hid {W w:yW}{e:TypeId}{n:Nat}{v:Value}{L:List (Array Value)}(h:RA W w e n v L):Hid (RA W w e n v L):=h
theorem Qfl {L:List (Array Value)}{y:Array Value}{n j:Nat}(hn:0 < n) (h:j < L.length * n):arF (L ++ [y]) n j=arF L n j:=by
 have:j / n < L.length:=(Nat.div_lt_iff_lt_mul hn).2 h
 unfold arF
 simp [List.getD,List.getElem?_append_left this]
theorem Qfm {L:List (Array Value)}{y:Array Value}{n j:Nat}(hn:0 < n) (h1:L.length * n≤j) (h2:j < (L.length+1) * n):arF (L ++ [y]) n j=y.getD (j - L.length * n) undef:=by
 obtain⟨k,rfl⟩:∃ k,j=L.length * n+k:=⟨j - L.length * n,by omega⟩
 have hk:k < n:=by rw [Nat.add_mul,Nat.one_mul] at h2;omega
 have e1:(L.length * n+k) / n=L.length:=by rw [Nat.mul_comm,Nat.mul_add_div hn,Nat.div_eq_of_lt hk];omega
 have e2:(L.length * n+k) % n=k:=by rw [Nat.mul_comm,Nat.mul_add_mod,Nat.mod_eq_of_lt hk]
 unfold arF
 rw [e1,e2,Nat.add_sub_cancel_left]
 simp [List.getD]
theorem Vv {W w0:yW}{ops:Array Oper}{rest:List Oper}{o:Oper}{a:Act}{Q:Exit→Act→yW→Prop}(hgd:o.guard=none) (d x:Operand) (t e:TypeId) (n:Nat) (by_:Nat) (z:Value)
  (ho:o.op=.call { callee:=.builtin .append,args:=#[d,x],argTypes:=#[t,t] }) (hu:Tryz.prog.underlying t=some (.slice e)) (hi:(Tryz.prog.info? e).map (fun i=>(i.zero,i.size,i.bytes))=some (some z,n,by_)) (hz:z.cells.size=n) (hb:0 < n) (hn1:n≤100) (hby:by_≤1000)
  (y:Array Value) (hy:y.size=n) (hy1:∀ u ∈ y.toList,u.oneCell'=true) {v:Value}{L:List (Array Value)}(hR:RA W w0 e n v L) (hs:a.eval d=v) (hx:a.eval x=.slice (some w0§¢0) 1 1) (hlen:L.length≤1000000000)
  (h:∀ v' w',RA W w' e n v' (L ++ [y])→w0§≤w'§→(∀ b,b < w0§→v.ownBlock≠some b→w'.heap[b]? = w0.heap[b]?)→(v'.ownBlock=v.ownBlock∨∃ g,v'.ownBlock=some g∧w0§ < g)→wpList zG ops Q rest (a.put o.dst v') w') :
  wpList zG ops Q (o :: rest) a (zA w0 y e):=by
 obtain⟨i0,hi0,hz0,hz1,hz2⟩:=info_parts hi
 refine wpList_append_lies _ hgd d x t ho 0 e i0 _ n by_ hu hi0 hz0 hz1 hz2 hz hb v L.length _ hs (hR.row.alloc _) w0§¢0 1 1 y.toList hx (by rw [Array.length_toList,hy,Nat.one_mul]) (World.news_of_block (Qc w0 _)) hy1 (by decide) (by unfold maxLen;omega) (Nat.le_trans (Nat.mul_le_mul (show L.length+1≤1000000001 by omega) hby) (by decide)) (Nat.zero_le _) _ rfl ?_
 intro g cap w' h2 h3 h4 h5
 have hsz:=Qe w0 (.cells y e)
 have hB0:=hR.B.alloc hR.B.size (.cells y e)
 refine h _ w' ⟨?_,?_,hB0.grown h3 hB0.size (fun k hk=>hR.nb k hk),?_⟩ ?_ ?_ ?_
 ·have hr:=Row.snoc (x:=fun j=>y.getD j undef) h2 (by rw [Array.length_toList,hy]) (fun j hj=>by rw [Array.getElem?_toList,Array.getElem?_eq_getElem zY];simp [show j < y.size by omega])
  rw [List.length_append,List.length_singleton]
  refine hr.congr fun j hj=>?_
  by_cases hh:j < L.length * n
  ·simp only [hh,if_true]
   rw [Qfl hb hh]
  ·simp only [hh,if_false]
   rw [Qfm hb zY hj]
 ·intro k hk
  simp [Value.ownBlock] at hk
  subst hk
  rcases h4 with h4 | h4
  ·exact hR.nb _ h4
  ·have:=hR.B.size;omega
 ·intro q hq
  rcases List.mem_append.1 hq with hq | hq
  ·exact hR.sz q hq
  ·obtain rfl:=List.mem_singleton.1 hq;exact hy
 ·have:=h3.size;omega
 ·intro b hb' hne
  rw [h3.block b zY (fun e=>hne e.symm)]
  exact Below.heap_alloc _ _ _ hb'
 ·rcases h4 with h4 | h4
  ·exact .inl h4.symm
  ·exact .inr ⟨g,rfl,by rw [h4,Qe];omega⟩
theorem RA.sl {W w:yW}{e:TypeId}{n:Nat}{v:Value}{L:List (Array Value)}(h:RA W w e n v L) (hn:0 < n):∃ a c,v=.slice a L.length c∧SlAt w n a c L∧∀ b o,a=some b¢o→W§≤b:=by
 have h':=h.row
 rcases h.row.2 with ⟨rfl,e0⟩ | ⟨g,cap,cur,rfl,_,_,hc1,hc2,_⟩
 ·have:L = []:=List.length_eq_zero_iff.1 e0
  subst this
  exact⟨none,0,rfl,⟨Nat.le_refl _,by decide,fun i hi=>by simp at hi⟩,fun b o h=>by cases h⟩
 ·refine⟨some g¢0,cap,rfl,⟨hc1,hc2,fun i hi=>⟨g,0,rfl,fun j hj=>?_⟩⟩,fun b o h1=>by cases h1;exact h.nb g rfl⟩
  have hij:i * n+j < L.length * n:=by
   have:(i+1) * n≤L.length * n:=Nat.mul_le_mul_right n hi
   rw [Nat.add_mul,Nat.one_mul] at this;omega
  have hc:=Row.cell h' hij
  rw [Nat.zero_add,hc]
  have hs:=h.sz _ (List.getElem_mem hi)
  unfold arF
  rw [show (i * n+j) / n=i by rw [Nat.mul_comm,Nat.mul_add_div hn,Nat.div_eq_of_lt hj];omega,show (i * n+j) % n=j by rw [Nat.mul_comm,Nat.mul_add_mod,Nat.mod_eq_of_lt hj]]
  simp [List.getD,hi,show j < L[i].size by omega]
theorem X0 {W w0:yW}{ops:Array Oper}{o:Oper}{a:Act}{K:Act→yW→Prop}{Q:Exit→Act→yW→Prop}{E:Prop}(hgd:o.guard=none) (d x:Operand) (t e:TypeId) (n:Nat) (by_:Nat) (z:Value)
  (ho:o.op=.call { callee:=.builtin .append,args:=#[d,x],argTypes:=#[t,t] }) (hu:Tryz.prog.underlying t=some (.slice e)) (hi:(Tryz.prog.info? e).map (fun i=>(i.zero,i.size,i.bytes))=some (some z,n,by_)) (hz:z.cells.size=n) (hb:0 < n) (hn1:n≤100) (hby:by_≤1000)
  (y:Array Value) (hy:y.size=n) (hy1:∀ u ∈ y.toList,u.oneCell'=true) {v:Value}{L:List (Array Value)}(hR:RA W w0 e n v L) (hs:a.eval d=v) (hx:a.eval x=.slice (some w0§¢0) 1 1) (hlen:L.length≤1000000000)
  (h:∀ v' w',RA W w' e n v' (L ++ [y])→w0§≤w'§→(∀ b,b < w0§→v.ownBlock≠some b→w'.heap[b]? = w0.heap[b]?)→(v'.ownBlock=v.ownBlock∨∃ g,v'.ownBlock=some g∧w0§ < g)→K (a.put o.dst v') w') :
  if Region.wanted o (yielded ops a.tmps)=true then Oper.wp zG o a (zA w0 y e) K Q else E:=by
 obtain⟨i0,hi0,hz0,hz1,hz2⟩:=info_parts hi
 refine step_append_lies _ hgd d x t ho 0 e i0 _ n by_ hu hi0 hz0 hz1 hz2 hz hb v L.length _ hs (hR.row.alloc _) w0§¢0 1 1 y.toList hx (by rw [Array.length_toList,hy,Nat.one_mul]) (World.news_of_block (Qc w0 _)) hy1 (by decide) (by unfold maxLen;omega) (Nat.le_trans (Nat.mul_le_mul (show L.length+1≤1000000001 by omega) hby) (by decide)) (Nat.zero_le _) _ rfl ?_
 intro g cap w' h2 h3 h4 h5
 have hsz:=Qe w0 (.cells y e)
 have hB0:=hR.B.alloc hR.B.size (.cells y e)
 refine h _ w' ⟨?_,?_,hB0.grown h3 hB0.size (fun k hk=>hR.nb k hk),?_⟩ ?_ ?_ ?_
 ·have hr:=Row.snoc (x:=fun j=>y.getD j undef) h2 (by rw [Array.length_toList,hy]) (fun j hj=>by rw [Array.getElem?_toList,Array.getElem?_eq_getElem zY];simp [show j < y.size by omega])
  rw [List.length_append,List.length_singleton]
  refine hr.congr fun j hj=>?_
  by_cases hh:j < L.length * n
  ·simp only [hh,if_true]
   rw [Qfl hb hh]
  ·simp only [hh,if_false]
   rw [Qfm hb zY hj]
 ·intro k hk
  simp [Value.ownBlock] at hk
  subst hk
  rcases h4 with h4 | h4
  ·exact hR.nb _ h4
  ·have:=hR.B.size;omega
 ·intro q hq
  rcases List.mem_append.1 hq with hq | hq
  ·exact hR.sz q hq
  ·obtain rfl:=List.mem_singleton.1 hq;exact hy
 ·have:=h3.size;omega
 ·intro b hb' hne
  rw [h3.block b zY (fun e=>hne e.symm)]
  exact Below.heap_alloc _ _ _ hb'
 ·rcases h4 with h4 | h4
  ·exact .inl h4.symm
  ·exact .inr ⟨g,rfl,by rw [h4,Qe];omega⟩
section
variable {P : Program} {ops : Array Oper} {Q : Exit → Act → yW → Prop} {md : Region.Mode} {S : yW → Prop} {t : Nat}
def JO (P:Program) (md:Region.Mode) (ops:Array Oper) (Q:Exit→Act→yW→Prop) (S:yW→Prop) (t:Nat):Nat→Array Bool→Act→yW→Prop
 | 0,listed,a,w=>Region.ready md ops listed = []∧Q .normal a w
 | fuel+1,listed,a,w =>
  (Region.ready md ops listed = []→Q .normal a w) ∧
  ∀ i ∈ Region.ready md ops listed,wpOp P ops Q i (fun a' w'=>(i≠t→S w')∧JO P md ops Q S t fuel (listed.setIfInBounds i true) a' w') a w
theorem UW:∀ (fuel:Nat) (listed:Array Bool) (a:Act) (w:yW),JO P md ops Q S t fuel listed a w→wpAny P md ops Q fuel listed a w
 | 0,_,_,_,h=>h
 | fuel+1,_,_,_,h=>⟨h.1,fun i hi=>wpOp_mono (fun a' w' h'=>UW fuel _ a' w' h'.2) (h.2 i hi)⟩
def QcW (md:Region.Mode) (ops:Array Oper) (t i:Nat):Bool:=match ops[t]? with
 | some o=>o.after.toList.any (fun e=>Region.binds md e && e.on == i)
 | none=>true
theorem Hf {i:Nat}{oi:Oper}{v:Value}(hi:ops[i]? = some oi) (hsel:∀ (j:Nat) (o:Oper) cs b,ops[j]? = some o→o.op≠.select cs b)
  (hQ:∀ c a w,Q (.panic c) (a.put oi.dst v) w→Q (.panic c) a w) (hw:QcW md ops t i=true) :
  ∀ (fuel:Nat) (listed:Array Bool) (a:Act) (w:yW),
   (∀ j oj,ops[j]? = some oj→j≠i→listed.getD j true=false→(∀ e ∈ oj.after,Region.binds md e=true→e.on≠i)→oi.apart ops oj=true) →
   i ∈ Region.ready md ops listed→YieldsIf P ops S oi v a→S w →
   JO P md ops Q S t fuel (listed.setIfInBounds i true) (a.put oi.dst v) w→JO P md ops Q S t (fuel+1) listed a w:=by
 intro fuel
 induction fuel with
 | zero =>
  intro listed a w _ hr hy hS H
  refine⟨fun h=>(by rw [h] at hr;cases hr),fun j hj=>?_⟩
  by_cases hji:j=i
  ·subst hji;exact hy.wpOp hi hS ⟨fun _=>hS,H⟩
  ·have:=ready_mono hj hji
   rw [H.1] at this
   cases this
 | succ fuel ih =>
  intro listed a w hfree hr hy hS H
  refine⟨fun h=>(by rw [h] at hr;cases hr),fun j hj=>?_⟩
  by_cases hji:j=i
  ·subst hji;exact hy.wpOp hi hS ⟨fun _=>hS,H⟩
  ·have h1:=H.2 j (ready_mono hj hji)
   obtain⟨hjun,oj,hoj,hall⟩:=mem_ready.1 hj
   have hnot:∀ e ∈ oj.after,Region.binds md e=true→e.on≠i:=fun e he hb heq=>by
    have h1:=hall e he hb
    have h0:=(mem_ready.1 hr).1
    rw [heq] at h1
    rcases Nat.lt_or_ge i listed.size with h' | h'
    ·simp [h'] at h0 h1;rw [h0] at h1;cases h1
    ·simp [Array.getElem?_eq_none h'] at h1
   have hjt:j≠t:=by
    rintro rfl
    unfold QcW at hw
    rw [hoj] at hw
    simp only [List.any_eq_true,Bool.and_eq_true,beq_iff_eq] at hw
    obtain⟨e,he,hb,ho⟩:=hw
    exact hnot e (Array.mem_toList_iff.1 he) hb ho
   have h2:=wpOp_putIf hoj (hfree j oj hoj hji hjun hnot) (fun cs b=>hsel i oi cs b hi) (fun cs b=>hsel j oj cs b hoj) hQ hy h1
   have hfree':∀ k ok,ops[k]? = some ok→k≠i→(listed.setIfInBounds j true).getD k true=false →
     (∀ e ∈ ok.after,Region.binds md e=true→e.on≠i)→oi.apart ops ok=true:=fun k ok hk hki hun hno=>by
    refine hfree k ok hk hki ?_ hno
    by_cases hjk:j=k
    ·subst hjk;exact hjun
    ·rw [getD_set_ne true hjk] at hun;exact hun
   refine wpOp_mono (fun a' w' h3=>⟨fun _=>h3.2.1 hjt,ih (listed.setIfInBounds j true) a' w' hfree' (ready_mono hr (Ne.symm hji)) h3.1 (h3.2.1 hjt) ?_⟩) h2
   rw [Array.setIfInBounds_comm _ _ hji]
   exact h3.2.2
theorem QJ {i:Nat}{oi:Oper}{v:Value}{fuel:Nat}{listed:Array Bool}{a:Act}{w:yW}(hi:ops[i]? = some oi)
  (hs:Region.noSelect ops=true) (hf:Region.free md ops listed i=true) (hr:(Region.ready md ops listed).contains i=true) (hw:QcW md ops t i=true)
  (hQ:∀ c a w,Q (.panic c) (a.put oi.dst v) w→Q (.panic c) a w) (hy:YieldsIf P ops S oi v a) (hS:S w)
  (h:JO P md ops Q S t fuel (listed.setIfInBounds i true) (a.put oi.dst v) w):JO P md ops Q S t (fuel+1) listed a w :=
 Hf hi (Region.noSelect_spec hs) hQ hw fuel listed a w (Region.free_spec hi hf) (by simpa using hr) hy hS h
scoped notation "zTd" k:max x:max => QJ (i := k) (v := ?_) rfl zK zK zK zK (fun c a w h => Go.RowKit.Hid.out x c _ _ a w h) (Or.inl (And.intro (by rfl) ?_)) (by assumption) ?_
scoped notation "zTf" k:max => QJ (i := k) (v := ?_) rfl zK zK zK zK (fun _ _ _ h => h) (Or.inl (And.intro (by rfl) ?_)) (by assumption) ?_
scoped notation "zTe" k:max x:max y:max => QJ (i := k) (v := _) rfl zK zK zK zK (fun c a w h => Go.RowKit.Hid.out x c _ _ a w h) y (by assumption) ?_
theorem QB {listed:Array Bool}{a:Act}{w:yW}(hr:Region.ready md ops listed = []) (h:Q .normal a w) :
  ∀ fuel,JO P md ops Q S t fuel listed a w
 | 0=>⟨hr,h⟩
 | _+1=>⟨fun _=>h,by rw [hr];simp⟩
theorem Qh {i:Nat}{o:Oper}{fuel:Nat}{listed:Array Bool}{a:Act}{w:yW}(hr:Region.ready md ops listed = [i]) (ho:ops[i]? = some o)
  (h:∀ K':Act→yW→Prop,Shut (∀ a w,(i≠t→S w)→JO P md ops Q S t fuel (listed.setIfInBounds i true) a w→K' a w)→if Region.wanted o (yielded ops a.tmps)=true then Oper.wp P o a w K' Q else K' (a.put o.dst undef) w) :
  JO P md ops Q S t (fuel+1) listed a w :=
 ⟨fun h0=>absurd (hr ▸ h0) (by simp),fun j hj=>by
  rw [hr] at hj
  obtain rfl:=List.mem_singleton.1 hj
  exact wpOp_step ho (fun K' hK=>h K' (fun a w hS hW=>hK a w ⟨hS,hW⟩))⟩
theorem QA {id:Nat}{a:Act}{w:yW}(hm:P.follows .mixedOrders=true) (hS:S w.drew)
  (h:S w.drew→JO P .any ops Q S t ops.size (Array.replicate ops.size false) a w.drew):(Code.region id ops true).wp P Q a w :=
 wp_region_any hm (UW _ _ _ _ (h hS))
end
end Go.Proofs.YtfbjofnaghjmeaaGreatDoor
