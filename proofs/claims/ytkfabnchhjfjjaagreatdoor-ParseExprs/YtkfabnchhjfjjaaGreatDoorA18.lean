import Derived.Test.YtkfabnchhjfjjaaGreatDoorA0
import Derived.Test.YtkfabnchhjfjjaaGreatDoorA17
import Derived.Test.YtkfabnchhjfjjaaGreatDoorA6
import Derived.Deep.QuietTactic
import Derived.Deep.RegionHeld3
import Derived.BigQuiet
namespace Go.Proofs.YtkfabnchhjfjjaaGreatDoor
open Go.RowKit Go.Extern.Stop Go.Stop Go.Extern
set_option maxRecDepth 100000 in
theorem errnoIn_any {w : World} {v : Value} {n p : Int} (h : Er w v n p) (hg : Ety w) :
  Calls zG 30 #[v] w fun e w' => e = .returned (zI n) ∧ Below w§ w w' := by
 have b1 := below_new w (.cells #[zI 0] 48)
 have n1 := heap_new w (.cells #[zI 0] 48)
 have HB1 : Hid (Below w§ w (w.alloc (.cells #[zI 0] 48))) := b1
 have s1 := size_alloc w (.cells #[zI 0] 48)
 have cA := as49E_any (h.on b1) (hg.on b1) ⟨w§,0,none⟩ _ (cell_of n1 0) (frozen_of n1 0)
 have HN : Hid ((w.alloc (.cells #[zI 0] 48)).heap[w§]? = some (.cells #[zI 0] 48) ∧ (w.alloc (.cells #[zI 0] 48))§ = w§ + 1) := ⟨n1,s1⟩
 obtain ⟨T,x,rfl⟩ := h.face
 clear b1 n1 s1 h hg
 go_enter Tryz.func30,Tryz.ntmps30
 go_wp2_with fail
 refine cA.mono ?_
 rintro e w1 ⟨b,rfl,hh⟩
 clear cA
 rcases hh with ⟨rfl,V,hV,eV⟩ | ⟨rfl,hn,hV⟩
 ·have hv : V.heap[w§]? = some (.cells #[zI 0] 48 (0,0)) := (hV.block _ (by rw [HN.out.2]; omega)).trans HN.out.1
  have c1 : w1.cell? ⟨w§,0,none⟩ = some (zI n) := by
   rw [eV]; exact cell_of (heap_set (j := 0) (zI n) hv) 0
  have HB : Hid (Below w§ w w1) := by
   show Below _ _ _
   rw [eV]
   exact ((Mv.ofBelow (below2 HB1.out hV)).setCell (F := fun _ => False) (a := ⟨w§,0,none⟩) (.inr (Nat.le_refl _)) _).toBelow
  clear hv hV eV HN HB1
  go_wp2_with fail
  go_ret
  exact ⟨rfl,HB.out⟩
 ·have HB : Hid (Below w§ w w1) := below2 HB1.out hV
  subst hn
  clear hV HN HB1
  go_wp2_with fail
  go_ret
  exact ⟨rfl,HB.out⟩
set_option maxRecDepth 100000 in
theorem placeIn_any {w : World} {v : Value} {n p : Int} (h : Er w v n p) (hg : Ety w) :
  Calls zG 31 #[v] w fun e w' => e = .returned (zI p) ∧ Below w§ w w' := by
 have b1 := below_new w (.cells #[.pointer none] 74)
 have n1 := heap_new w (.cells #[.pointer none] 74)
 have HB1 : Hid (Below w§ w (w.alloc (.cells #[.pointer none] 74))) := b1
 have s1 := size_alloc w (.cells #[.pointer none] 74)
 have cA := asF1_any (h.on b1) (hg.on b1) ⟨w§,0,none⟩ _ (cell_of n1 0) (frozen_of n1 0)
 have HN : Hid ((w.alloc (.cells #[.pointer none] 74)).heap[w§]? = some (.cells #[.pointer none] 74) ∧ (w.alloc (.cells #[.pointer none] 74))§ = w§ + 1) := ⟨n1,s1⟩
 obtain ⟨T,x,rfl⟩ := h.face
 clear b1 n1 s1 h hg
 go_enter Tryz.func31,Tryz.ntmps31
 go_wp2_with fail
 refine cA.mono ?_
 rintro e w1 ⟨b,rfl,hh⟩
 clear cA
 rcases hh with ⟨rfl,F,c,er,hF,V,hV,eV⟩ | ⟨rfl,hn,hV⟩
 ·have hv : V.heap[w§]? = some (.cells #[.pointer none] 74 (0,0)) := (hV.block _ (by rw [HN.out.2]; omega)).trans HN.out.1
  have c1 : w1.cell? ⟨w§,0,none⟩ = some (zP F) := by
   rw [eV]; exact cell_of (heap_set (j := 0) (zP F) hv) 0
  have hF' : V.heap[F]? = some (.cells #[.string c,zI p,er] 76 (0,0)) := (hV.block _ (Array.getElem?_eq_some_iff.1 hF).1).trans hF
  have c2 : w1.cell? ⟨F,1,none⟩ = some (zI p) := by
   rw [eV]
   refine cell_of ((Below.heap_setCell V ⟨w§,0,none⟩ (zP F) F ?_).trans hF') 1
   intro e
   have e' : F = w§ := e
   rw [e',hv] at hF'
   cases hF'
  have HB : Hid (Below w§ w w1) := by
   show Below _ _ _
   rw [eV]
   exact ((Mv.ofBelow (below2 HB1.out hV)).setCell (F := fun _ => False) (a := ⟨w§,0,none⟩) (.inr (Nat.le_refl _)) _).toBelow
  clear hv hV eV HN HB1 hF hF'
  go_wp2_with fail
  go_ret
  exact ⟨rfl,HB.out⟩
 ·have HB : Hid (Below w§ w w1) := below2 HB1.out hV
  subst hn
  clear hV HN HB1
  go_wp2_with fail
  go_ret
  exact ⟨rfl,HB.out⟩
set_option maxRecDepth 100000 in
theorem wrong_any {w : World} {v : Value} {n p : Int} (h : Er w v n p) (hg : Ety w) :
  Calls zG 12 #[v] w fun e w' => e = .returned (.tuple #[zI n,zI p]) ∧ Below w§ w w' := by
 have cE := errnoIn_any h hg
 have HE : Hid (Er w v n p ∧ Ety w) := ⟨h,hg⟩
 obtain ⟨T,x,rfl⟩ := h.face
 clear h hg
 go_enter Tryz.func12,Tryz.ntmps12
 go_wp2_with fail
 refine cE.mono ?_
 rintro e w1 ⟨rfl,hb⟩
 have HB : Hid (Below w§ w w1) := hb
 have cP := placeIn_any (HE.out.1.on hb) (HE.out.2.on hb)
 clear cE hb
 go_wp2_with fail
 refine cP.mono ?_
 rintro e w2 ⟨rfl,hb⟩
 have HB2 : Hid (Below w§ w w2) := below2 HB.out hb
 clear cP hb
 go_wp2_with fail
 exact bodyPost_ret (results_t2 (p := 2) (u := 3) rfl _ _) rfl ⟨rfl,HB2.out⟩
set_option maxRecDepth 100000 in
theorem wrong_nil (w : World) :
  Calls zG 12 #[.nilIface] w fun e w' => e = .returned (.tuple #[zI 0,zI 0]) ∧ w' = w := by
 go_enter Tryz.func12,Tryz.ntmps12
 go_wp2_with fail
 exact bodyPost_ret (results_t2 (p := 2) (u := 3) rfl _ _) rfl ⟨rfl,rfl⟩
structure PK where
 a : Option Addr
 c : Nat
 T : List Tk
 be : Int
 ba : Int
 lg : Bool
structure Pr (w : World) (b : Nat) (K : PK) (i : Nat) (e p : Int) (t : Bool) : Prop where
 h : w.heap[b]? = some (.cells #[.slice K.a K.T.length K.c,zI K.be,zI K.ba,zI i,zI e,zI p,.bool t] 96 (0,0))
 l : i ≤ K.T.length
 m : K.T.length ≤ 1000000
 z : K.lg = true → e = 110 ∧ p = 0 ∧ t = true
 r : ∀ j (hj : j < K.T.length),∃ G o,K.a = some ⟨G,o,none⟩ ∧ G ≠ b ∧ TkC w G (o + j * 5) K.T[j]
theorem Pr.hid {w : World} {b : Nat} {K : PK} {i : Nat} {e p : Int} {t : Bool} (h : Pr w b K i e p t) : Hid (Pr w b K i e p t) := h
theorem Pr.lt {w : World} {b : Nat} {K : PK} {i : Nat} {e p : Int} {t : Bool} (h : Pr w b K i e p t) : b < w§ := (Array.getElem?_eq_some_iff.1 h.h).1
theorem Pr.new {w w' : World} {b : Nat} {K : PK} {i : Nat} {e p : Int} {t : Bool} (h : Pr w b K i e p t) (k : ∀ c,c ≠ b → c < w§ → w'.heap[c]? = w.heap[c]?) {i' : Nat} {e' p' : Int} {t' : Bool} (hl : i' ≤ K.T.length) (hz : K.lg = true → e' = 110 ∧ p' = 0 ∧ t' = true) (hh : w'.heap[b]? = some (.cells #[.slice K.a K.T.length K.c,zI K.be,zI K.ba,zI i',zI e',zI p',.bool t'] 96 (0,0))) : Pr w' b K i' e' p' t' :=
 ⟨hh,hl,h.m,hz,fun j hj => by
  obtain ⟨G,o,e,hn,ht⟩ := h.r j hj
  exact ⟨G,o,e,hn,ht.blk (k G hn ht.lt)⟩⟩
theorem Pr.on {w w' : World} {b : Nat} {K : PK} {i : Nat} {e p : Int} {t : Bool} (h : Pr w b K i e p t) (k : Below w§ w w') : Pr w' b K i e p t :=
 h.new (fun c _ hc => k.block c hc) h.l h.z ((k.block b h.lt).trans h.h)
theorem Pr.blk {w w' : World} {b : Nat} {K : PK} {i : Nat} {e p : Int} {t : Bool} (h : Pr w b K i e p t) (k : ∀ c,c < w§ → w'.heap[c]? = w.heap[c]?) : Pr w' b K i e p t :=
 h.new (fun c _ hc => k c hc) h.l h.z ((k b h.lt).trans h.h)
def Lv (w : World) (b : Nat) (K : PK) (ts : List Tk) : Prop := ∃ i p t,Pr w b K i 0 p t ∧ ts = K.T.drop i
def Dd (w : World) (b : Nat) (K : PK) : Ft → Prop
 | .tok no p => ∃ i,Pr w b K i no p false ∧ no ≠ 0
 | .lex => ∃ e p t,Pr w b K K.T.length e p t ∧ (e = 0 ∨ (e = K.be ∧ p = K.ba ∧ t = true) ∨ K.lg = true)
theorem Lv.hid {w : World} {b : Nat} {K : PK} {ts : List Tk} (h : Lv w b K ts) : Hid (Lv w b K ts) := h
theorem Dd.hid {w : World} {b : Nat} {K : PK} {f : Ft} (h : Dd w b K f) : Hid (Dd w b K f) := h
theorem Lv.on {w w' : World} {b : Nat} {K : PK} {ts : List Tk} (h : Lv w b K ts) (k : Below w§ w w') : Lv w' b K ts := by
 obtain ⟨i,p,t,h1,h2⟩ := h
 exact ⟨i,p,t,h1.on k,h2⟩
theorem Dd.on {w w' : World} {b : Nat} {K : PK} {f : Ft} (h : Dd w b K f) (k : Below w§ w w') : Dd w' b K f := by
 cases f with
 | tok no p => obtain ⟨i,h1,h2⟩ := h; exact ⟨i,h1.on k,h2⟩
 | lex => obtain ⟨e,p,t,h1,h2⟩ := h; exact ⟨e,p,t,h1.on k,h2⟩
theorem Lv.blk {w w' : World} {b : Nat} {K : PK} {ts : List Tk} (h : Lv w b K ts) (k : ∀ c,c < w§ → w'.heap[c]? = w.heap[c]?) : Lv w' b K ts := by
 obtain ⟨i,p,t,h1,h2⟩ := h
 exact ⟨i,p,t,h1.blk k,h2⟩
theorem Dd.blk {w w' : World} {b : Nat} {K : PK} {f : Ft} (h : Dd w b K f) (k : ∀ c,c < w§ → w'.heap[c]? = w.heap[c]?) : Dd w' b K f := by
 cases f with
 | tok no p => obtain ⟨i,h1,h2⟩ := h; exact ⟨i,h1.blk k,h2⟩
 | lex => obtain ⟨e,p,t,h1,h2⟩ := h; exact ⟨e,p,t,h1.blk k,h2⟩
theorem Lv.lt {w : World} {b : Nat} {K : PK} {ts : List Tk} (h : Lv w b K ts) : b < w§ := by
 obtain ⟨i,p,t,h1,h2⟩ := h
 exact h1.lt
theorem Dd.lt {w : World} {b : Nat} {K : PK} {f : Ft} (h : Dd w b K f) : b < w§ := by
 cases f with
 | tok no p => obtain ⟨i,h1,h2⟩ := h; exact h1.lt
 | lex => obtain ⟨e,p,t,h1,h2⟩ := h; exact h1.lt
theorem Lv.end {w : World} {b : Nat} {K : PK} (h : Lv w b K []) : Dd w b K .lex := by
 obtain ⟨i,p,t,h1,h2⟩ := h
 have hl := h1.l
 have : i = K.T.length := by
  have := congrArg List.length h2
  simp at this
  omega
 subst this
 exact ⟨0,p,t,h1,.inl rfl⟩
set_option maxRecDepth 100000 in
theorem over_no {w : World} {b : Nat} {K : PK} {i : Nat} {p : Int} {t : Bool} (h : Pr w b K i 0 p t) :
  Calls zG 29 #[zP b] w fun e w' => e = .returned (.bool false) ∧ w' = w := by
 have c4 : w.cell? ⟨b,4,none⟩ = some (zI 0) := cell_of h.h 4
 clear h
 go_enter Tryz.func29,Tryz.ntmps29
 go_wp2_with fail
 go_ret
 exact ⟨rfl,rfl⟩
set_option maxRecDepth 100000 in
theorem over_yes {w : World} {b : Nat} {K : PK} {i : Nat} {e p : Int} {t : Bool} (h : Pr w b K i e p t) (he : e ≠ 0) :
  Calls zG 29 #[zP b] w fun e w' => e = .returned (.bool true) ∧ w' = w := by
 have c4 : w.cell? ⟨b,4,none⟩ = some (zI e) := cell_of h.h 4
 clear h
 go_enter Tryz.func29,Tryz.ntmps29
 go_wp2_with fail
 go_ret
 exact ⟨by show Ending.returned (.bool (e != 0)) = _; rw [bne_iff_ne.2 he],rfl⟩
set_option maxRecDepth 100000 in
theorem now_over {w : World} {b : Nat} {K : PK} {i : Nat} {e p : Int} {t : Bool} (h : Pr w b K i e p t) (he : e ≠ 0) :
  Calls zG 92 #[zP b] w fun e w' => e = .returned (.agg (tkA tk0)) ∧ Below w§ w w' := by
 have HP := (h.on (below_new w (.cells (tkA tk0) 82))).hid
 have HB : Hid (Below w§ w (w.alloc (.cells (tkA tk0) 82))) := below_new _ _
 have HN : Hid ((w.alloc (.cells (tkA tk0) 82)).heap[w§]? = some (.cells (tkA tk0) 82 (0,0))) := heap_new _ _
 clear h
 unfold tkA tk0 at HP HB HN
 go_enter Tryz.func92,Tryz.ntmps92
 go_upto_region 1 with fail
 obtain ⟨W,eW⟩ : ∃ W,w.alloc (.cells #[zU 0,.string ⟨#[]⟩,zU 0,zI 0,zI 0] 82) = W := ⟨_,rfl⟩
 rw [eW] at HP HB HN ⊢
 clear eW
 go_quiet ((go_at_call 29; refine Calls.quiet_of_same (over_yes (HP.out.blk (fun _ _ => rfl)) he)))
 obtain ⟨V,eV⟩ : ∃ V,W.drewN nq = V := ⟨_,rfl⟩
 have hV0 : V.heap[w§]? = some (.cells #[zU 0,.string ⟨#[]⟩,zU 0,zI 0,zI 0] 82 (0,0)) := by rw [← eV]; exact HN.out
 have HBV : Hid (Below w§ w V) := by
  have h1 := HB.out
  rw [← eV]
  exact ⟨h1.os,h1.tape,h1.output,h1.size,h1.block⟩
 rw [eV]
 clear eV HP
 have z0 : V.cell? ⟨w§,0,none⟩ = some (zU 0) := cell_of hV0 0
 have q0 : V.frozen? ⟨w§,0,none⟩ = false := frozen_of hV0 0
 have z1 : V.cell? ⟨w§,1,none⟩ = some (.string ⟨#[]⟩) := cell_of hV0 1
 have q1 : V.frozen? ⟨w§,1,none⟩ = false := frozen_of hV0 1
 have z2 : V.cell? ⟨w§,2,none⟩ = some (zU 0) := cell_of hV0 2
 have q2 : V.frozen? ⟨w§,2,none⟩ = false := frozen_of hV0 2
 have z3 : V.cell? ⟨w§,3,none⟩ = some (zI 0) := cell_of hV0 3
 have q3 : V.frozen? ⟨w§,3,none⟩ = false := frozen_of hV0 3
 have z4 : V.cell? ⟨w§,4,none⟩ = some (zI 0) := cell_of hV0 4
 have q4 : V.frozen? ⟨w§,4,none⟩ = false := frozen_of hV0 4
 have HV0 := hV0
 clear hV0
 have HV0 : Hid (V.heap[w§]? = some (.cells #[zU 0,.string ⟨#[]⟩,zU 0,zI 0,zI 0] 82 (0,0))) := HV0
 go_wp2_with fail
 exact bodyPost_ret (results_cell_row rfl _ _ w§ 82 (tkA tk0) (0,0) _ rfl (put5 HV0.out _ _ _ _ _) Tryz.underlying82 rfl zK) rfl ⟨rfl,(mv5 (F := fun _ => False) (Mv.ofBelow HBV.out) (Nat.le_refl _) _ _ _ _ _).below (Nat.le_refl _) (fun _ e => e.elim)⟩
set_option maxRecDepth 100000 in
theorem now_none {w : World} {b : Nat} {K : PK} {p : Int} {t : Bool} (h : Pr w b K K.T.length 0 p t) :
  Calls zG 92 #[zP b] w fun e w' => e = .returned (.agg (tkA tk0)) ∧ Below w§ w w' := by
 have HP := (h.on (below_new w (.cells (tkA tk0) 82))).hid
 have HB : Hid (Below w§ w (w.alloc (.cells (tkA tk0) 82))) := below_new _ _
 have HN : Hid ((w.alloc (.cells (tkA tk0) 82)).heap[w§]? = some (.cells (tkA tk0) 82 (0,0))) := heap_new _ _
 clear h
 unfold tkA tk0 at HP HB HN
 go_enter Tryz.func92,Tryz.ntmps92
 go_upto_region 1 with fail
 obtain ⟨W,eW⟩ : ∃ W,w.alloc (.cells #[zU 0,.string ⟨#[]⟩,zU 0,zI 0,zI 0] 82) = W := ⟨_,rfl⟩
 rw [eW] at HP HB HN ⊢
 clear eW
 have c0 : W.cell? ⟨b,0,none⟩ = some (.slice K.a K.T.length K.c) := cell_of HP.out.h 0
 have c3 : W.cell? ⟨b,3,none⟩ = some (zI K.T.length) := cell_of HP.out.h 3
 go_quiet ((go_at_call 29; refine Calls.quiet_of_same (over_no (HP.out.blk (fun _ _ => rfl)))))
 obtain ⟨V,eV⟩ : ∃ V,W.drewN nq = V := ⟨_,rfl⟩
 have hV0 : V.heap[w§]? = some (.cells #[zU 0,.string ⟨#[]⟩,zU 0,zI 0,zI 0] 82 (0,0)) := by rw [← eV]; exact HN.out
 have HBV : Hid (Below w§ w V) := by
  have h1 := HB.out
  rw [← eV]
  exact ⟨h1.os,h1.tape,h1.output,h1.size,h1.block⟩
 rw [eV]
 clear eV HP c0 c3
 have z0 : V.cell? ⟨w§,0,none⟩ = some (zU 0) := cell_of hV0 0
 have q0 : V.frozen? ⟨w§,0,none⟩ = false := frozen_of hV0 0
 have z1 : V.cell? ⟨w§,1,none⟩ = some (.string ⟨#[]⟩) := cell_of hV0 1
 have q1 : V.frozen? ⟨w§,1,none⟩ = false := frozen_of hV0 1
 have z2 : V.cell? ⟨w§,2,none⟩ = some (zU 0) := cell_of hV0 2
 have q2 : V.frozen? ⟨w§,2,none⟩ = false := frozen_of hV0 2
 have z3 : V.cell? ⟨w§,3,none⟩ = some (zI 0) := cell_of hV0 3
 have q3 : V.frozen? ⟨w§,3,none⟩ = false := frozen_of hV0 3
 have z4 : V.cell? ⟨w§,4,none⟩ = some (zI 0) := cell_of hV0 4
 have q4 : V.frozen? ⟨w§,4,none⟩ = false := frozen_of hV0 4
 have HV0 := hV0
 clear hV0
 have HV0 : Hid (V.heap[w§]? = some (.cells #[zU 0,.string ⟨#[]⟩,zU 0,zI 0,zI 0] 82 (0,0))) := HV0
 go_wp2_with fail
 exact bodyPost_ret (results_cell_row rfl _ _ w§ 82 (tkA tk0) (0,0) _ rfl (put5 HV0.out _ _ _ _ _) Tryz.underlying82 rfl zK) rfl ⟨rfl,(mv5 (F := fun _ => False) (Mv.ofBelow HBV.out) (Nat.le_refl _) _ _ _ _ _).below (Nat.le_refl _) (fun _ e => e.elim)⟩
set_option maxRecDepth 100000 in
theorem now_live {w : World} {b : Nat} {K : PK} {i : Nat} {p : Int} {t : Bool} {tk : Tk} (h : Pr w b K i 0 p t) (hg : K.T[i]? = some tk) :
  Calls zG 92 #[zP b] w fun e w' => e = .returned (.agg (tkA tk)) ∧ Below w§ w w' := by
 obtain ⟨hi,etk⟩ := List.getElem?_eq_some_iff.1 hg
 clear hg
 obtain ⟨G,o,ea,hn,ht⟩ := h.r i hi
 rw [etk] at ht
 have hGw := ht.lt
 have hbw := h.lt
 have HTK : Hid (TkC w G (o + i * 5) tk) := ht
 clear ht etk
 have HP := (h.on (below_new w (.cells (tkA tk0) 82))).hid
 have HB : Hid (Below w§ w (w.alloc (.cells (tkA tk0) 82))) := below_new _ _
 have HN : Hid ((w.alloc (.cells (tkA tk0) 82)).heap[w§]? = some (.cells (tkA tk0) 82 (0,0))) := heap_new _ _
 clear h
 unfold tkA tk0 at HP HB HN
 go_enter Tryz.func92,Tryz.ntmps92
 go_upto_region 1 with fail
 obtain ⟨W,eW⟩ : ∃ W,w.alloc (.cells #[zU 0,.string ⟨#[]⟩,zU 0,zI 0,zI 0] 82) = W := ⟨_,rfl⟩
 rw [eW] at HP HB HN ⊢
 clear eW
 have c0 : W.cell? ⟨b,0,none⟩ = some (.slice K.a K.T.length K.c) := cell_of HP.out.h 0
 have c3 : W.cell? ⟨b,3,none⟩ = some (zI i) := cell_of HP.out.h 3
 have hd : ¬ (K.T.length : Int) ≤ (i : Int) := by omega
 have hd' : decide ((K.T.length : Int) ≤ (i : Int)) = false := decide_eq_false hd
 go_quiet ((go_at_call 29; refine Calls.quiet_of_same (over_no (HP.out.blk (fun _ _ => rfl)))))
 obtain ⟨V,eV⟩ : ∃ V,W.drewN nq = V := ⟨_,rfl⟩
 have hV0 : V.heap[w§]? = some (.cells #[zU 0,.string ⟨#[]⟩,zU 0,zI 0,zI 0] 82 (0,0)) := by rw [← eV]; exact HN.out
 have HBV : Hid (Below w§ w V) := by
  have h1 := HB.out
  rw [← eV]
  exact ⟨h1.os,h1.tape,h1.output,h1.size,h1.block⟩
 rw [eV]
 clear c0 c3
 have HPV := (HP.out.blk (w' := V) (fun _ _ => by rw [← eV]; rfl)).hid
 clear eV HP
 obtain ⟨y0,y1,y2,y3,y4⟩ := HTK.out.blk (HBV.out.block G hGw)
 have c0 : V.cell? ⟨b,0,none⟩ = some (.slice (some ⟨G,o,none⟩) K.T.length K.c) := by rw [← ea]; exact cell_of HPV.out.h 0
 have c3 : V.cell? ⟨b,3,none⟩ = some (zI i) := cell_of HPV.out.h 3
 have hi' : (i : Int) < (K.T.length : Int) := by omega
 clear ea
 go_upto_region 3 with fail
 have HKP : Hid (∀ v,Mv V v (fun k => k = w§) → v.cell? ⟨b,0,none⟩ = some (.slice (some ⟨G,o,none⟩) K.T.length K.c) ∧ v.cell? ⟨b,3,none⟩ = some (zI i) ∧ v.cell? ⟨G,o + i * 5,none⟩ = some (zU tk.k) ∧ v.cell? ⟨G,o + i * 5 + 1,none⟩ = some (.string tk.x) ∧ v.cell? ⟨G,o + i * 5 + 2,none⟩ = some (zU tk.ty) ∧ v.cell? ⟨G,o + i * 5 + 3,none⟩ = some (zI tk.n) ∧ v.cell? ⟨G,o + i * 5 + 4,none⟩ = some (zI tk.p)) := fun v hv => by
  have h0 := hv.block b (World.block_lt_of_cell? V _ c0) (by omega)
  have h1 := hv.block G (World.block_lt_of_cell? V _ y0) (by omega)
  exact ⟨(World.cell?_of_block h0).trans c0,(World.cell?_of_block h0).trans c3,(World.cell?_of_block h1).trans y0,(World.cell?_of_block h1).trans y1,(World.cell?_of_block h1).trans y2,(World.cell?_of_block h1).trans y3,(World.cell?_of_block h1).trans y4⟩
 clear c0 c3 y0 y1 y2 y3 y4
 have HW : Hid (V.heap[w§]? = some (.cells #[zU 0,.string ⟨#[]⟩,zU 0,zI 0,zI 0] 82 (0,0))) := hV0
 clear hV0
 refine wp_region_held_drew (S := fun v => Mv V v (fun k => k = w§)) zK ((Mv.refl _ _).drew) (fun hHeld => ?_)
 refine wpAnyH_take (i := 0) (v := ?_) rfl zK zK zK (fun _ _ _ h => h) (Or.inl ⟨by rfl,?_⟩) (by assumption) ?_
 rotate_left
 ·(intro v hv; obtain ⟨c0,c3,y0,y1,y2,y3,y4⟩ := HKP.out v hv; go_simp; try (with_reducible rfl))
 try simp [Act.put]
 refine wpAnyH_take (i := 1) (v := ?_) rfl zK zK zK (fun _ _ _ h => h) (Or.inl ⟨by rfl,?_⟩) (by assumption) ?_
 rotate_left
 ·(intro v hv; obtain ⟨c0,c3,y0,y1,y2,y3,y4⟩ := HKP.out v hv; go_simp; try (with_reducible rfl))
 try simp [Act.put]
 refine wpAnyH_take (i := 2) (v := ?_) rfl zK zK zK (fun _ _ _ h => h) (Or.inl ⟨by rfl,?_⟩) (by assumption) ?_
 rotate_left
 ·(intro v hv; obtain ⟨c0,c3,y0,y1,y2,y3,y4⟩ := HKP.out v hv; go_simp; try (with_reducible rfl))
 try simp [Act.put]
 refine wpAnyH_take (i := 3) (v := ?_) rfl zK zK zK (fun _ _ _ h => h) (Or.inl ⟨by rfl,?_⟩) (by assumption) ?_
 rotate_left
 ·(intro v hv; obtain ⟨c0,c3,y0,y1,y2,y3,y4⟩ := HKP.out v hv; go_simp; try (with_reducible rfl))
 try simp [Act.put]
 refine wpAnyH_take (i := 4) (v := ?_) rfl zK zK zK (fun _ _ _ h => h) (Or.inl ⟨by rfl,?_⟩) (by assumption) ?_
 rotate_left
 ·(intro v hv; obtain ⟨c0,c3,y0,y1,y2,y3,y4⟩ := HKP.out v hv; go_simp; try (with_reducible rfl))
 try simp [Act.put]
 refine wpAnyH_take (i := 5) (v := ?_) rfl zK zK zK (fun _ _ _ h => h) (Or.inl ⟨by rfl,?_⟩) (by assumption) ?_
 rotate_left
 ·(intro v hv; obtain ⟨c0,c3,y0,y1,y2,y3,y4⟩ := HKP.out v hv; go_simp; try (with_reducible rfl))
 try simp [Act.put]
 refine wpAnyH_take (i := 6) (v := ?_) rfl zK zK zK (fun _ _ _ h => h) (Or.inl ⟨by rfl,?_⟩) (by assumption) ?_
 rotate_left
 ·(intro v hv; obtain ⟨c0,c3,y0,y1,y2,y3,y4⟩ := HKP.out v hv; go_simp; try (with_reducible rfl))
 try simp [Act.put]
 refine wpAnyH_take (i := 7) (v := ?_) rfl zK zK zK (fun _ _ _ h => h) (Or.inl ⟨by rfl,?_⟩) (by assumption) ?_
 rotate_left
 ·(intro v hv; obtain ⟨c0,c3,y0,y1,y2,y3,y4⟩ := HKP.out v hv; go_simp; try (with_reducible rfl))
 try simp [Act.put]
 refine wpAnyH_take (i := 8) (v := ?_) rfl zK zK zK (fun _ _ _ h => h) (Or.inl ⟨by rfl,?_⟩) (by assumption) ?_
 rotate_left
 ·(intro v hv; obtain ⟨c0,c3,y0,y1,y2,y3,y4⟩ := HKP.out v hv; go_simp; try (with_reducible rfl))
 try simp [Act.put]
 refine wpAnyH_take (i := 9) (v := ?_) rfl zK zK zK (fun _ _ _ h => h) (Or.inl ⟨by rfl,?_⟩) (by assumption) ?_
 rotate_left
 ·(intro v hv; obtain ⟨c0,c3,y0,y1,y2,y3,y4⟩ := HKP.out v hv; go_simp; try (with_reducible rfl))
 try simp [Act.put]
 obtain ⟨U,eU⟩ : ∃ U,V.drew = U := ⟨_,rfl⟩
 have hU0 : U.heap[w§]? = some (.cells #[zU 0,.string ⟨#[]⟩,zU 0,zI 0,zI 0] 82 (0,0)) := by rw [← eU]; exact HW.out
 have HMU : Hid (Mv V U (fun k => k = w§)) := by rw [← eU]; exact (Mv.refl _ _).drew
 have HBU : Hid (Below w§ w U) := by rw [← eU]; exact HBV.out.drew
 rw [eU] at hHeld ⊢
 clear eU
 have z0 : U.cell? ⟨w§,0,none⟩ = some (zU 0) := cell_of hU0 0
 have q0 : U.frozen? ⟨w§,0,none⟩ = false := frozen_of hU0 0
 have z1 : U.cell? ⟨w§,1,none⟩ = some (.string ⟨#[]⟩) := cell_of hU0 1
 have q1 : U.frozen? ⟨w§,1,none⟩ = false := frozen_of hU0 1
 have z2 : U.cell? ⟨w§,2,none⟩ = some (zU 0) := cell_of hU0 2
 have q2 : U.frozen? ⟨w§,2,none⟩ = false := frozen_of hU0 2
 have z3 : U.cell? ⟨w§,3,none⟩ = some (zI 0) := cell_of hU0 3
 have q3 : U.frozen? ⟨w§,3,none⟩ = false := frozen_of hU0 3
 have z4 : U.cell? ⟨w§,4,none⟩ = some (zI 0) := cell_of hU0 4
 have q4 : U.frozen? ⟨w§,4,none⟩ = false := frozen_of hU0 4
 have HU0 : Hid (U.heap[w§]? = some (.cells #[zU 0,.string ⟨#[]⟩,zU 0,zI 0,zI 0] 82 (0,0))) := hU0
 clear hU0
 refine wpAnyH_ready (rs := [10]) zK (by simp) ?_
 refine AllReadyH.cons rfl (fun K hK => ?_) AllReadyH.nil
 go_simp
 refine hK.out _ _ (((((HMU.out.setCell (a := ⟨w§,0,none⟩) (.inl rfl) _).setCell (a := ⟨w§,1,none⟩) (.inl rfl) _).setCell (a := ⟨w§,2,none⟩) (.inl rfl) _).setCell (a := ⟨w§,3,none⟩) (.inl rfl) _).setCell (a := ⟨w§,4,none⟩) (.inl rfl) _) (fun hHeld7 => ?_)
 clear hK K
 refine wpAnyH_done zK ?_ _
 go_wp2_with fail
 exact bodyPost_ret (results_cell_row rfl _ _ w§ 82 (tkA tk) (0,0) _ rfl (put5 HU0.out _ _ _ _ _) Tryz.underlying82 rfl zK) rfl ⟨rfl,(mv5 (F := fun _ => False) (Mv.ofBelow HBU.out) (Nat.le_refl _) _ _ _ _ _).below (Nat.le_refl _) (fun _ e => e.elim)⟩
theorem put3 {w : World} {b : Nat} {a0 a1 a2 a3 a4 a5 a6 : Value} (h : w.heap[b]? = some (.cells #[a0,a1,a2,a3,a4,a5,a6] 96 (0,0))) (v4 v5 v6 : Value) : (((w.setCell ⟨b,4,none⟩ v4).setCell ⟨b,5,none⟩ v5).setCell ⟨b,6,none⟩ v6).heap[b]? = some (.cells #[a0,a1,a2,a3,v4,v5,v6] 96 (0,0)) := by
 have h1 : (w.setCell ⟨b,4,none⟩ v4).heap[b]? = some (.cells #[a0,a1,a2,a3,v4,a5,a6] 96 (0,0)) := heap_set v4 h
 have h2 : ((w.setCell ⟨b,4,none⟩ v4).setCell ⟨b,5,none⟩ v5).heap[b]? = some (.cells #[a0,a1,a2,a3,v4,v5,a6] 96 (0,0)) := heap_set v5 h1
 exact heap_set v6 h2
theorem oth3 (w : World) {b c : Nat} (h : c ≠ b) (v4 v5 v6 : Value) : (((w.setCell ⟨b,4,none⟩ v4).setCell ⟨b,5,none⟩ v5).setCell ⟨b,6,none⟩ v6).heap[c]? = w.heap[c]? := by
 iterate 3 (refine (Below.heap_setCell _ _ _ _ (show c ≠ b from h)).trans ?_)
 rfl
theorem mv3 {w0 w : World} {b : Nat} (m : Mv w0 w (fun k => k = b)) (v4 v5 v6 : Value) : Mv w0 (((w.setCell ⟨b,4,none⟩ v4).setCell ⟨b,5,none⟩ v5).setCell ⟨b,6,none⟩ v6) (fun k => k = b) :=
 ((m.setCell (a := ⟨b,4,none⟩) (.inl rfl) v4).setCell (a := ⟨b,5,none⟩) (.inl rfl) v5).setCell (a := ⟨b,6,none⟩) (.inl rfl) v6
set_option maxRecDepth 100000 in
theorem wrong_over {w : World} {b : Nat} {K : PK} {i : Nat} {e p : Int} {t : Bool} (h : Pr w b K i e p t) (he : e ≠ 0) (no : Int) :
  Calls zG 81 #[zP b,zI no] w fun e w' => e = .returned (.tuple #[]) ∧ w' = w := by
 have cO := over_yes h he
 clear h
 go_enter Tryz.func81,Tryz.ntmps81
 go_wp2_with fail
 refine cO.mono ?_
 rintro e w1 ⟨rfl,rfl⟩
 go_wp2_with fail
 exact bodyPost_ret (results_none rfl _ _ _) rfl ⟨rfl,rfl⟩
set_option maxRecDepth 100000 in
theorem wrong_lex {w : World} {b : Nat} {K : PK} {p : Int} {t : Bool} (h : Pr w b K K.T.length 0 p t) (no : Int) :
  Calls zG 81 #[zP b,zI no] w fun e w' => e = .returned (.tuple #[]) ∧ Pr w' b K K.T.length K.be K.ba true ∧ Mv w w' (fun k => k = b) := by
 have cO := over_no h
 have HP := h.hid
 have c0 : w.cell? ⟨b,0,none⟩ = some (.slice K.a K.T.length K.c) := cell_of h.h 0
 have c3 : w.cell? ⟨b,3,none⟩ = some (zI K.T.length) := cell_of h.h 3
 clear h
 go_enter Tryz.func81,Tryz.ntmps81
 go_wp2_with fail
 refine cO.mono ?_
 rintro e w1 ⟨rfl,rfl⟩
 clear cO
 go_upto_region 1 with fail
 go_quiet (fail)
 obtain ⟨V,eV⟩ : ∃ V,w1.drewN nq = V := ⟨_,rfl⟩
 have HPV := (HP.out.blk (w' := V) (fun _ _ => by rw [← eV]; rfl)).hid
 have HMV : Hid (Mv w1 V (fun k => k = b)) := by rw [← eV]; exact ⟨rfl,rfl,rfl,Nat.le_refl _,fun _ _ _ => rfl⟩
 rw [eV]
 clear eV c0 c3 HP
 have c1 : V.cell? ⟨b,1,none⟩ = some (zI K.be) := cell_of HPV.out.h 1
 have c2 : V.cell? ⟨b,2,none⟩ = some (zI K.ba) := cell_of HPV.out.h 2
 go_upto_region 2 with fail
 refine wp_region_held_drew (S := fun v => v.cell? ⟨b,1,none⟩ = some (zI K.be) ∧ v.cell? ⟨b,2,none⟩ = some (zI K.ba)) zK ⟨c1,c2⟩ (fun hHeld => ?_)
 refine wpAnyH_take (i := 0) (v := ?_) rfl zK zK zK (fun _ _ _ h => h) (Or.inl ⟨by rfl,?_⟩) (by assumption) ?_
 rotate_left
 ·(intro v hv; obtain ⟨t1,t2⟩ := hv; go_simp; try (with_reducible rfl))
 try simp [Act.put]
 refine wpAnyH_take (i := 1) (v := ?_) rfl zK zK zK (fun _ _ _ h => h) (Or.inl ⟨by rfl,?_⟩) (by assumption) ?_
 rotate_left
 ·(intro v hv; obtain ⟨t1,t2⟩ := hv; go_simp; try (with_reducible rfl))
 try simp [Act.put]
 refine wpAnyH_take (i := 2) (v := ?_) rfl zK zK zK (fun _ _ _ h => h) (Or.inl ⟨by rfl,?_⟩) (by assumption) ?_
 rotate_left
 ·(intro v hv; obtain ⟨t1,t2⟩ := hv; go_simp; try (with_reducible rfl))
 try simp [Act.put]
 refine wpAnyH_take (i := 3) (v := ?_) rfl zK zK zK (fun _ _ _ h => h) (Or.inl ⟨by rfl,?_⟩) (by assumption) ?_
 rotate_left
 ·(intro v hv; obtain ⟨t1,t2⟩ := hv; go_simp; try (with_reducible rfl))
 try simp [Act.put]
 refine wpAnyH_take (i := 4) (v := ?_) rfl zK zK zK (fun _ _ _ h => h) (Or.inl ⟨by rfl,?_⟩) (by assumption) ?_
 rotate_left
 ·(intro v hv; obtain ⟨t1,t2⟩ := hv; go_simp; try (with_reducible rfl))
 try simp [Act.put]
 refine wpAnyH_take (i := 5) (v := ?_) rfl zK zK zK (fun _ _ _ h => h) (Or.inl ⟨by rfl,?_⟩) (by assumption) ?_
 rotate_left
 ·(intro v hv; obtain ⟨t1,t2⟩ := hv; go_simp; try (with_reducible rfl))
 try simp [Act.put]
 refine wpAnyH_take (i := 6) (v := ?_) rfl zK zK zK (fun _ _ _ h => h) (Or.inl ⟨by rfl,?_⟩) (by assumption) ?_
 rotate_left
 ·(intro v hv; obtain ⟨t1,t2⟩ := hv; go_simp; try (with_reducible rfl))
 try simp [Act.put]
 refine wpAnyH_take (i := 7) (v := ?_) rfl zK zK zK (fun _ _ _ h => h) (Or.inl ⟨by rfl,?_⟩) (by assumption) ?_
 rotate_left
 ·(intro v hv; obtain ⟨t1,t2⟩ := hv; go_simp; try (with_reducible rfl))
 try simp [Act.put]
 refine wpAnyH_take (i := 8) (v := ?_) rfl zK zK zK (fun _ _ _ h => h) (Or.inl ⟨by rfl,?_⟩) (by assumption) ?_
 rotate_left
 ·(intro v hv; obtain ⟨t1,t2⟩ := hv; go_simp; try (with_reducible rfl))
 try simp [Act.put]
 refine wpAnyH_take (i := 9) (v := ?_) rfl zK zK zK (fun _ _ _ h => h) (Or.inl ⟨by rfl,?_⟩) (by assumption) ?_
 rotate_left
 ·(intro v hv; obtain ⟨t1,t2⟩ := hv; go_simp; try (with_reducible rfl))
 try simp [Act.put]
 refine wpAnyH_take (i := 10) (v := ?_) rfl zK zK zK (fun _ _ _ h => h) (Or.inl ⟨by rfl,?_⟩) (by assumption) ?_
 rotate_left
 ·(intro v hv; obtain ⟨t1,t2⟩ := hv; go_simp; try (with_reducible rfl))
 try simp [Act.put]
 refine wpAnyH_take (i := 11) (v := ?_) rfl zK zK zK (fun _ _ _ h => h) (Or.inl ⟨by rfl,?_⟩) (by assumption) ?_
 rotate_left
 ·(intro v hv; obtain ⟨t1,t2⟩ := hv; go_simp; try (with_reducible rfl))
 try simp [Act.put]
 obtain ⟨U,eU⟩ : ∃ U,V.drew = U := ⟨_,rfl⟩
 have HPU := (HPV.out.blk (w' := U) (fun _ _ => by rw [← eU]; rfl)).hid
 have HMU : Hid (Mv w1 U (fun k => k = b)) := by rw [← eU]; exact HMV.out.drew
 rw [eU] at hHeld ⊢
 clear eU c1 c2
 have z4 : U.cell? ⟨b,4,none⟩ = some (zI 0) := cell_of HPU.out.h 4
 have q4 : U.frozen? ⟨b,4,none⟩ = false := frozen_of HPU.out.h 4
 have z5 : U.cell? ⟨b,5,none⟩ = some (zI p) := cell_of HPU.out.h 5
 have q5 : U.frozen? ⟨b,5,none⟩ = false := frozen_of HPU.out.h 5
 have z6 : U.cell? ⟨b,6,none⟩ = some (.bool t) := cell_of HPU.out.h 6
 have q6 : U.frozen? ⟨b,6,none⟩ = false := frozen_of HPU.out.h 6
 refine wpAnyH_ready (rs := [12]) zK (by simp) ?_
 refine AllReadyH.cons rfl (fun K' hK => ?_) AllReadyH.nil
 go_simp
 have hfin := put3 HPU.out.h (zI K.be) (zI K.ba) (.bool true)
 have HF : Hid (Pr (((U.setCell ⟨b,4,none⟩ (zI K.be)).setCell ⟨b,5,none⟩ (zI K.ba)).setCell ⟨b,6,none⟩ (.bool true)) b K K.T.length K.be K.ba true) := HPU.out.new (fun c hc _ => oth3 _ hc _ _ _) (Nat.le_refl _) (fun hl => absurd (HPU.out.z hl).1 (by decide)) hfin
 refine hK.out _ _ ⟨cell_of hfin 1,cell_of hfin 2⟩ (fun hHeld7 => ?_)
 clear hK K' hfin
 refine wpAnyH_done zK ?_ _
 go_wp2_with fail
 exact bodyPost_ret (results_none rfl _ _ _) rfl ⟨rfl,HF.out,mv3 HMU.out _ _ _⟩
set_option maxRecDepth 100000 in
theorem wrong_tok {w : World} {b : Nat} {K : PK} {i : Nat} {p : Int} {t : Bool} {tk : Tk} (h : Pr w b K i 0 p t) (hg : K.T[i]? = some tk) (no : Int) :
  Calls zG 81 #[zP b,zI no] w fun e w' => e = .returned (.tuple #[]) ∧ Pr w' b K i no tk.p false ∧ Mv w w' (fun k => k = b) := by
 have cO := over_no h
 obtain ⟨hi,etk⟩ := List.getElem?_eq_some_iff.1 hg
 clear hg
 obtain ⟨G,o,ea,hn,ht⟩ := h.r i hi
 rw [etk] at ht
 have HP := h.hid
 have HTK : Hid (TkC w G (o + i * 5) tk) := ht
 have c0 : w.cell? ⟨b,0,none⟩ = some (.slice K.a K.T.length K.c) := cell_of h.h 0
 have c3 : w.cell? ⟨b,3,none⟩ = some (zI i) := cell_of h.h 3
 have hd : ¬ (K.T.length : Int) ≤ (i : Int) := by omega
 have hd' : decide ((K.T.length : Int) ≤ (i : Int)) = false := decide_eq_false hd
 clear h ht etk
 go_enter Tryz.func81,Tryz.ntmps81
 go_wp2_with fail
 refine cO.mono ?_
 rintro e w1 ⟨rfl,rfl⟩
 clear cO
 go_upto_region 1 with fail
 go_quiet (fail)
 obtain ⟨V,eV⟩ : ∃ V,w1.drewN nq = V := ⟨_,rfl⟩
 have HPV := (HP.out.blk (w' := V) (fun _ _ => by rw [← eV]; rfl)).hid
 have HMV : Hid (Mv w1 V (fun k => k = b)) := by rw [← eV]; exact ⟨rfl,rfl,rfl,Nat.le_refl _,fun _ _ _ => rfl⟩
 have HTV : Hid (TkC V G (o + i * 5) tk) := HTK.out.blk (by rw [← eV]; rfl)
 rw [eV]
 clear eV c0 c3 HP HTK
 have c0 : V.cell? ⟨b,0,none⟩ = some (.slice (some ⟨G,o,none⟩) K.T.length K.c) := by rw [← ea]; exact cell_of HPV.out.h 0
 have c3 : V.cell? ⟨b,3,none⟩ = some (zI i) := cell_of HPV.out.h 3
 have y4 := HTV.out.c4
 have hi' : (i : Int) < (K.T.length : Int) := by omega
 have HEA : Hid (K.a = some ⟨G,o,none⟩) := ea
 clear ea
 go_upto_region 3 with fail
 refine wp_region_held_drew (S := fun v => v.cell? ⟨b,0,none⟩ = some (.slice (some ⟨G,o,none⟩) K.T.length K.c) ∧ v.cell? ⟨b,3,none⟩ = some (zI i) ∧ v.cell? ⟨G,o + i * 5 + 4,none⟩ = some (zI tk.p)) zK ⟨c0,c3,y4⟩ (fun hHeld => ?_)
 refine wpAnyH_take (i := 0) (v := ?_) rfl zK zK zK (fun _ _ _ h => h) (Or.inl ⟨by rfl,?_⟩) (by assumption) ?_
 rotate_left
 ·(intro v hv; obtain ⟨t0,t3,t4⟩ := hv; go_simp; try (with_reducible rfl))
 try simp [Act.put]
 refine wpAnyH_take (i := 1) (v := ?_) rfl zK zK zK (fun _ _ _ h => h) (Or.inl ⟨by rfl,?_⟩) (by assumption) ?_
 rotate_left
 ·(intro v hv; obtain ⟨t0,t3,t4⟩ := hv; go_simp; try (with_reducible rfl))
 try simp [Act.put]
 refine wpAnyH_take (i := 2) (v := ?_) rfl zK zK zK (fun _ _ _ h => h) (Or.inl ⟨by rfl,?_⟩) (by assumption) ?_
 rotate_left
 ·(intro v hv; obtain ⟨t0,t3,t4⟩ := hv; go_simp; try (with_reducible rfl))
 try simp [Act.put]
 refine wpAnyH_take (i := 3) (v := ?_) rfl zK zK zK (fun _ _ _ h => h) (Or.inl ⟨by rfl,?_⟩) (by assumption) ?_
 rotate_left
 ·(intro v hv; obtain ⟨t0,t3,t4⟩ := hv; go_simp; try (with_reducible rfl))
 try simp [Act.put]
 refine wpAnyH_take (i := 4) (v := ?_) rfl zK zK zK (fun _ _ _ h => h) (Or.inl ⟨by rfl,?_⟩) (by assumption) ?_
 rotate_left
 ·(intro v hv; obtain ⟨t0,t3,t4⟩ := hv; go_simp; try (with_reducible rfl))
 try simp [Act.put]
 refine wpAnyH_take (i := 5) (v := ?_) rfl zK zK zK (fun _ _ _ h => h) (Or.inl ⟨by rfl,?_⟩) (by assumption) ?_
 rotate_left
 ·(intro v hv; obtain ⟨t0,t3,t4⟩ := hv; go_simp; try (with_reducible rfl))
 try simp [Act.put]
 refine wpAnyH_take (i := 6) (v := ?_) rfl zK zK zK (fun _ _ _ h => h) (Or.inl ⟨by rfl,?_⟩) (by assumption) ?_
 rotate_left
 ·(intro v hv; obtain ⟨t0,t3,t4⟩ := hv; go_simp; try (with_reducible rfl))
 try simp [Act.put]
 refine wpAnyH_take (i := 7) (v := ?_) rfl zK zK zK (fun _ _ _ h => h) (Or.inl ⟨by rfl,?_⟩) (by assumption) ?_
 rotate_left
 ·(intro v hv; obtain ⟨t0,t3,t4⟩ := hv; go_simp; try (with_reducible rfl))
 try simp [Act.put]
 refine wpAnyH_take (i := 8) (v := ?_) rfl zK zK zK (fun _ _ _ h => h) (Or.inl ⟨by rfl,?_⟩) (by assumption) ?_
 rotate_left
 ·(intro v hv; obtain ⟨t0,t3,t4⟩ := hv; go_simp; try (with_reducible rfl))
 try simp [Act.put]
 refine wpAnyH_take (i := 9) (v := ?_) rfl zK zK zK (fun _ _ _ h => h) (Or.inl ⟨by rfl,?_⟩) (by assumption) ?_
 rotate_left
 ·(intro v hv; obtain ⟨t0,t3,t4⟩ := hv; go_simp; try (with_reducible rfl))
 try simp [Act.put]
 refine wpAnyH_take (i := 10) (v := ?_) rfl zK zK zK (fun _ _ _ h => h) (Or.inl ⟨by rfl,?_⟩) (by assumption) ?_
 rotate_left
 ·(intro v hv; obtain ⟨t0,t3,t4⟩ := hv; go_simp; try (with_reducible rfl))
 try simp [Act.put]
 refine wpAnyH_take (i := 11) (v := ?_) rfl zK zK zK (fun _ _ _ h => h) (Or.inl ⟨by rfl,?_⟩) (by assumption) ?_
 rotate_left
 ·(intro v hv; obtain ⟨t0,t3,t4⟩ := hv; go_simp; try (with_reducible rfl))
 try simp [Act.put]
 refine wpAnyH_take (i := 12) (v := ?_) rfl zK zK zK (fun _ _ _ h => h) (Or.inl ⟨by rfl,?_⟩) (by assumption) ?_
 rotate_left
 ·(intro v hv; obtain ⟨t0,t3,t4⟩ := hv; go_simp; try (with_reducible rfl))
 try simp [Act.put]
 refine wpAnyH_take (i := 13) (v := ?_) rfl zK zK zK (fun _ _ _ h => h) (Or.inl ⟨by rfl,?_⟩) (by assumption) ?_
 rotate_left
 ·(intro v hv; obtain ⟨t0,t3,t4⟩ := hv; go_simp; try (with_reducible rfl))
 try simp [Act.put]
 refine wpAnyH_take (i := 14) (v := ?_) rfl zK zK zK (fun _ _ _ h => h) (Or.inl ⟨by rfl,?_⟩) (by assumption) ?_
 rotate_left
 ·(intro v hv; obtain ⟨t0,t3,t4⟩ := hv; go_simp; try (with_reducible rfl))
 try simp [Act.put]
 refine wpAnyH_take (i := 15) (v := ?_) rfl zK zK zK (fun _ _ _ h => h) (Or.inl ⟨by rfl,?_⟩) (by assumption) ?_
 rotate_left
 ·(intro v hv; obtain ⟨t0,t3,t4⟩ := hv; go_simp; try (with_reducible rfl))
 try simp [Act.put]
 obtain ⟨U,eU⟩ : ∃ U,V.drew = U := ⟨_,rfl⟩
 have HPU := (HPV.out.blk (w' := U) (fun _ _ => by rw [← eU]; rfl)).hid
 have HMU : Hid (Mv w1 U (fun k => k = b)) := by rw [← eU]; exact HMV.out.drew
 have HTU : Hid (TkC U G (o + i * 5) tk) := HTV.out.blk (by rw [← eU]; rfl)
 rw [eU] at hHeld ⊢
 clear eU c0 c3 y4
 have z4 : U.cell? ⟨b,4,none⟩ = some (zI 0) := cell_of HPU.out.h 4
 have q4 : U.frozen? ⟨b,4,none⟩ = false := frozen_of HPU.out.h 4
 have z5 : U.cell? ⟨b,5,none⟩ = some (zI p) := cell_of HPU.out.h 5
 have q5 : U.frozen? ⟨b,5,none⟩ = false := frozen_of HPU.out.h 5
 have z6 : U.cell? ⟨b,6,none⟩ = some (.bool t) := cell_of HPU.out.h 6
 have q6 : U.frozen? ⟨b,6,none⟩ = false := frozen_of HPU.out.h 6
 refine wpAnyH_ready (rs := [16]) zK (by simp) ?_
 refine AllReadyH.cons rfl (fun K' hK => ?_) AllReadyH.nil
 go_simp
 have hfin := put3 HPU.out.h (zI no) (zI tk.p) (.bool false)
 have HF : Hid (Pr (((U.setCell ⟨b,4,none⟩ (zI no)).setCell ⟨b,5,none⟩ (zI tk.p)).setCell ⟨b,6,none⟩ (.bool false)) b K i no tk.p false) := HPU.out.new (fun c hc _ => oth3 _ hc _ _ _) HPU.out.l (fun hl => absurd (HPU.out.z hl).1 (by decide)) hfin
 refine hK.out _ _ ⟨by rw [← HEA.out]; exact cell_of hfin 0,cell_of hfin 3,(HTU.out.blk (oth3 _ hn _ _ _)).c4⟩ (fun hHeld7 => ?_)
 clear hK K' hfin
 refine wpAnyH_done zK ?_ _
 go_wp2_with fail
 go_end0
 exact ⟨rfl,HF.out,mv3 HMU.out _ _ _⟩
theorem wrong_live {w : World} {b : Nat} {K : PK} {t : Tk} {ts : List Tk} (h : Lv w b K (t :: ts)) (no : Int) (hn : no ≠ 0) :
  Calls zG 81 #[zP b,zI no] w fun e w' => e = .returned (.tuple #[]) ∧ Dd w' b K (.tok no t.p) ∧ Mv w w' (fun k => k = b) := by
 obtain ⟨i,p,u,h1,h2⟩ := h
 have hg : K.T[i]? = some t := by
  have := congrArg (fun l => l[0]?) h2
  simp at this
  exact this.symm
 refine (wrong_tok h1 hg no).mono ?_
 rintro e w' ⟨rfl,hp,hm⟩
 exact ⟨rfl,⟨i,hp,hn⟩,hm⟩
theorem wrong_dead {w : World} {b : Nat} {K : PK} {f : Ft} (h : Dd w b K f) (no : Int) :
  Calls zG 81 #[zP b,zI no] w fun e w' => e = .returned (.tuple #[]) ∧ Dd w' b K f ∧ Mv w w' (fun k => k = b) := by
 cases f with
 | tok n p =>
  obtain ⟨i,h1,h2⟩ := h
  refine (wrong_over h1 h2 no).mono ?_
  rintro e w' ⟨rfl,rfl⟩
  exact ⟨rfl,⟨i,h1,h2⟩,Mv.refl _ _⟩
 | lex =>
  obtain ⟨e,p,t,h1,h2⟩ := h
  by_cases he : e = 0
  ·subst he
   refine (wrong_lex h1 no).mono ?_
   rintro e w' ⟨rfl,hp,hm⟩
   exact ⟨rfl,⟨_,_,_,hp,.inr (.inl ⟨rfl,rfl,rfl⟩)⟩,hm⟩
  ·refine (wrong_over h1 he no).mono ?_
   rintro e w' ⟨rfl,rfl⟩
   exact ⟨rfl,⟨_,_,_,h1,h2⟩,Mv.refl _ _⟩
theorem live_now {w : World} {b : Nat} {K : PK} {t : Tk} {ts : List Tk} (h : Lv w b K (t :: ts)) :
  Calls zG 92 #[zP b] w fun e w' => e = .returned (.agg (tkA t)) ∧ Below w§ w w' := by
 obtain ⟨i,p,u,h1,h2⟩ := h
 have hg : K.T[i]? = some t := by
  have := congrArg (fun l => l[0]?) h2
  simp at this
  exact this.symm
 exact now_live h1 hg
theorem dead_now {w : World} {b : Nat} {K : PK} {f : Ft} (h : Dd w b K f) :
  Calls zG 92 #[zP b] w fun e w' => e = .returned (.agg (tkA tk0)) ∧ Below w§ w w' := by
 cases f with
 | tok n p =>
  obtain ⟨i,h1,h2⟩ := h
  exact now_over h1 h2
 | lex =>
  obtain ⟨e,p,t,h1,h2⟩ := h
  by_cases he : e = 0
  ·subst he
   exact now_none h1
  ·exact now_over h1 he
end Go.Proofs.YtkfabnchhjfjjaaGreatDoor
