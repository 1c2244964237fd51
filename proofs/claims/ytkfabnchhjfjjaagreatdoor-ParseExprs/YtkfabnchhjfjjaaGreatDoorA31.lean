import Derived.Test.YtkfabnchhjfjjaaGreatDoorA0
import Derived.Test.YtkfabnchhjfjjaaGreatDoorA29
import Derived.Test.YtkfabnchhjfjjaaGreatDoorA30
import Derived.Test.YtkfabnchhjfjjaaGreatDoorA8
import Derived.Test.YtkfabnchhjfjjaaGreatDoorA10
import Derived.Test.YtkfabnchhjfjjaaGreatDoorA3
import Derived.Test.YtkfabnchhjfjjaaGreatDoorA4
namespace Go.Proofs.YtkfabnchhjfjjaaGreatDoor
open Go.RowKit
set_option linter.unusedVariables false
theorem RowL.tk {w : World} {v : Value} {L : List Tk} (h : RowL w v L) : ∃ a c,v = .slice a L.length c ∧ ∀ j (hj : j < L.length),∃ G,a = some ⟨G,0,none⟩ ∧ v.ownBlock = some G ∧ TkC w G (0 + j * 5) L[j] := by
 obtain ⟨a,c,e,h1,h2⟩ := Row.form h
 refine ⟨a,c,e,fun j hj => ?_⟩
 obtain ⟨G,eG⟩ := h1 (by omega)
 subst eG e
 refine ⟨G,rfl,rfl,?_⟩
 have key : ∀ i,i < 5 → w.cell? ⟨G,0 + j * 5 + i,none⟩ = some (tkF (lsF L) (j * 5 + i)) := fun i hi => by
  have := Row.cell h (j := j * 5 + i) (by omega)
  rw [show 0 + j * 5 + i = j * 5 + i by omega]
  exact this
 have e1 : lsF L j = L[j] := by
  unfold lsF
  rw [List.getD_eq_getElem?_getD,List.getElem?_eq_getElem hj]
  rfl
 have f : ∀ i,i < 5 → tkF (lsF L) (j * 5 + i) = if i = 0 then zU L[j].k else if i = 1 then .string L[j].x else if i = 2 then zU L[j].ty else if i = 3 then zI L[j].n else zI L[j].p := fun i hi => by
  unfold tkF
  rw [show (j * 5 + i) % 5 = i by omega,show (j * 5 + i) / 5 = j by omega,e1]
 refine ⟨?_,?_,?_,?_,?_⟩
 ·have := key 0 (by omega); rw [f 0 (by omega)] at this; exact this
 ·have := key 1 (by omega); rw [f 1 (by omega)] at this; exact this
 ·have := key 2 (by omega); rw [f 2 (by omega)] at this; exact this
 ·have := key 3 (by omega); rw [f 3 (by omega)] at this; exact this
 ·have := key 4 (by omega); rw [f 4 (by omega)] at this; exact this
def OutB (s : ByteArray) (w : World) (e : Ending) (w' : World) : Prop :=
 ∃ b K,e = .returned (zP b) ∧ w§ ≤ b ∧ Sp w' b K (nf (rdT s)) ∧ KOk K ∧ (∀ t ∈ K.T,Gd t) ∧ K.T = rdT s ∧ ((K.lg = false ∧ K.be = tksE s ∧ K.ba = tksB s) ∨ (K.lg = true ∧ tksE s = 110 ∧ tksB s = 0)) ∧ Below w§ w w'
set_option maxRecDepth 100000 in
set_option maxHeartbeats 1000000 in
theorem begin_d (s : ByteArray) (w : World) : Calls zG 27 #[.string s] w (OutB s w) := by
 by_cases hs : s.size > 4096
 ·have h1 : (s.size : Int) > 4096 := by omega
  have h2 : decide (4096 < (s.size : Int)) = true := decide_eq_true (by omega)
  obtain ⟨r1,r2,r3⟩ := rdT_long hs
  have HR : Hid (rdT s = [] ∧ tksE s = 110 ∧ tksB s = 0) := ⟨r1,r2,r3⟩
  clear r1 r2 r3 hs
  go_enter Tryz.func27,Tryz.ntmps27
  go_wp2_with fail
  go_ret
  refine ⟨w§,⟨none,0,[],0,0,true⟩,rfl,Nat.le_refl _,?_,⟨fun t ht => by simp at ht,by simp⟩,fun t ht => by simp at ht,HR.out.1.symm,.inr ⟨rfl,HR.out.2.1,HR.out.2.2⟩,below_new _ _⟩
  rw [HR.out.1]
  exact ⟨110,0,true,⟨heap_new _ _,Nat.le_refl _,by simp,fun _ => ⟨rfl,rfl,rfl⟩,fun j hj => by simp at hj⟩,.inr (.inr rfl)⟩
 ·have h1 : ¬ (s.size : Int) > 4096 := by omega
  have h2 : decide (4096 < (s.size : Int)) = false := decide_eq_false (by omega)
  have hs' : s.size ≤ 4096 := by omega
  have cB := rf_begin_any s (by omega) w
  have HR : Hid (rdT s = (begO s 0).1 ∧ tksE s = (begO s 0).2.1 ∧ tksB s = (begO s 0).2.2) := ⟨rdT_beg hs',(tksB_beg hs').1,(tksB_beg hs').2⟩
  clear hs hs'
  go_enter Tryz.func27,Tryz.ntmps27
  go_wp2_with fail
  refine cB.mono ?_
  rintro e w1 ⟨v,rfl,hr⟩
  obtain ⟨a,c,rfl,ht⟩ := hr.row.tk
  have HT : Hid (∀ j (hj : j < (begO s 0).1.length),∃ G,a = some ⟨G,0,none⟩ ∧ (Value.slice a (begO s 0).1.length c).ownBlock = some G ∧ TkC w1 G (0 + j * 5) (begO s 0).1[j]) := ht
  have HB : Hid (Below w§ w w1) := hr.B
  clear cB hr ht
  go_wp2_with fail
  go_ret
  have hL := rdT_len s
  rw [HR.out.1] at hL
  have hn := below_new w1 (.cells #[.slice a (begO s 0).1.length c,zI (begO s 0).2.1,zI (begO s 0).2.2,zI 0,zI 0,zI 0,.bool false] 96)
  refine ⟨w1§,⟨a,c,(begO s 0).1,(begO s 0).2.1,(begO s 0).2.2,false⟩,rfl,HB.out.size,?_,⟨fun t ht => ?_,hL⟩,fun t ht => ?_,HR.out.1.symm,.inl ⟨rfl,HR.out.2.1.symm,HR.out.2.2.symm⟩,below2 HB.out hn⟩
  ·rw [HR.out.1]
   refine Lv.sp ⟨0,0,false,⟨heap_new _ _,Nat.zero_le _,by show (begO s 0).1.length ≤ _; omega,(fun h => by cases h),fun j hj => ?_⟩,rfl⟩
   obtain ⟨G,e1,e2,e3⟩ := HT.out j hj
   have := e3.lt
   exact ⟨G,0,e1,by omega,e3.blk (hn.block _ this)⟩
  ·exact gd_ok (rdT_gd s t (by rw [HR.out.1]; exact ht)) (rdT_rg s t (by rw [HR.out.1]; exact ht))
  ·exact rdT_gd s t (by rw [HR.out.1]; exact ht)
def dEnd : St → St
 | .ok [] => .error .lex
 | .ok (t :: ts) => if t.k = 0 then .ok (t :: ts) else .error (.tok 130 t.p)
 | .error f => .error f
def DdX (w : World) (b : Nat) (K : PK) : Ft → Prop
 | .tok no p => ∃ i,Pr w b K i no p false ∧ no ≠ 0
 | .lex => ∃ i e p,Pr w b K i e p true ∧ (K.lg = true ∨ (e = K.be ∧ p = K.ba))
def SpX (w : World) (b : Nat) (K : PK) : St → Prop
 | .ok ts => Lv w b K ts
 | .error f => DdX w b K f
set_option maxRecDepth 100000 in
set_option maxHeartbeats 1000000 in
theorem end_dead {w : World} {b : Nat} {K : PK} {f : Ft} (h : Dd w b K f) :
  Calls zG 48 #[zP b] w fun e w' => e = .returned (.tuple #[]) ∧ DdX w' b K f ∧ Mv w w' (fun k => k = b) := by
 have key : ∀ {i : Nat} {e p : Int} {t : Bool},Pr w b K i e p t → e ≠ 0 → Calls zG 48 #[zP b] w fun e w' => e = .returned (.tuple #[]) ∧ w' = w := by
  intro i e p t h1 h2
  have cO := over_yes h1 h2
  clear h1 h
  go_enter Tryz.func48,Tryz.ntmps48
  go_wp2_with fail
  refine cO.mono ?_
  rintro e w1 ⟨rfl,rfl⟩
  go_wp2_with fail
  exact bodyPost_ret (results_none rfl _ _ _) rfl ⟨rfl,rfl⟩
 cases f with
 | tok no p =>
  obtain ⟨i,h1,h2⟩ := h
  refine (key h1 h2).mono ?_
  rintro e w' ⟨rfl,rfl⟩
  exact ⟨rfl,⟨i,h1,h2⟩,Mv.refl _ _⟩
 | lex =>
  obtain ⟨e,p,t,h1,h2⟩ := h
  by_cases he : e = 0
  ·subst he
   clear h2 key
   have cO := over_no h1
   have HP := h1.hid
   have c0 : w.cell? ⟨b,0,none⟩ = some (.slice K.a K.T.length K.c) := cell_of h1.h 0
   have c3 : w.cell? ⟨b,3,none⟩ = some (zI K.T.length) := cell_of h1.h 3
   clear h1
   go_enter Tryz.func48,Tryz.ntmps48
   go_wp2_with fail
   refine cO.mono ?_
   rintro e w1 ⟨rfl,rfl⟩
   clear cO
   go_upto_region 1 with fail
   go_quiet (fail)
   obtain ⟨V,eV⟩ : ∃ V,w1.drewN nq = V := ⟨_,rfl⟩
   have HPV := (HP.out.blk (w' := V) (fun _ _ => by rw [← eV]; rfl)).hid
   have HMV : Hid (Mv w1 V (fun k => k = b)) := by rw [← eV]; exact ⟨rfl,rfl,rfl,Nat.le_refl _,fun _ _ _ => rfl⟩
   rw [eV]
   clear eV c0 c3 HP
   have cW := wrong_lex HPV.out 130
   go_wp2_with fail
   refine cW.mono ?_
   rintro e w2 ⟨rfl,hp,hm⟩
   have HP2 := hp.hid
   have HM2 : Hid (Mv V w2 (fun k => k = b)) := hm
   clear cW hp hm
   go_wp2_with fail
   go_end0
   exact ⟨rfl,⟨_,_,_,HP2.out,.inr ⟨rfl,rfl⟩⟩,HMV.out.trans HM2.out (fun k e => .inl e)⟩
  ·refine (key h1 he).mono ?_
   rintro e' w' ⟨rfl,rfl⟩
   rcases h2 with h2 | ⟨h3,h4,h5⟩ | h3
   ·exact absurd h2 he
   ·subst h5
    exact ⟨rfl,⟨_,_,_,h1,.inr ⟨h3,h4⟩⟩,Mv.refl _ _⟩
   ·obtain ⟨_,_,h5⟩ := h1.z h3
    subst h5
    exact ⟨rfl,⟨_,_,_,h1,.inl h3⟩,Mv.refl _ _⟩
set_option maxRecDepth 100000 in
set_option maxHeartbeats 1000000 in
theorem end_live {w : World} {b : Nat} {K : PK} {t : Tk} {ts : List Tk} (h : Lv w b K (t :: ts)) :
  Calls zG 48 #[zP b] w fun e w' => e = .returned (.tuple #[]) ∧ SpX w' b K (dEnd (.ok (t :: ts))) ∧ Mv w w' (fun k => k = b) := by
 have HH := h.hid
 obtain ⟨i,p,u,h1,h2⟩ := h
 have cO := over_no h1
 have hg : K.T[i]? = some t := by
  have := congrArg (fun l => l[0]?) h2
  simp at this
  exact this.symm
 obtain ⟨hi,etk⟩ := List.getElem?_eq_some_iff.1 hg
 obtain ⟨G,o,ea,hn,ht⟩ := h1.r i hi
 rw [etk] at ht
 have c0 : w.cell? ⟨b,0,none⟩ = some (.slice (some ⟨G,o,none⟩) K.T.length K.c) := by rw [← ea]; exact cell_of h1.h 0
 have c3 : w.cell? ⟨b,3,none⟩ = some (zI i) := cell_of h1.h 3
 have y0 := ht.c0
 have hd : ¬ (K.T.length : Int) ≤ (i : Int) := by omega
 have hd' : decide ((K.T.length : Int) ≤ (i : Int)) = false := decide_eq_false hd
 have hi' : (i : Int) < (K.T.length : Int) := by omega
 clear h1 h2 hg etk ea ht
 by_cases hk : t.k = 0
 ·simp only [dEnd,hk,if_true]
  rw [hk] at y0
  go_enter Tryz.func48,Tryz.ntmps48
  go_wp2_with fail
  refine cO.mono ?_
  rintro e w1 ⟨rfl,rfl⟩
  clear cO
  go_upto_region 1 with fail
  go_quiet (fail)
  obtain ⟨V,eV⟩ : ∃ V,w1.drewN nq = V := ⟨_,rfl⟩
  have HHV := (HH.out.blk (w' := V) (fun _ _ => by rw [← eV]; rfl)).hid
  have HMV : Hid (Mv w1 V (fun k => k = b)) := by rw [← eV]; exact ⟨rfl,rfl,rfl,Nat.le_refl _,fun _ _ _ => rfl⟩
  rw [eV]
  clear eV c0 c3 y0
  go_wp2_with fail
  go_end0
  exact ⟨rfl,HHV.out,HMV.out⟩
 ·simp only [dEnd,hk,if_false]
  have hk2 : (t.k != 0) = true := bne_iff_ne.2 hk
  go_enter Tryz.func48,Tryz.ntmps48
  go_wp2_with fail
  refine cO.mono ?_
  rintro e w1 ⟨rfl,rfl⟩
  clear cO
  go_upto_region 1 with fail
  go_quiet (fail)
  obtain ⟨V,eV⟩ : ∃ V,w1.drewN nq = V := ⟨_,rfl⟩
  have HHV := (HH.out.blk (w' := V) (fun _ _ => by rw [← eV]; rfl)).hid
  have HMV : Hid (Mv w1 V (fun k => k = b)) := by rw [← eV]; exact ⟨rfl,rfl,rfl,Nat.le_refl _,fun _ _ _ => rfl⟩
  rw [eV]
  clear eV c0 c3 y0
  have cW := wrong_live HHV.out 130 (by decide)
  go_wp2_with fail
  refine cW.mono ?_
  rintro e w2 ⟨rfl,hp,hm⟩
  have HP2 : Hid (DdX w2 b K (.tok 130 t.p)) := hp
  have HM2 : Hid (Mv V w2 (fun k => k = b)) := hm
  clear cW hp hm
  go_wp2_with fail
  go_end0
  exact ⟨rfl,HP2.out,HMV.out.trans HM2.out (fun k e => .inl e)⟩
theorem end_s {w : World} {b : Nat} {K : PK} {s : St} (h : Sp w b K s) :
  Calls zG 48 #[zP b] w fun e w' => e = .returned (.tuple #[]) ∧ SpX w' b K (dEnd s) ∧ Mv w w' (fun k => k = b) := by
 cases s with
 | error f => exact end_dead h
 | ok ts =>
  obtain ⟨hne,hl⟩ := h
  cases ts with
  | nil => exact absurd rfl hne
  | cons t ts => exact end_live hl
theorem results_cc {P : Program} {fn : Func} {p u : Tmp} {ty ty2 : TypeId} (h : fn.results = #[.cell p ty,.cell u ty2]) (tmps : Array Value) (w : World) (g g2 : Nat) (t t2 : TypeId) (cs cs2 : Array Value) (fr fr2 : Nat × Nat) (d d2 : TypeDesc)
  (hp : tmps.getD p undef = zP g) (hg : w.heap[g]? = some (.cells cs t fr))
  (hu : P.underlying ty = some d) (hd : (match d with | .struct _ | .array _ _ => true | _ => false) = true) (hi : (P.info? ty).map (·.size) = some cs.size)
  (hp2 : tmps.getD u undef = zP g2) (hg2 : w.heap[g2]? = some (.cells cs2 t2 fr2))
  (hu2 : P.underlying ty2 = some d2) (hd2 : (match d2 with | .struct _ | .array _ _ => true | _ => false) = true) (hi2 : (P.info? ty2).map (·.size) = some cs2.size) :
  (results fn tmps).run P w = .ok (.tuple #[.agg cs,.agg cs2]) w := by
 have hp' : tmps[p]?.getD undef = zP g := by simpa using hp
 have hp2' : tmps[u]?.getD undef = zP g2 := by simpa using hp2
 simp [results,h,hp',hp2',asAddr,run_loadVar_row w g t ty cs fr d hg hu hd hi,run_loadVar_row w g2 t2 ty2 cs2 fr2 d2 hg2 hu2 hd2 hi2]
theorem exprT_nil : exprT [] = .error .lex := (exF_nil 26 0).1
theorem whole_err {s : ByteArray} {f : Ft} (h : dEnd (stOf (exprT (rdT s))) = .error f) : gWhole s = .error f := by
 unfold gWhole
 cases hr : exprT (rdT s) with
 | error f' => rw [hr] at h; cases h; rfl
 | ok q =>
  obtain ⟨q1,q2⟩ := q
  rw [hr] at h
  cases q2 with
  | nil => cases h; rfl
  | cons u r =>
   simp only [stOf,nf,dEnd] at h
   by_cases c : u.k = 0
   ·rw [if_pos c] at h; cases h
   ·rw [if_neg c] at h
    cases h
    simp [gEnd,gLook,bind,Except.bind,gNeed,c]
theorem whole_ok {s : ByteArray} {ts : List Tk} (h : dEnd (stOf (exprT (rdT s))) = .ok ts) : ∃ q,exprT (rdT s) = .ok q ∧ gWhole s = .ok q.1 := by
 unfold gWhole
 cases hr : exprT (rdT s) with
 | error f' => rw [hr] at h; cases h
 | ok q =>
  obtain ⟨q1,q2⟩ := q
  rw [hr] at h
  cases q2 with
  | nil => cases h
  | cons u r =>
   simp only [stOf,nf,dEnd] at h
   by_cases c : u.k = 0
   ·exact ⟨_,rfl,by simp [gEnd,gLook,bind,Except.bind,gNeed,c]⟩
   ·rw [if_neg c] at h; cases h
def ftT (s : ByteArray) : Ft → Int × Int × Bool
 | .tok no p => (no,p,false)
 | .lex => (tksE s,tksB s,true)
def OutX (s : ByteArray) (w : World) (e : Ending) (w' : World) : Prop :=
 (match gWhole s with
 | .ok t => ∃ m,e = .returned (.tuple #[.agg m.vals,.agg #[zI 0,zI 0,.bool false]]) ∧ treeOf m = t ∧ Lies w' m ∧ Bkn (fun k => w§ ≤ k ∧ k < w'§) m
 | .error f => (ftT s f).1 ≠ 0 ∧ e = .returned (.tuple #[.agg nul8,.agg #[zI (ftT s f).1,zI (ftT s f).2.1,.bool (ftT s f).2.2]])) ∧ Below w§ w w'
theorem fin3f {U : World} {b : Nat} {a0 a1 a2 : Value} (h : U.heap[b]? = some (.cells #[a0,a1,a2] 50 (0,0))) (v0 v1 v2 : Value) :
  ∃ Y,(((U.setCell ⟨b,0,none⟩ v0).setCell ⟨b,1,none⟩ v1).setCell ⟨b,2,none⟩ v2) = Y ∧ Y.heap[b]? = some (.cells #[v0,v1,v2] 50 (0,0)) ∧ Y§ = U§ ∧ (∀ k,k ≠ b → Y.heap[k]? = U.heap[k]?) ∧ (∀ (w : World) (F : Nat → Prop),Mv w U F → w§ ≤ b → Mv w Y F) := by
 have h1 : (U.setCell ⟨b,0,none⟩ v0).heap[b]? = some (.cells #[v0,a1,a2] 50 (0,0)) := heap_set v0 h
 have h2 : ((U.setCell ⟨b,0,none⟩ v0).setCell ⟨b,1,none⟩ v1).heap[b]? = some (.cells #[v0,v1,a2] 50 (0,0)) := heap_set v1 h1
 refine ⟨_,rfl,heap_set v2 h2,by simp [World.setCell],fun k hk => ?_,fun w F m hb => ((m.setCell (a := ⟨b,0,none⟩) (.inr hb) v0).setCell (a := ⟨b,1,none⟩) (.inr hb) v1).setCell (a := ⟨b,2,none⟩) (.inr hb) v2⟩
 iterate 3 (refine (Below.heap_setCell _ _ _ _ (show k ≠ b from hk)).trans ?_)
 rfl
structure XZ (w : World) (V : World) : Prop where
 B : Below w§ w V
 z : V.heap[w§]? = some (.cells zNo 64 (0,0))
 f : V.heap[w§ + 1]? = some (.cells #[zI 0,zI 0,.bool false] 50 (0,0))
theorem XZ.hid {w V : World} (h : XZ w V) : Hid (XZ w V) := h
theorem XZ.new (w : World) : XZ w ((w.alloc (.cells zNo 64)).alloc (.cells #[zI 0,zI 0,.bool false] 50)) := by
 have b1 := below_new w (.cells zNo 64)
 have s1 := size_alloc w (.cells zNo 64)
 have n1 := heap_new w (.cells zNo 64)
 have b2 := below_new (w.alloc (.cells zNo 64)) (.cells #[zI 0,zI 0,.bool false] 50)
 have n2 := heap_new (w.alloc (.cells zNo 64)) (.cells #[zI 0,zI 0,.bool false] 50)
 rw [s1] at n2
 exact ⟨below2 b1 b2,(b2.block _ (by omega)).trans n1,n2⟩
theorem XZ.mv {w V V' : World} (h : XZ w V) {F : Nat → Prop} (m : Mv V V' F) (hF : ∀ k,F k → w§ + 1 < k) : XZ w V' := by
 have hz := (Array.getElem?_eq_some_iff.1 h.z).1
 have hf := (Array.getElem?_eq_some_iff.1 h.f).1
 have hs := h.B.size
 refine ⟨?_,(m.block _ hz (fun e => by have := hF _ e; omega)).trans h.z,(m.block _ hf (fun e => by have := hF _ e; omega)).trans h.f⟩
 have m1 : Mv w V (fun k => w§ + 1 < k) := Mv.ofBelow h.B
 exact (m1.trans m (fun k e => .inl (hF k e))).below (Nat.le_refl _) (fun k e => by omega)
theorem XZ.on {w V V' : World} (h : XZ w V) (k : Below V§ V V') : XZ w V' := h.mv (F := fun _ => False) (Mv.ofBelow k) (fun _ e => e.elim)
set_option maxRecDepth 100000 in
set_option maxHeartbeats 4000000 in
theorem exprX (s : ByteArray) (w : World) : Calls zG 17 #[.string s] w (OutX s w) := by
 have HX := (XZ.new w).hid
 obtain ⟨W0,eW0⟩ : ∃ W,(w.alloc (.cells zNo 64)).alloc (.cells #[zI 0,zI 0,.bool false] 50) = W := ⟨_,rfl⟩
 rw [eW0] at HX
 have cB := begin_d s W0
 go_enter Tryz.func17,Tryz.ntmps17
 go_wp2_with fail
 try rw [eW0]
 refine cB.mono ?_
 rintro e w1 ⟨b,K,rfl,hb,hs,hK,hgd,hT,hE,hB⟩
 have HX1 := (HX.out.on hB).hid
 have hz0 := (Array.getElem?_eq_some_iff.1 HX.out.f).1
 have HB1 : Hid (w§ + 1 < b) := by show _ < _; omega
 have HBL : Hid (b < w1§) := hs.lw.1
 have HK : Hid (KOk K) := hK
 have HT : Hid (K.T = rdT s) := hT
 have HE : Hid ((K.lg = false ∧ K.be = tksE s ∧ K.ba = tksB s) ∨ (K.lg = true ∧ tksE s = 110 ∧ tksB s = 0)) := hE
 have cE := expr0_d hK w1 (nf (rdT s)) hs
 rw [rd_nf exprT_nil] at cE
 clear cB hb hs hK hgd hT hE hB hz0 HX eW0
 go_wp2_with fail
 refine cE.mono ?_
 rintro e w2 ⟨⟨⟨k2,o2,ty2,n2,f2,x2,p2⟩,am2,cm2,ks2⟩,rfl,hl,hk,hs,hm,ht⟩
 simp only [Nd.vals,Nd.h,Nd.a,Nd.c,Nd.ks,hdA]
 have HX2 := ((HX1.out.mv hm (fun k e => by rw [e]; exact HB1.out)).on (below_new w2 (.cells #[zU k2,zU o2,zU ty2,zI n2,zU f2,.string x2,.slice am2 ks2.length cm2,zI p2] 64))).hid
 have hn := below_new w2 (.cells #[zU k2,zU o2,zU ty2,zI n2,zU f2,.string x2,.slice am2 ks2.length cm2,zI p2] 64)
 have hN := heap_new w2 (.cells #[zU k2,zU o2,zU ty2,zI n2,zU f2,.string x2,.slice am2 ks2.length cm2,zI p2] 64)
 have HL2 := (hl.on hn).hid
 have hs2 := hs.on hn
 have hz1 := (Array.getElem?_eq_some_iff.1 HX1.out.f).1
 have HQ : Hid (w1§ ≤ w2§ ∧ w§ + 1 < w1§ ∧ b < w1§) := ⟨hm.size,hz1,HBL.out⟩
 have HK2 : Hid (Bkn (fun k => w1§ ≤ k ∧ k < w2§) (Nd.mk ⟨k2,o2,ty2,n2,f2,x2,p2⟩ am2 cm2 ks2)) := hk
 have HT2 : Hid (∀ q,exprT (rdT s) = .ok q → treeOf (Nd.mk ⟨k2,o2,ty2,n2,f2,x2,p2⟩ am2 cm2 ks2) = q.1) := ht
 have HN2 : Hid ((w2.alloc (.cells #[zU k2,zU o2,zU ty2,zI n2,zU f2,.string x2,.slice am2 ks2.length cm2,zI p2] 64)).heap[w2§]? = some (.cells #[zU k2,zU o2,zU ty2,zI n2,zU f2,.string x2,.slice am2 ks2.length cm2,zI p2] 64 (0,0))) := hN
 have cF := end_s hs2
 have hsz := size_alloc w2 (.cells #[zU k2,zU o2,zU ty2,zI n2,zU f2,.string x2,.slice am2 ks2.length cm2,zI p2] 64)
 have HSZ : Hid ((w2.alloc (.cells #[zU k2,zU o2,zU ty2,zI n2,zU f2,.string x2,.slice am2 ks2.length cm2,zI p2] 64))§ = w2§ + 1) := hsz
 clear cE hl hk hs hm ht hN hn hs2 hz1 HX1 hsz
 obtain ⟨s2,es2⟩ : ∃ q,dEnd (stOf (exprT (rdT s))) = q := ⟨_,rfl⟩
 have HS2 : Hid (dEnd (stOf (exprT (rdT s))) = s2) := es2
 rw [es2] at cF
 clear es2
 go_wp2_with fail
 refine cF.mono ?_
 rintro e w3 ⟨rfl,hs,hm⟩
 have HX3 := (HX2.out.mv hm (fun k e => by rw [e]; exact HB1.out)).hid
 have hN3 : w3.heap[w2§]? = some (.cells #[zU k2,zU o2,zU ty2,zI n2,zU f2,.string x2,.slice am2 ks2.length cm2,zI p2] 64 (0,0)) := (hm.block _ (by have := HSZ.out; omega) (by have := HQ.out; omega)).trans HN2.out
 have HL3 : Hid (Lies w3 (Nd.mk ⟨k2,o2,ty2,n2,f2,x2,p2⟩ am2 cm2 ks2)) := HL2.out.bkn HK2.out fun j hj => hm.block j (by have := HSZ.out; omega) (by have := HQ.out; omega)
 have HZ3 : Hid (w2§ + 1 ≤ w3§) := by have := hm.size; have := HSZ.out; show _ ≤ _; omega
 clear cF hm HX2 HL2 HN2
 cases s2 with
 | ok ts =>
  obtain ⟨q,e1,e2⟩ := whole_ok HS2.out
  have HW : Hid (gWhole s = .ok q.1) := e2
  have HTR : Hid (treeOf (Nd.mk ⟨k2,o2,ty2,n2,f2,x2,p2⟩ am2 cm2 ks2) = q.1) := HT2.out q e1
  obtain ⟨i,p,u,hp,_⟩ : Lv w3 b K ts := hs
  have cO := over_no hp
  clear hp e1 e2
  go_upto_region 4 with fail
  go_wp2_with fail
  refine cO.mono ?_
  rintro e w4 ⟨rfl,e9⟩
  obtain rfl := e9.symm
  clear cO e9
  have x0' : w3.cell? ⟨w2§,0,none⟩ = some (zU k2) := cell_of hN3 0
  have z0 : w3.cell? ⟨w§,0,none⟩ = some (zU 0) := cell_of HX3.out.z 0
  have q0 : w3.frozen? ⟨w§,0,none⟩ = false := frozen_of HX3.out.z 0
  have x1' : w3.cell? ⟨w2§,1,none⟩ = some (zU o2) := cell_of hN3 1
  have z1 : w3.cell? ⟨w§,1,none⟩ = some (zU 0) := cell_of HX3.out.z 1
  have q1 : w3.frozen? ⟨w§,1,none⟩ = false := frozen_of HX3.out.z 1
  have x2' : w3.cell? ⟨w2§,2,none⟩ = some (zU ty2) := cell_of hN3 2
  have z2 : w3.cell? ⟨w§,2,none⟩ = some (zU 0) := cell_of HX3.out.z 2
  have q2 : w3.frozen? ⟨w§,2,none⟩ = false := frozen_of HX3.out.z 2
  have x3' : w3.cell? ⟨w2§,3,none⟩ = some (zI n2) := cell_of hN3 3
  have z3 : w3.cell? ⟨w§,3,none⟩ = some (zI 0) := cell_of HX3.out.z 3
  have q3 : w3.frozen? ⟨w§,3,none⟩ = false := frozen_of HX3.out.z 3
  have x4' : w3.cell? ⟨w2§,4,none⟩ = some (zU f2) := cell_of hN3 4
  have z4 : w3.cell? ⟨w§,4,none⟩ = some (zU 0) := cell_of HX3.out.z 4
  have q4 : w3.frozen? ⟨w§,4,none⟩ = false := frozen_of HX3.out.z 4
  have x5' : w3.cell? ⟨w2§,5,none⟩ = some (.string x2) := cell_of hN3 5
  have z5 : w3.cell? ⟨w§,5,none⟩ = some (.string ⟨#[]⟩) := cell_of HX3.out.z 5
  have q5 : w3.frozen? ⟨w§,5,none⟩ = false := frozen_of HX3.out.z 5
  have x6' : w3.cell? ⟨w2§,6,none⟩ = some (.slice am2 ks2.length cm2) := cell_of hN3 6
  have z6 : w3.cell? ⟨w§,6,none⟩ = some (.slice none 0 0) := cell_of HX3.out.z 6
  have q6 : w3.frozen? ⟨w§,6,none⟩ = false := frozen_of HX3.out.z 6
  have x7' : w3.cell? ⟨w2§,7,none⟩ = some (zI p2) := cell_of hN3 7
  have z7 : w3.cell? ⟨w§,7,none⟩ = some (zI 0) := cell_of HX3.out.z 7
  have q7 : w3.frozen? ⟨w§,7,none⟩ = false := frozen_of HX3.out.z 7
  obtain ⟨Y,eY,hY1,hY2,hY3,hY4⟩ := fin8 HX3.out.z (zU k2) (zU o2) (zU ty2) (zI n2) (zU f2) (.string x2) (.slice am2 ks2.length cm2) (zI p2)
  have hYf : Y.heap[w§ + 1]? = some (.cells #[zI 0,zI 0,.bool false] 50 (0,0)) := (hY3 _ (by omega)).trans HX3.out.f
  obtain ⟨U,eU,hU1,hU2,hU3,hU4⟩ := fin3f hYf (zI 0) (zI 0) (.bool false)
  have HEY : Hid (((((((((w3.setCell ⟨w§,0,none⟩ (zU k2)).setCell ⟨w§,1,none⟩ (zU o2)).setCell ⟨w§,2,none⟩ (zU ty2)).setCell ⟨w§,3,none⟩ (zI n2)).setCell ⟨w§,4,none⟩ (zU f2)).setCell ⟨w§,5,none⟩ (.string x2)).setCell ⟨w§,6,none⟩ (.slice am2 ks2.length cm2)).setCell ⟨w§,7,none⟩ (zI p2)) = Y) := eY
  have HEU : Hid ((((Y.setCell ⟨w§ + 1,0,none⟩ (zI 0)).setCell ⟨w§ + 1,1,none⟩ (zI 0)).setCell ⟨w§ + 1,2,none⟩ (.bool false)) = U) := eU
  have fg0 : w3.cell? ⟨w§ + 1,0,none⟩ = some (zI 0) := cell_of HX3.out.f 0
  have fk0 : w3.frozen? ⟨w§ + 1,0,none⟩ = false := frozen_of HX3.out.f 0
  have fg1 : w3.cell? ⟨w§ + 1,1,none⟩ = some (zI 0) := cell_of HX3.out.f 1
  have fk1 : w3.frozen? ⟨w§ + 1,1,none⟩ = false := frozen_of HX3.out.f 1
  have fg2 : w3.cell? ⟨w§ + 1,2,none⟩ = some (.bool false) := cell_of HX3.out.f 2
  have fk2 : w3.frozen? ⟨w§ + 1,2,none⟩ = false := frozen_of HX3.out.f 2
  have HF : Hid (U.heap[w§]? = some (.cells (Nd.mk ⟨k2,o2,ty2,n2,f2,x2,p2⟩ am2 cm2 ks2).vals 64 (0,0)) ∧ U.heap[w§ + 1]? = some (.cells #[zI 0,zI 0,.bool false] 50 (0,0)) ∧ Lies U (Nd.mk ⟨k2,o2,ty2,n2,f2,x2,p2⟩ am2 cm2 ks2) ∧ Bkn (fun k => w§ ≤ k ∧ k < U§) (Nd.mk ⟨k2,o2,ty2,n2,f2,x2,p2⟩ am2 cm2 ks2) ∧ Below w§ w U) := by
   have hq := HQ.out
   have hz := HZ3.out
   refine ⟨(hU3 _ (by omega)).trans hY1,hU1,HL3.out.bkn HK2.out fun j hj => (hU3 j (by omega)).trans (hY3 j (by omega)),HK2.out.mono fun j hj => ⟨by omega,by omega⟩,?_⟩
   exact (hU4 w (fun _ => False) (hY4 w (fun _ => False) (Mv.ofBelow HX3.out.B) (Nat.le_refl _)) (by omega)).below (Nat.le_refl _) (fun _ e => e.elim)
  clear hN3 eY eU hY1 hY2 hY3 hY4 hU1 hU2 hU3 hU4 hYf
  go_wp2_with fail
  rw [HEY.out,HEU.out]
  refine bodyPost_ret (results_cc rfl _ _ w§ (w§ + 1) 64 50 (Nd.mk ⟨k2,o2,ty2,n2,f2,x2,p2⟩ am2 cm2 ks2).vals #[zI 0,zI 0,.bool false] (0,0) (0,0) _ _ rfl HF.out.1 Tryz.underlying64 rfl zK rfl HF.out.2.1 Tryz.underlying50 rfl zK) rfl ⟨?_,HF.out.2.2.2.2⟩
  rw [HW.out]
  exact ⟨_,rfl,HTR.out,HF.out.2.2.1,HF.out.2.2.2.1⟩
 | error f =>
  have HW : Hid (gWhole s = .error f) := whole_err HS2.out
  obtain ⟨i,E,P,T,hp,he,hft⟩ : ∃ i E P T,Pr w3 b K i E P T ∧ E ≠ 0 ∧ ftT s f = (E,P,T) := by
   cases f with
   | tok no p =>
    obtain ⟨i,h1,h2⟩ := hs
    exact ⟨i,no,p,false,h1,h2,rfl⟩
   | lex =>
    obtain ⟨i,e,p,h1,h2⟩ := hs
    have h0 : tksE s ≠ 0 := fun h => whole_lex h HW.out
    rcases HE.out with ⟨l1,l2,l3⟩ | ⟨l1,l2,l3⟩
    ·rcases h2 with h2 | ⟨h2,h3⟩
     ·rw [l1] at h2; cases h2
     ·subst h2 h3
      exact ⟨i,_,_,true,h1,by rw [l2]; exact h0,by simp only [ftT,l2,l3]⟩
    ·obtain ⟨z1,z2,_⟩ := h1.z l1
     subst z1 z2
     exact ⟨i,_,_,true,h1,by decide,by simp only [ftT,l2,l3]⟩
  have HFT : Hid (ftT s f = (E,P,T)) := hft
  have HE0 : Hid (E ≠ 0) := he
  have HP := hp.hid
  have cO := over_yes hp he
  clear hp he hs hft HS2 hN3
  go_upto_region 4 with fail
  go_wp2_with fail
  refine cO.mono ?_
  rintro e w4 ⟨rfl,e9⟩
  obtain rfl := e9.symm
  clear cO e9
  go_upto_region 5 with fail
  have c4 : w3.cell? ⟨b,4,none⟩ = some (zI E) := cell_of HP.out.h 4
  have c5 : w3.cell? ⟨b,5,none⟩ = some (zI P) := cell_of HP.out.h 5
  have c6 : w3.cell? ⟨b,6,none⟩ = some (.bool T) := cell_of HP.out.h 6
  refine wp_region_held_drew (S := fun v => v.cell? ⟨b,4,none⟩ = some (zI E) ∧ v.cell? ⟨b,5,none⟩ = some (zI P) ∧ v.cell? ⟨b,6,none⟩ = some (.bool T)) zK ⟨c4,c5,c6⟩ (fun hHeld => ?_)
  refine wpAnyH_take (i := 0) (v := ?_) rfl zK zK zK (fun _ _ _ h => h) (Or.inl ⟨by rfl,?_⟩) (by assumption) ?_
  rotate_left
  ·(intro v hv; obtain ⟨t4,t5,t6⟩ := hv; go_simp; try (with_reducible rfl))
  try simp [Act.put]
  refine wpAnyH_take (i := 1) (v := ?_) rfl zK zK zK (fun _ _ _ h => h) (Or.inl ⟨by rfl,?_⟩) (by assumption) ?_
  rotate_left
  ·(intro v hv; obtain ⟨t4,t5,t6⟩ := hv; go_simp; try (with_reducible rfl))
  try simp [Act.put]
  refine wpAnyH_take (i := 2) (v := ?_) rfl zK zK zK (fun _ _ _ h => h) (Or.inl ⟨by rfl,?_⟩) (by assumption) ?_
  rotate_left
  ·(intro v hv; obtain ⟨t4,t5,t6⟩ := hv; go_simp; try (with_reducible rfl))
  try simp [Act.put]
  refine wpAnyH_take (i := 3) (v := ?_) rfl zK zK zK (fun _ _ _ h => h) (Or.inl ⟨by rfl,?_⟩) (by assumption) ?_
  rotate_left
  ·(intro v hv; obtain ⟨t4,t5,t6⟩ := hv; go_simp; try (with_reducible rfl))
  try simp [Act.put]
  refine wpAnyH_take (i := 4) (v := ?_) rfl zK zK zK (fun _ _ _ h => h) (Or.inl ⟨by rfl,?_⟩) (by assumption) ?_
  rotate_left
  ·(intro v hv; obtain ⟨t4,t5,t6⟩ := hv; go_simp; try (with_reducible rfl))
  try simp [Act.put]
  obtain ⟨U,eU⟩ : ∃ U,w3.drew = U := ⟨_,rfl⟩
  have HXU : Hid (XZ w U) := by
   have h1 := HX3.out
   rw [← eU]
   exact ⟨h1.B.drew,h1.z,h1.f⟩
  have HPU := (HP.out.blk (w' := U) (fun _ _ => by rw [← eU]; rfl)).hid
  rw [eU] at hHeld ⊢
  clear eU c4 c5 c6 HX3 HP
  have hbb := HB1.out
  have z0 : U.cell? ⟨w§,0,none⟩ = some (zU 0) := cell_of HXU.out.z 0
  have q0 : U.frozen? ⟨w§,0,none⟩ = false := frozen_of HXU.out.z 0
  have z1 : U.cell? ⟨w§,1,none⟩ = some (zU 0) := cell_of HXU.out.z 1
  have q1 : U.frozen? ⟨w§,1,none⟩ = false := frozen_of HXU.out.z 1
  have z2 : U.cell? ⟨w§,2,none⟩ = some (zU 0) := cell_of HXU.out.z 2
  have q2 : U.frozen? ⟨w§,2,none⟩ = false := frozen_of HXU.out.z 2
  have z3 : U.cell? ⟨w§,3,none⟩ = some (zI 0) := cell_of HXU.out.z 3
  have q3 : U.frozen? ⟨w§,3,none⟩ = false := frozen_of HXU.out.z 3
  have z4 : U.cell? ⟨w§,4,none⟩ = some (zU 0) := cell_of HXU.out.z 4
  have q4 : U.frozen? ⟨w§,4,none⟩ = false := frozen_of HXU.out.z 4
  have z5 : U.cell? ⟨w§,5,none⟩ = some (.string ⟨#[]⟩) := cell_of HXU.out.z 5
  have q5 : U.frozen? ⟨w§,5,none⟩ = false := frozen_of HXU.out.z 5
  have z6 : U.cell? ⟨w§,6,none⟩ = some (.slice none 0 0) := cell_of HXU.out.z 6
  have q6 : U.frozen? ⟨w§,6,none⟩ = false := frozen_of HXU.out.z 6
  have z7 : U.cell? ⟨w§,7,none⟩ = some (zI 0) := cell_of HXU.out.z 7
  have q7 : U.frozen? ⟨w§,7,none⟩ = false := frozen_of HXU.out.z 7
  have fg0 : U.cell? ⟨w§ + 1,0,none⟩ = some (zI 0) := cell_of HXU.out.f 0
  have fk0 : U.frozen? ⟨w§ + 1,0,none⟩ = false := frozen_of HXU.out.f 0
  have fg1 : U.cell? ⟨w§ + 1,1,none⟩ = some (zI 0) := cell_of HXU.out.f 1
  have fk1 : U.frozen? ⟨w§ + 1,1,none⟩ = false := frozen_of HXU.out.f 1
  have fg2 : U.cell? ⟨w§ + 1,2,none⟩ = some (.bool false) := cell_of HXU.out.f 2
  have fk2 : U.frozen? ⟨w§ + 1,2,none⟩ = false := frozen_of HXU.out.f 2
  refine wpAnyH_ready (rs := [5]) zK (by simp) ?_
  refine AllReadyH.cons rfl (fun K' hK => ?_) AllReadyH.nil
  ·obtain ⟨Y,eY,hY1,hY2,hY3,hY4⟩ := fin8 HXU.out.z (zU 0) (zU 0) (zU 0) (zI 0) (zU 0) (.string ⟨#[]⟩) (.slice none 0 0) (zI 0)
   have hYf : Y.heap[w§ + 1]? = some (.cells #[zI 0,zI 0,.bool false] 50 (0,0)) := (hY3 _ (by omega)).trans HXU.out.f
   obtain ⟨Z,eZ,hZ1,hZ2,hZ3,hZ4⟩ := fin3f hYf (zI E) (zI P) (.bool T)
   have HEY : Hid (((((((((U.setCell ⟨w§,0,none⟩ (zU 0)).setCell ⟨w§,1,none⟩ (zU 0)).setCell ⟨w§,2,none⟩ (zU 0)).setCell ⟨w§,3,none⟩ (zI 0)).setCell ⟨w§,4,none⟩ (zU 0)).setCell ⟨w§,5,none⟩ (.string ⟨#[]⟩)).setCell ⟨w§,6,none⟩ (.slice none 0 0)).setCell ⟨w§,7,none⟩ (zI 0)) = Y) := eY
   have HEZ : Hid (((((Y.setCell ⟨w§ + 1,0,none⟩ (zI E)).setCell ⟨w§ + 1,1,none⟩ (zI P)).setCell ⟨w§ + 1,2,none⟩ (.bool T))) = Z) := eZ
   have hYb : Y.heap[b]? = U.heap[b]? := hY3 b (by omega)
   have hZb : Z.heap[b]? = U.heap[b]? := (hZ3 b (by omega)).trans hYb
   have HSY : Hid (Y.cell? ⟨b,4,none⟩ = some (zI E) ∧ Y.cell? ⟨b,5,none⟩ = some (zI P) ∧ Y.cell? ⟨b,6,none⟩ = some (.bool T)) := by
    have h1 := hYb.trans HPU.out.h
    exact ⟨cell_of h1 4,cell_of h1 5,cell_of h1 6⟩
   have HSZ2 : Hid (Z.cell? ⟨b,4,none⟩ = some (zI E) ∧ Z.cell? ⟨b,5,none⟩ = some (zI P) ∧ Z.cell? ⟨b,6,none⟩ = some (.bool T)) := by
    have h1 := hZb.trans HPU.out.h
    exact ⟨cell_of h1 4,cell_of h1 5,cell_of h1 6⟩
   have HF : Hid (Z.heap[w§]? = some (.cells nul8 64 (0,0)) ∧ Z.heap[w§ + 1]? = some (.cells #[zI E,zI P,.bool T] 50 (0,0)) ∧ Below w§ w Z) := by
    refine ⟨(hZ3 _ (by omega)).trans hY1,hZ1,?_⟩
    exact (hZ4 w (fun _ => False) (hY4 w (fun _ => False) (Mv.ofBelow HXU.out.B) (Nat.le_refl _)) (by omega)).below (Nat.le_refl _) (fun _ e => e.elim)
   clear eY eZ hY1 hY2 hY3 hY4 hZ1 hZ2 hZ3 hZ4 hYb hZb
   go_simp
   rw [HEY.out]
   refine hK.out _ _ HSY.out (fun hHeld5 => ?_)
   clear hK K'
   have fg0' : Y.cell? ⟨w§ + 1,0,none⟩ = some (zI 0) := cell_of hYf 0
   have fk0' : Y.frozen? ⟨w§ + 1,0,none⟩ = false := frozen_of hYf 0
   have fg1' : Y.cell? ⟨w§ + 1,1,none⟩ = some (zI 0) := cell_of hYf 1
   have fk1' : Y.frozen? ⟨w§ + 1,1,none⟩ = false := frozen_of hYf 1
   have fg2' : Y.cell? ⟨w§ + 1,2,none⟩ = some (.bool false) := cell_of hYf 2
   have fk2' : Y.frozen? ⟨w§ + 1,2,none⟩ = false := frozen_of hYf 2
   clear hYf
   refine wpAnyH_ready (rs := [6]) zK (by simp) ?_
   refine AllReadyH.cons rfl (fun K' hK => ?_) AllReadyH.nil
   go_simp
   rw [HEZ.out]
   refine hK.out _ _ HSZ2.out (fun hHeld6 => ?_)
   clear hK K'
   refine wpAnyH_done zK ?_ _
   go_wp2_with fail
   refine bodyPost_ret (results_cc rfl _ _ w§ (w§ + 1) 64 50 nul8 #[zI E,zI P,.bool T] (0,0) (0,0) _ _ rfl HF.out.1 Tryz.underlying64 rfl zK rfl HF.out.2.1 Tryz.underlying50 rfl zK) rfl ⟨?_,HF.out.2.2⟩
   rw [HW.out]
   refine ⟨?_,?_⟩
   ·rw [HFT.out]; exact HE0.out
   ·simp only [HFT.out]
mutual
def tsz : Tr → Nat
 | .mk _ ks => 1 + tszs ks
def tszs : List Tr → Nat
 | [] => 0
 | k :: ks => tsz k + tszs ks
end
theorem size_trees {ks : List Nd} (ih : ∀ k ∈ ks,size k = tsz (treeOf k)) : sizes ks = tszs (treesOf ks) := by
 induction ks with
 | nil => rfl
 | cons k ks h =>
  simp only [sizes,treesOf,tszs]
  rw [ih k (List.mem_cons_self ..),h fun x hx => ih x (List.mem_cons_of_mem _ hx)]
theorem size_tree : ∀ m : Nd,size m = tsz (treeOf m) := by
 refine Nd.ind fun h a c ks ih => ?_
 simp only [size,treeOf,tsz]
 rw [size_trees ih]
def Less (p : List Tk → Except Ft (Tr × List Tk)) : Prop := ∀ ts t r,p ts = .ok (t,r) → tsz t + r.length ≤ ts.length
theorem gStep_less {ts : List Tk} {q : Tk × List Tk} (h : gStep ts = .ok q) : q.2.length + 1 = ts.length := by
 cases ts with
 | nil => cases h
 | cons t ts => cases h; rfl
theorem gTake_less {y : ByteArray} {ts : List Tk} {q : Tk × List Tk} (h : gTake y ts = .ok q) : q.2.length + 1 = ts.length := by
 unfold gTake at h
 obtain ⟨_,_,h⟩ := bind_ok h
 obtain ⟨_,_,h⟩ := bind_ok h
 exact gStep_less h
theorem gOpn_less {d : Nat} {ts : List Tk} {q : Tk × List Tk} (h : gOpn d ts = .ok q) : q.2.length + 1 = ts.length := by
 unfold gOpn at h
 obtain ⟨_,_,h⟩ := bind_ok h
 exact gStep_less h
theorem gLit_less : Less gLit := by
 intro ts t r h
 unfold gLit at h
 obtain ⟨_,_,h⟩ := bind_ok h
 obtain ⟨_,_,h⟩ := bind_ok h
 obtain ⟨q,h1,h⟩ := bind_ok h
 have := gStep_less h1
 cases h
 simp only [tsz,tszs]; omega
theorem gRowR_less (oper : ByteArray → Int) {part : List Tk → Except Ft (Tr × List Tk)} (hp : Less part) : ∀ m n ts t r,gRowR oper part m n ts = .ok (t,r) → tsz t + r.length ≤ tsz n + ts.length := by
 intro m
 induction m with
 | zero => intro n ts t r h; cases h; omega
 | succ m ih =>
  intro n ts t r h
  unfold gRowR at h
  obtain ⟨u,_,h⟩ := bind_ok h
  split at h
  ·cases h; omega
  ·obtain ⟨q,h1,h⟩ := bind_ok h
   obtain ⟨q2,h2,h⟩ := bind_ok h
   have h3 := ih _ _ _ _ h
   have h4 := gStep_less h1
   have h5 := hp _ _ _ h2
   simp only [tsz,tszs] at h3
   omega
theorem gRow_less (oper : ByteArray → Int) {part : List Tk → Except Ft (Tr × List Tk)} (hp : Less part) (m : Nat) : Less (gRow oper part m) := by
 intro ts t r h
 unfold gRow at h
 obtain ⟨q,h1,h⟩ := bind_ok h
 have h2 := hp _ _ _ h1
 have h3 := gRowR_less oper hp m _ _ _ _ h
 omega
theorem gOne_less {ex : List Tk → Except Ft (Tr × List Tk)} (he : Less ex) (d : Nat) : Less (gOne ex d) := by
 intro ts t r h
 unfold gOne at h
 obtain ⟨u,_,h⟩ := bind_ok h
 split at h
 ·obtain ⟨q1,h1,h⟩ := bind_ok h
  obtain ⟨q2,h2,h⟩ := bind_ok h
  obtain ⟨q3,h3,h⟩ := bind_ok h
  have h1 := gOpn_less h1; have h2 := he _ _ _ h2; have h3 := gTake_less h3
  cases h
  omega
 split at h
 ·obtain ⟨q1,h1,h⟩ := bind_ok h
  obtain ⟨_,_,h⟩ := bind_ok h
  obtain ⟨_,_,h⟩ := bind_ok h
  obtain ⟨q2,h2,h⟩ := bind_ok h
  have h1 := gStep_less h1; have h2 := gStep_less h2
  cases h
  simp only [tsz,tszs]; omega
 split at h
 ·obtain ⟨q1,h1,h⟩ := bind_ok h
  obtain ⟨⟨u2,r2⟩,h2,h⟩ := bind_ok h
  have h1 := gOpn_less h1; have h2 := gTake_less h2
  simp only at h h2
  split at h
  ·obtain ⟨q3,h3,h⟩ := bind_ok h
   obtain ⟨q4,h4,h⟩ := bind_ok h
   have h3 := he _ _ _ h3; have h4 := gTake_less h4
   cases h
   simp only [tsz,tszs]; omega
  ·obtain ⟨q3,h3,h⟩ := bind_ok h
   obtain ⟨q4,h4,h⟩ := bind_ok h
   obtain ⟨q5,h5,h⟩ := bind_ok h
   obtain ⟨q6,h6,h⟩ := bind_ok h
   have h3 := he _ _ _ h3; have h4 := gTake_less h4; have h5 := he _ _ _ h5; have h6 := gTake_less h6
   cases h
   simp only [tsz,tszs]; omega
 split at h
 ·obtain ⟨q1,h1,h⟩ := bind_ok h
  obtain ⟨q2,h2,h⟩ := bind_ok h
  obtain ⟨q3,h3,h⟩ := bind_ok h
  obtain ⟨q4,h4,h⟩ := bind_ok h
  have h1 := gOpn_less h1; have h2 := gTake_less h2; have h3 := he _ _ _ h3; have h4 := gTake_less h4
  cases h
  simp only [tsz,tszs]; omega
 split at h
 ·obtain ⟨q1,h1,h⟩ := bind_ok h
  have h1 := gStep_less h1
  cases h
  simp only [tsz,tszs]; omega
 split at h
 ·obtain ⟨q1,h1,h⟩ := bind_ok h
  have h1 := gStep_less h1
  cases h
  simp only [tsz,tszs]; omega
 exact gLit_less _ _ _ h
theorem gUn_less {ex un : List Tk → Except Ft (Tr × List Tk)} (he : Less ex) (hu : Less un) (d : Nat) : Less (gUn ex un d) := by
 intro ts t r h
 unfold gUn at h
 obtain ⟨u,_,h⟩ := bind_ok h
 split at h
 ·exact gOne_less he d _ _ _ h
 ·obtain ⟨q1,h1,h⟩ := bind_ok h
  obtain ⟨q2,h2,h⟩ := bind_ok h
  have h1 := gOpn_less h1; have h2 := hu _ _ _ h2
  cases h
  simp only [tsz,tszs]; omega
theorem gEx_less {ex un : List Tk → Except Ft (Tr × List Tk)} (he : Less ex) (hu : Less un) (d : Nat) : Less (gEx ex un d) := by
 intro ts t r h
 unfold gEx at h
 obtain ⟨q,h0,h⟩ := bind_ok h
 have hr := gRow_less orX (gRow_less andX (gRow_less cmpX (gRow_less sumX (gRow_less proX (gUn_less he hu d) 4096) 4096) 1) 4096) 4096 _ _ _ h0
 obtain ⟨b,_,h⟩ := bind_ok h
 split at h
 ·cases h; exact hr
 ·obtain ⟨q1,h1,h⟩ := bind_ok h
  obtain ⟨q2,h2,h⟩ := bind_ok h
  obtain ⟨q3,h3,h⟩ := bind_ok h
  obtain ⟨q4,h4,h⟩ := bind_ok h
  have h1 := gOpn_less h1; have h2 := he _ _ _ h2; have h3 := gTake_less h3; have h4 := he _ _ _ h4
  cases h
  simp only [tsz,tszs]; omega
theorem exF_less : ∀ f d,Less (exF f d) ∧ Less (unF f d) := by
 intro f
 induction f with
 | zero => intro d; exact ⟨fun ts t r h => (by rw [exF] at h; cases h),fun ts t r h => (by rw [unF] at h; cases h)⟩
 | succ f ih =>
  intro d
  refine ⟨fun ts t r h => ?_,fun ts t r h => ?_⟩
  ·rw [exF] at h; exact gEx_less (ih (d + 1)).1 (ih (d + 1)).2 d ts t r h
  ·rw [unF] at h; exact gUn_less (ih (d + 1)).1 (ih (d + 1)).2 d ts t r h
theorem whole_size {s : ByteArray} {t : Tr} (h : gWhole s = .ok t) : tsz t ≤ 4097 := by
 unfold gWhole at h
 split at h
 ·cases h
 ·rename_i q hq
  split at h
  ·cases h
  ·cases h
   have h1 := (exF_less 26 0).1 _ _ _ hq
   have h2 := rdT_len s
   omega
inductive Bk (P : Nat → Prop) : Nd → Prop
 | mk (h : Hd) (a : Option Addr) (c : Nat) (ks : List Nd) (hb : ∀ x,a = some x → P x.block) (hs : ∀ k ∈ ks,Bk P k) : Bk P (.mk h a c ks)
theorem Bk.mono {P Q : Nat → Prop} (h : ∀ b,P b → Q b) : ∀ {m : Nd},Bk P m → Bk Q m := by
 intro m hm
 induction hm with
 | mk g a c ks hb _ ih => exact .mk g a c ks (fun x e => h _ (hb x e)) ih
theorem Lies.bk {P : Nat → Prop} {w w' : World} (k : ∀ b,b < w§ → P b → w'.heap[b]? = w.heap[b]?) : ∀ {m : Nd},Lies w m → Bk P m → Lies w' m := by
 intro m hl
 induction hl with
 | mk h a c ks hr hc hm hk _ ih =>
  intro hB
  cases hB with
  | mk _ _ _ _ hb hs =>
   refine .mk h a c ks hr hc hm (fun i hi => ?_) (fun x hx => ih x hx (hs x hx))
   obtain ⟨b,o,e,hat⟩ := hk i hi
   exact ⟨b,o,e,hat.blk (k b hat.lt (hb _ e))⟩
inductive Twin : Nd → Nd → Prop
 | mk (h : Hd) (a a' : Option Addr) (c c' : Nat) (ks ks' : List Nd) (hl : ks'.length = ks.length) (hk : ∀ i (h1 : i < ks.length) (h2 : i < ks'.length),Twin ks[i] ks'[i]) : Twin (.mk h a c ks) (.mk h a' c' ks')
inductive SpN : Nd → (Nat → Prop) → Prop
 | mk (h : Hd) (a : Option Addr) (c : Nat) (ks : List Nd) (P : Nat → Prop) (Q : Nat → Nat → Prop) (ha : ∀ x,a = some x → P x.block ∧ x.off = 0 ∧ x.spot = none ∧ ∀ i,¬ Q i x.block)
   (hs : ∀ i (hi : i < ks.length),SpN ks[i] (Q i)) (hd : ∀ i j b,Q i b → Q j b → i = j) (hQ : ∀ i b,Q i b → P b) : SpN (.mk h a c ks) P
theorem SpN.mono {P P' : Nat → Prop} (hP : ∀ b,P b → P' b) : ∀ {m : Nd},SpN m P → SpN m P' := by
 intro m h
 cases h with
 | mk h a c ks P Q ha hs hd hQ => exact .mk h a c ks P' Q (fun x e => ⟨hP _ (ha x e).1,(ha x e).2⟩) hs hd (fun i b hq => hP b (hQ i b hq))
theorem SpN.bk {m : Nd} : ∀ {P : Nat → Prop},SpN m P → Bk P m := by
 refine Nd.ind (P := fun m => ∀ {P : Nat → Prop},SpN m P → Bk P m) (fun h a c ks ih P hS => ?_) m
 cases hS with
 | mk _ _ _ _ _ Q ha hs hd hQ =>
  refine .mk h a c ks (fun x e => (ha x e).1) (fun k hk => ?_)
  obtain ⟨i,hi,rfl⟩ := List.getElem_of_mem hk
  exact (ih _ hk (hs i hi)).mono fun b hb => hQ i b hb
inductive OwnT (w : World) : Nd → Prop
 | mk (h : Hd) (a : Option Addr) (c : Nat) (ks : List Nd) (hr : RowN w (.slice a ks.length c) ks) (hs : ∀ k ∈ ks,OwnT w k) : OwnT w (.mk h a c ks)
theorem OwnT.bk {P : Nat → Prop} {w w' : World} (k : ∀ b,b < w§ → P b → w'.heap[b]? = w.heap[b]?) : ∀ {m : Nd},OwnT w m → Bk P m → OwnT w' m := by
 intro m hl
 induction hl with
 | mk h a c ks hr _ ih =>
  intro hB
  cases hB with
  | mk _ _ _ _ hb hs =>
   refine .mk h a c ks (Row.of_block hr fun g hg => k g (Row.lt hr g hg) ?_) (fun x hx => ih x hx (hs x hx))
   cases a with
   | none => simp [Value.ownBlock] at hg
   | some x => simp [Value.ownBlock] at hg; rw [← hg]; exact hb x rfl
theorem OwnT.on {w w' : World} {m : Nd} (h : OwnT w m) (k : Below w§ w w') : OwnT w' m := by
 induction h with
 | mk h a c ks hr _ ih => exact .mk h a c ks (Row.of_block hr fun g hg => k.block g (Row.lt hr g hg)) ih
theorem len_sizes : ∀ (ks : List Nd),ks.length ≤ sizes ks
 | [] => Nat.le_refl _
 | j :: js => by
  have h1 := len_sizes js
  have h2 : 1 ≤ size j := by cases j; simp [size]
  simp only [sizes,List.length_cons]; omega
theorem infN : (Tryz.prog.info? 64).map (fun i => (i.zero,i.size,i.bytes)) = some (some (.agg zNo),8,72) := by kernel_rfl
def GBs (X v : World) : Prop := Below X§ X v
theorem GBs.refl (X : World) : GBs X X := Below.refl _ X
theorem GBs.drew {X v : World} (h : GBs X v) : GBs X v.drew := Below.drew h
theorem GBs.alloc {X v : World} (h : GBs X v) (o : Obj) : GBs X (v.alloc o) := Below.alloc h h.size o
theorem GBs.call {X u v : World} (k : Below u§ u v) (h : GBs X u) : GBs X v := Below.trans h (k.mono h.size)
theorem LiesO.own {w : World} {m : Nd} (h : LiesO w m) : OwnT w m := by
 induction h with
 | mk h a c ks hr hc hm hk hs ho hx hp ih => exact .mk h a c ks ho ih
def InB (m : Nd) (b : Nat) : Prop := ∀ P : Nat → Prop,Bkn P m → P b
theorem LiesO.spB {w : World} : ∀ {m : Nd},LiesO w m → SpN m (InB m) := by
 intro m
 refine Nd.ind (P := fun m => LiesO w m → SpN m (InB m)) (fun h a c ks ih hl => ?_) m
 cases hl with
 | mk _ _ _ _ hr hc hm hk hs ho hx hp =>
 refine .mk h a c ks _ (fun i b => ∃ hi : i < ks.length,InB ks[i] b) (fun x e => ?_) (fun i hi => (ih _ (List.getElem_mem hi) (hs _ (List.getElem_mem hi))).mono fun b hb => ⟨hi,hb⟩) (fun i j b hb hb' => ?_) (fun i b hb P hP => ?_)
 ·obtain ⟨hx1,hx2⟩ : x.off = 0 ∧ x.spot = none := by
   rcases ho.2 with ⟨e1,_⟩ | ⟨g,cap,cur,e1,_⟩
   ·injection e1 with e1; rw [e] at e1; cases e1
   ·injection e1 with e1; rw [e] at e1; injection e1 with e1; subst e1; exact ⟨rfl,rfl⟩
  refine ⟨fun P hP => ?_,hx1,hx2,fun i hb => ?_⟩
  ·cases hP with
   | mk _ _ _ _ h1 h2 =>
    refine h1 x.block 0 ?_
    rw [e]
    obtain ⟨b0,o0,s0⟩ := x
    simp only at hx1 hx2
    subst hx1; subst hx2; rfl
  ·obtain ⟨hi,hb⟩ := hb
   exact hb _ (hx x e _ (List.getElem_mem hi)) rfl
 ·obtain ⟨hi,hb⟩ := hb
  obtain ⟨hj,hb'⟩ := hb'
  have key : ∀ i j (hi : i < ks.length) (hj : j < ks.length),i < j → InB ks[i] b → InB ks[j] b → False := fun i j hi hj hlt h1 h2 => by
   obtain ⟨s,a1,a2⟩ := List.pairwise_iff_getElem.1 hp i j hi hj hlt
   have := h1 _ a1
   have := h2 _ a2
   omega
  rcases Nat.lt_trichotomy i j with h1 | h1 | h1
  ·exact (key i j hi hj h1 hb hb').elim
  ·exact h1
  ·exact (key j i hj hi h1 hb' hb).elim
 ·obtain ⟨hi,hb⟩ := hb
  cases hP with
  | mk _ _ _ _ h1 h2 => exact hb P (h2 _ (List.getElem_mem hi))
theorem LiesO.sp {w : World} {m : Nd} {P : Nat → Prop} (h : LiesO w m) (k : Bkn P m) : SpN m P := h.spB.mono fun b hb => hb P k
end Go.Proofs.YtkfabnchhjfjjaaGreatDoor
