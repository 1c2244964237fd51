import Derived.Test.YtkfabnchhjfjjaaGreatDoorA0
import Derived.Test.YtkfabnchhjfjjaaGreatDoorA4
import Derived.Test.YtkfabnchhjfjjaaGreatDoorA3
import Derived.Laws.EntriesVeiled
namespace Go.Proofs.YtkfabnchhjfjjaaGreatDoor
open Go.RowKit
theorem Mv.ofBelow {w w' : World} {F : Nat → Prop} (h : Below w§ w w') : Mv w w' F := ⟨h.os,h.tape,h.output,h.size,fun k hk _ => h.block k hk⟩
theorem put5 {w : World} {b : Nat} {a0 a1 a2 a3 a4 : Value} (h : w.heap[b]? = some (.cells #[a0,a1,a2,a3,a4] 82 (0,0))) (v0 v1 v2 v3 v4 : Value) : (((((w.setCell ⟨b,0,none⟩ v0).setCell ⟨b,1,none⟩ v1).setCell ⟨b,2,none⟩ v2).setCell ⟨b,3,none⟩ v3).setCell ⟨b,4,none⟩ v4).heap[b]? = some (.cells #[v0,v1,v2,v3,v4] 82 (0,0)) := by
 have h1 : (w.setCell ⟨b,0,none⟩ v0).heap[b]? = some (.cells #[v0,a1,a2,a3,a4] 82 (0,0)) := heap_set v0 h
 have h2 : ((w.setCell ⟨b,0,none⟩ v0).setCell ⟨b,1,none⟩ v1).heap[b]? = some (.cells #[v0,v1,a2,a3,a4] 82 (0,0)) := heap_set v1 h1
 have h3 : (((w.setCell ⟨b,0,none⟩ v0).setCell ⟨b,1,none⟩ v1).setCell ⟨b,2,none⟩ v2).heap[b]? = some (.cells #[v0,v1,v2,a3,a4] 82 (0,0)) := heap_set v2 h2
 have h4 : ((((w.setCell ⟨b,0,none⟩ v0).setCell ⟨b,1,none⟩ v1).setCell ⟨b,2,none⟩ v2).setCell ⟨b,3,none⟩ v3).heap[b]? = some (.cells #[v0,v1,v2,v3,a4] 82 (0,0)) := heap_set v3 h3
 exact heap_set v4 h4
theorem oth5 (w : World) {b c : Nat} (h : c ≠ b) (v0 v1 v2 v3 v4 : Value) : (((((w.setCell ⟨b,0,none⟩ v0).setCell ⟨b,1,none⟩ v1).setCell ⟨b,2,none⟩ v2).setCell ⟨b,3,none⟩ v3).setCell ⟨b,4,none⟩ v4).heap[c]? = w.heap[c]? := by
 iterate 5 (refine (Below.heap_setCell _ _ _ _ (show c ≠ b from h)).trans ?_)
 rfl
theorem mv5 {w0 w : World} {F : Nat → Prop} {b : Nat} (m : Mv w0 w F) (h : w0§ ≤ b) (v0 v1 v2 v3 v4 : Value) : Mv w0 (((((w.setCell ⟨b,0,none⟩ v0).setCell ⟨b,1,none⟩ v1).setCell ⟨b,2,none⟩ v2).setCell ⟨b,3,none⟩ v3).setCell ⟨b,4,none⟩ v4) F :=
 ((((m.setCell (a := ⟨b,0,none⟩) (.inr h) v0).setCell (a := ⟨b,1,none⟩) (.inr h) v1).setCell (a := ⟨b,2,none⟩) (.inr h) v2).setCell (a := ⟨b,3,none⟩) (.inr h) v3).setCell (a := ⟨b,4,none⟩) (.inr h) v4
theorem below2 {w w1 w2 : World} (h1 : Below w§ w w1) (h2 : Below w1§ w1 w2) : Below w§ w w2 := h1.trans (h2.mono h1.size)
set_option maxRecDepth 100000 in
theorem step_ok {w : World} {b G : Nat} {t : Tk} {ts : List Tk} {fa : Int} {fe : Value} {d : Nat} {a : Option Addr} {c : Nat} (h : Rdr w b G (t :: ts) fa fe d a c) :
  Calls zG 105 #[zP b] w fun e w' => e = .returned (.agg (tkA t)) ∧ (∃ a' c',Rdr w' b G ts fa fe d a' c') ∧ Mv w w' (fun k => k = b) := by
 obtain ⟨o,e,ht⟩ := h.r 0 (by simp)
 subst e
 have hn := h.gb
 have HH := h.hid
 have cL := look_ok (h.on (below_new w (.cells (tkA tk0) 82)))
 have hc : ts.length + 1 ≤ c := h.l
 have hm := h.m
 clear h ht
 unfold tkA tk0 at cL
 go_enter Tryz.func105,Tryz.ntmps105
 go_wp2_with fail
 refine cL.mono ?_
 rintro e w1 ⟨rfl,hb⟩
 have HBw : Hid (Below w§ w w1) := below2 (below_new _ _) hb
 have k0 : w1.heap[w§]? = some (.cells #[zU 0,.string ⟨#[]⟩,zU 0,zI 0,zI 0] 82 (0,0)) := (hb.block _ (by rw [size_alloc]; omega)).trans (heap_new _ _)
 go_upto_region 2 with fail
 obtain ⟨V,eV⟩ : ∃ V,w1.alloc (.cells #[zU t.k,.string t.x,zU t.ty,zI t.n,zI t.p] 82) = V := ⟨_,rfl⟩
 have hbV : Below w1§ w1 V := by rw [← eV]; exact below_new _ _
 have HBV : Hid (Below w§ w V) := below2 HBw.out hbV
 have HRV := (HH.out.on HBV.out).hid
 have HRb : Hid (V.heap[b]? = some (.cells #[.slice (some ⟨G,o,none⟩) (ts.length + 1) c,zI fa,fe,zI d] 207 (0,0))) := HRV.out.h
 have c0 : V.cell? ⟨b,0,none⟩ = some (.slice (some ⟨G,o,none⟩) (ts.length + 1) c) := cell_of HRb.out 0
 have f0 : V.frozen? ⟨b,0,none⟩ = false := frozen_of HRb.out 0
 have HV0 : Hid (V.heap[w§]? = some (.cells #[zU 0,.string ⟨#[]⟩,zU 0,zI 0,zI 0] 82 (0,0))) := (hbV.block _ (Array.getElem?_eq_some_iff.1 k0).1).trans k0
 obtain ⟨N,eN⟩ : ∃ N,w1§ = N := ⟨_,rfl⟩
 have HV1 : Hid (V.heap[N]? = some (.cells #[zU t.k,.string t.x,zU t.ty,zI t.n,zI t.p] 82 (0,0))) := by rw [← eV,← eN]; exact heap_new _ _
 have hbw : b < w§ := HH.out.lt
 have hNw : w§ < N := by have := (Array.getElem?_eq_some_iff.1 k0).1; omega
 rw [eV,eN]
 clear hb cL eV hbV k0 eN
 by_cases hc1 : c = 1
 ·subst hc1
  obtain rfl : ts = [] := List.length_eq_zero_iff.1 (by omega)
  simp only [List.length_nil,Nat.zero_add] at c0 HRb
  obtain ⟨Y,eY⟩ : ∃ Y,V.setCell ⟨b,0,none⟩ (.slice (some ⟨G,o,none⟩) 0 (0)) = Y := ⟨_,rfl⟩
  have hYb : Y.heap[b]? = some (.cells #[.slice (some ⟨G,o,none⟩) 0 (0),zI fa,fe,zI d] 207 (0,0)) := by rw [← eY]; exact heap_set _ HRb.out
  have hYo : ∀ k,k ≠ b → Y.heap[k]? = V.heap[k]? := fun k hk => by rw [← eY]; exact Below.heap_setCell _ _ _ _ hk
  have hY0 : Y.heap[w§]? = some (.cells #[zU 0,.string ⟨#[]⟩,zU 0,zI 0,zI 0] 82 (0,0)) := (hYo _ (by omega)).trans HV0.out
  have hY1 : Y.heap[N]? = some (.cells #[zU t.k,.string t.x,zU t.ty,zI t.n,zI t.p] 82 (0,0)) := (hYo _ (by omega)).trans HV1.out
  have hYs : Y§ = V§ := by rw [← eY]; simp [World.setCell]
  have x0 : Y.cell? ⟨N,0,none⟩ = some (zU t.k) := cell_of hY1 0
  have z0 : Y.cell? ⟨w§,0,none⟩ = some (zU 0) := cell_of hY0 0
  have q0 : Y.frozen? ⟨w§,0,none⟩ = false := frozen_of hY0 0
  have x1 : Y.cell? ⟨N,1,none⟩ = some (.string t.x) := cell_of hY1 1
  have z1 : Y.cell? ⟨w§,1,none⟩ = some (.string ⟨#[]⟩) := cell_of hY0 1
  have q1 : Y.frozen? ⟨w§,1,none⟩ = false := frozen_of hY0 1
  have x2 : Y.cell? ⟨N,2,none⟩ = some (zU t.ty) := cell_of hY1 2
  have z2 : Y.cell? ⟨w§,2,none⟩ = some (zU 0) := cell_of hY0 2
  have q2 : Y.frozen? ⟨w§,2,none⟩ = false := frozen_of hY0 2
  have x3 : Y.cell? ⟨N,3,none⟩ = some (zI t.n) := cell_of hY1 3
  have z3 : Y.cell? ⟨w§,3,none⟩ = some (zI 0) := cell_of hY0 3
  have q3 : Y.frozen? ⟨w§,3,none⟩ = false := frozen_of hY0 3
  have x4 : Y.cell? ⟨N,4,none⟩ = some (zI t.p) := cell_of hY1 4
  have z4 : Y.cell? ⟨w§,4,none⟩ = some (zI 0) := cell_of hY0 4
  have q4 : Y.frozen? ⟨w§,4,none⟩ = false := frozen_of hY0 4
  have HY : Hid (Y.heap[b]? = some (.cells #[.slice (some ⟨G,o,none⟩) 0 (0),zI fa,fe,zI d] 207 (0,0))) := hYb
  have HYo : Hid (∀ k,k ≠ b → Y.heap[k]? = V.heap[k]?) := hYo
  have HY0 : Hid (Y.heap[w§]? = some (.cells #[zU 0,.string ⟨#[]⟩,zU 0,zI 0,zI 0] 82 (0,0))) := hY0
  have HYs : Hid (Y§ = V§) := hYs
  have HMY : Hid (Mv w Y (fun k => k = b)) := by show Mv _ _ _; rw [← eY]; exact Mv.setCell (F := fun k => k = b) (a := ⟨b,0,none⟩) (Mv.ofBelow HBV.out) (.inl rfl) _
  have HGL : Hid (G < (((((Y.setCell ⟨w§,0,none⟩ (zU t.k)).setCell ⟨w§,1,none⟩ (.string t.x)).setCell ⟨w§,2,none⟩ (zU t.ty)).setCell ⟨w§,3,none⟩ (zI t.n)).setCell ⟨w§,4,none⟩ (zI t.p))§) := by
   have h1 := HH.out.gl
   have h2 := HMY.out.size
   show G < _
   simp [World.setCell] at h2 ⊢
   omega
  clear hYb hYo hY0 hY1 hYs
  go_upto_region 3 with fail
  first | rw [eY] | skip
  clear eY c0 f0
  go_wp2_with fail
  have hfin : Rdr (((((Y.setCell ⟨w§,0,none⟩ (zU t.k)).setCell ⟨w§,1,none⟩ (.string t.x)).setCell ⟨w§,2,none⟩ (zU t.ty)).setCell ⟨w§,3,none⟩ (zI t.n)).setCell ⟨w§,4,none⟩ (zI t.p)) b G [] fa fe d (some ⟨G,o,none⟩) (0) := by
   refine ⟨(oth5 _ (by omega) _ _ _ _ _).trans HY.out,by first | omega | simp,by omega,HH.out.n,HH.out.gb,HGL.out,fun i hi => ?_⟩
   simp at hi
  exact bodyPost_ret (results_cell_row rfl _ _ w§ 82 (tkA t) (0,0) _ rfl (put5 HY0.out _ _ _ _ _) Tryz.underlying82 rfl zK) rfl ⟨rfl,⟨_,_,hfin⟩,mv5 HMY.out (Nat.le_refl _) _ _ _ _ _⟩
 ·have hc2 : ¬ (c : Int) = 1 := by omega
  have hc3 : (1 : Int) ≤ (c : Int) := by omega
  obtain ⟨Y,eY⟩ : ∃ Y,V.setCell ⟨b,0,none⟩ (.slice (some ⟨G,o + 5,none⟩) ts.length (c - 1)) = Y := ⟨_,rfl⟩
  have hYb : Y.heap[b]? = some (.cells #[.slice (some ⟨G,o + 5,none⟩) ts.length (c - 1),zI fa,fe,zI d] 207 (0,0)) := by rw [← eY]; exact heap_set _ HRb.out
  have hYo : ∀ k,k ≠ b → Y.heap[k]? = V.heap[k]? := fun k hk => by rw [← eY]; exact Below.heap_setCell _ _ _ _ hk
  have hY0 : Y.heap[w§]? = some (.cells #[zU 0,.string ⟨#[]⟩,zU 0,zI 0,zI 0] 82 (0,0)) := (hYo _ (by omega)).trans HV0.out
  have hY1 : Y.heap[N]? = some (.cells #[zU t.k,.string t.x,zU t.ty,zI t.n,zI t.p] 82 (0,0)) := (hYo _ (by omega)).trans HV1.out
  have hYs : Y§ = V§ := by rw [← eY]; simp [World.setCell]
  have x0 : Y.cell? ⟨N,0,none⟩ = some (zU t.k) := cell_of hY1 0
  have z0 : Y.cell? ⟨w§,0,none⟩ = some (zU 0) := cell_of hY0 0
  have q0 : Y.frozen? ⟨w§,0,none⟩ = false := frozen_of hY0 0
  have x1 : Y.cell? ⟨N,1,none⟩ = some (.string t.x) := cell_of hY1 1
  have z1 : Y.cell? ⟨w§,1,none⟩ = some (.string ⟨#[]⟩) := cell_of hY0 1
  have q1 : Y.frozen? ⟨w§,1,none⟩ = false := frozen_of hY0 1
  have x2 : Y.cell? ⟨N,2,none⟩ = some (zU t.ty) := cell_of hY1 2
  have z2 : Y.cell? ⟨w§,2,none⟩ = some (zU 0) := cell_of hY0 2
  have q2 : Y.frozen? ⟨w§,2,none⟩ = false := frozen_of hY0 2
  have x3 : Y.cell? ⟨N,3,none⟩ = some (zI t.n) := cell_of hY1 3
  have z3 : Y.cell? ⟨w§,3,none⟩ = some (zI 0) := cell_of hY0 3
  have q3 : Y.frozen? ⟨w§,3,none⟩ = false := frozen_of hY0 3
  have x4 : Y.cell? ⟨N,4,none⟩ = some (zI t.p) := cell_of hY1 4
  have z4 : Y.cell? ⟨w§,4,none⟩ = some (zI 0) := cell_of hY0 4
  have q4 : Y.frozen? ⟨w§,4,none⟩ = false := frozen_of hY0 4
  have HY : Hid (Y.heap[b]? = some (.cells #[.slice (some ⟨G,o + 5,none⟩) ts.length (c - 1),zI fa,fe,zI d] 207 (0,0))) := hYb
  have HYo : Hid (∀ k,k ≠ b → Y.heap[k]? = V.heap[k]?) := hYo
  have HY0 : Hid (Y.heap[w§]? = some (.cells #[zU 0,.string ⟨#[]⟩,zU 0,zI 0,zI 0] 82 (0,0))) := hY0
  have HYs : Hid (Y§ = V§) := hYs
  have HMY : Hid (Mv w Y (fun k => k = b)) := by show Mv _ _ _; rw [← eY]; exact Mv.setCell (F := fun k => k = b) (a := ⟨b,0,none⟩) (Mv.ofBelow HBV.out) (.inl rfl) _
  have HGL : Hid (G < (((((Y.setCell ⟨w§,0,none⟩ (zU t.k)).setCell ⟨w§,1,none⟩ (.string t.x)).setCell ⟨w§,2,none⟩ (zU t.ty)).setCell ⟨w§,3,none⟩ (zI t.n)).setCell ⟨w§,4,none⟩ (zI t.p))§) := by
   have h1 := HH.out.gl
   have h2 := HMY.out.size
   show G < _
   simp [World.setCell] at h2 ⊢
   omega
  clear hYb hYo hY0 hY1 hYs
  go_upto_region 3 with fail
  first | rw [eY] | skip
  clear eY c0 f0
  go_wp2_with fail
  have hfin : Rdr (((((Y.setCell ⟨w§,0,none⟩ (zU t.k)).setCell ⟨w§,1,none⟩ (.string t.x)).setCell ⟨w§,2,none⟩ (zU t.ty)).setCell ⟨w§,3,none⟩ (zI t.n)).setCell ⟨w§,4,none⟩ (zI t.p)) b G ts fa fe d (some ⟨G,o + 5,none⟩) (c - 1) := by
   refine ⟨(oth5 _ (by omega) _ _ _ _ _).trans HY.out,by first | omega | simp,by omega,HH.out.n,HH.out.gb,HGL.out,fun i hi => ?_⟩
   obtain ⟨o',e',ht'⟩ := HH.out.r (i + 1) (by simp; omega)
   cases e'
   have hlt := ht'.lt
   refine ⟨o + 5,rfl,?_⟩
   have e1 : o + (i + 1) * 5 = o + 5 + i * 5 := by omega
   rw [e1] at ht'
   have h3 : TkC w G (o + 5 + i * 5) ts[i] := ht'
   refine h3.blk ?_
   rw [oth5 _ (by omega),HYo.out G hn,HBV.out.block G hlt]
  exact bodyPost_ret (results_cell_row rfl _ _ w§ 82 (tkA t) (0,0) _ rfl (put5 HY0.out _ _ _ _ _) Tryz.underlying82 rfl zK) rfl ⟨rfl,⟨_,_,hfin⟩,mv5 HMY.out (Nat.le_refl _) _ _ _ _ _⟩
open Go.Shelf
set_option linter.unusedVariables false
attribute [local go_sem] Oper.semAt_some
theorem Mv.toBelow {w w' : World} (h : Mv w w' (fun _ => False)) : Below w§ w w' := h.below (Nat.le_refl _) (fun _ e => e.elim)
def dmark (D : Nat) : Deferred := { target := .collected D,args := #[] }
theorem leaves_marks {fn : Func} {tmps : Array Value} {R : Ending → World → Prop} {v : Value} (Ds : List Nat) : ∀ (W : World),Ds.Nodup → (∀ D,D ∈ Ds → W.heap[D]? = some (.deferred (some []))) →
  (∀ W',Mv W W' (fun k => k ∈ Ds) → (results fn tmps).run Tryz.prog W' = .ok v W' ∧ R (.returned v) W') → LeavesInM Fence.wide 3 Tryz.prog fn tmps R (Ds.map dmark) .returning W := by
 induction Ds with
 | nil => intro W _ _ h; exact ⟨v,(h W (Mv.refl _ _)).1,(h W (Mv.refl _ _)).2⟩
 | cons D Ds ih =>
  intro W hnd hD h
  rw [List.nodup_cons] at hnd
  have h0 := hD D (by simp)
  refine ⟨by simp,.inl ⟨D,_,rfl,run_takeDeferred h0,?_⟩⟩
  have hput : Mv W (W.putObj D (.deferred none)) (fun k => k = D) := ⟨rfl,rfl,rfl,by simp,fun k _ hk => World.putObj_heap_other (fun e => hk e)⟩
  refine ih _ hnd.2 (fun D' hD' => ?_) (fun W' m => h W' ?_)
  ·rw [World.putObj_heap_other (fun e => hnd.1 (by rw [← e]; exact hD'))]
   exact hD D' (by simp [hD'])
  ·exact (hput.mono (F' := fun k => k ∈ D :: Ds) (fun b e => by rw [e]; simp)).trans m (fun b e => .inl (by simp [e]))
theorem append_tokenIn {F : Fence} {n : Nat} {W w0 : World} {ops : Array Oper} {rest : List Oper} {o : Oper} {a : Act} {Q : Exit → Act → World → Prop} (hgd : o.guard = none) (d x : Operand)
  (ho : o.op = .call { callee := .builtin .append,args := #[d,x],argTypes := #[94,94] }) (y : Tk) {v : Value} {L : List Tk} (hR : RL W w0 v L) (hs : a.eval d = v) (hx : a.eval x = .slice (some ⟨w0§,0,none⟩) 1 1) (hlen : L.length ≤ 1000000000)
  (h : ∀ v' w',RL W w' v' (L ++ [y]) → w0§ ≤ w'§ → (∀ b,b < w0§ → v.ownBlock ≠ some b → w'.heap[b]? = w0.heap[b]?) → wpListIn F n Tryz.prog ops Q rest (a.put o.dst v') w') :
  wpListIn F n Tryz.prog ops Q (o :: rest) a (w0.alloc (.cells (tkA y) 82)) := by
 obtain ⟨i0,hi,hz0,hz1,hz2⟩ := info_parts Tryz.info82
 refine wpListIn_plain hgd fun K hK => ?_
 obtain ⟨g,cap,w',hr,h2,h3,h4,h5⟩ := run_append_lies (P := Tryz.prog) (w0.alloc (.cells (tkA y) 82)) 94 o.type 0 82 i0 _ 5 48 Tryz.underlying94 hi hz0 hz1 hz2 rfl (by decide) v L.length _ (hR.row.alloc _) ⟨w0§,0,none⟩ 1 1 (tkA y).toList rfl (news_core w0 y) (one_core y) (by decide) (by unfold maxLen; omega) (by omega) (Nat.zero_le _) _ rfl
 obtain ⟨q1,q2,q3⟩ := app_core hR h2 h3 h4
 unfold Oper.wpIn
 refine ⟨?_,?_⟩
 ·simp [Oper.about,ho,resolve,Target.leads,Sem.run_pure]
 ·rw [Oper.semAt_plain F _ _ (by rw [ho]; intro c hc'; cases hc')]
  simp [execOp,ho,resolve,invoke,builtin,hs,hx,hr,Result.andThen]
  exact hK _ _ (h _ w' q1 q2 q3)
theorem RL.sl {W w : World} {v : Value} {L : List Tk} (h : RL W w v L) : ∃ ao cap,v = .slice ao L.length cap := by
 obtain ⟨ao,c,e,_,_⟩ := Row.form h.row
 exact ⟨ao,c,e⟩
theorem RL.own {w W W' : World} {v : Value} {M : List Tk} {row : Option Nat} (h : RL w W v M) (hg : W.grownBy W' row) (hr : ∀ r,row = some r → w§ ≤ r ∧ ∃ o : Obj,W.heap[r]? = some o ∧ o.isCells = false) : RL w W' v M := by
 refine ⟨h.row.kept hg ?_,h.nb,h.B.grown hg h.B.size (fun k hk => (hr k hk).1)⟩
 cases hv : v.ownBlock with
 | none => exact .inl rfl
 | some k =>
  right
  intro e
  obtain ⟨_,o,ho,hc⟩ := hr k e.symm
  obtain ⟨c,fz,hk⟩ := h.row.kind k hv
  rw [hk] at ho
  cases ho
  cases hc
theorem rl_set {w W : World} {v u : Value} {M : List Tk} {B : Nat} (h : RL w W v M) (hb : some B ≠ v.ownBlock) (hB : w§ ≤ B) : RL w (W.setCell ⟨B,0,none⟩ u) v M :=
 ⟨h.row.of_block (fun k hk => Below.heap_setCell _ _ _ _ (fun e => hb (by rw [hk]; exact congrArg some e.symm))),h.nb,((Mv.ofBelow h.B).setCell (a := ⟨B,0,none⟩) (.inr hB) u).toBelow⟩
theorem results_t1 {P : Program} {fn : Func} {p : Tmp} (h : fn.results = #[.tmp p]) (tmps : Array Value) (w : World) : (results fn tmps).run P w = .ok (tmps.getD p undef) w := by
 simp [results,h]
def Sm (w : World) (B0 : Nat) (L : List Tk) (pre : List Nat) (W : World) : Prop := ∃ v,Boxed W B0 94 v ∧ RL w W v (pre.map (lsF L))
theorem sm_own (w : World) (B0 : Nat) (L : List Tk) {B : Nat} (hB : w§ ≤ B) : OwnFrom B (Sm w B0 L) := by
 intro pre W W' row h hg hr
 obtain ⟨v,hv,hl⟩ := h
 exact ⟨v,boxed_own _ _ (fun (_ : Unit) => _) () W W' row hv hg (fun x e => (hr x e).2),hl.own hg (fun r e => ⟨Nat.le_trans hB (hr r e).1,(hr r e).2⟩)⟩
theorem tkh_own {β : Type} (B : Nat) (b : Nat) (T : Tk) (p : Prop) : OwnFrom B (fun (_ : β) W => p ∧ TkH W b T) := by
 intro _ W W' row h hg hr
 refine ⟨h.1,(hg.block b h.2.lt (fun e => ?_)).trans h.2⟩
 obtain ⟨_,o,ho,hc⟩ := hr b e.symm
 rw [show W.heap[b]? = _ from h.2] at ho
 cases ho
 cases hc
theorem keeps_kps {W W' : World} {K : Nat → Prop} (m : Kps K W W') (B : Nat) (hF : ∀ k,¬ K k → ∀ o,W.heap[k]? = some o → o.isCells = true) : KeepsFrom B W W' :=
 ⟨m.size,fun k o _ hk ho => (m.block k (Classical.byContradiction fun e => by rw [hF k e o hk] at ho; cases ho)).trans hk⟩
theorem map_range_lsF (L : List Tk) : (List.range L.length).map (lsF L) = L := by
 refine List.ext_getElem (by simp) (fun i h1 h2 => ?_)
 simp [lsF,h2]
set_option maxRecDepth 1000000 in
set_option maxHeartbeats 8000000 in
theorem seq_any (s : ByteArray) (hs : s.size ≤ 4194304) (L : List Tk) (hL : L = allL s) (Bs : Nat) (w : World) (ht : Tab w) (hBs : Boxed w Bs 9 (.string s)) :
  Calls zG 126 #[.slice none 0 0,.func (.func 127) #[] #[zP Bs]] w fun e w' => ∃ v,e = .returned v ∧ RL w w' v L := by
 have hll : L.length ≤ s.size := by rw [hL]; exact allL_len s
 have HL : Hid (L = allL s) := hL
 clear hL
 refine (callsIn_wide (n := 3)).1 (callsIn_of_wp_marks Tryz.func126 rfl trivial ?_ rfl)
 refine wpIn_wide.2 ?_
 simp only [Tryz.ntmps126,List.size_toArray,List.length_cons,List.length_nil,Nat.reduceAdd,Nat.reduceSub,Array.replicate_succ,Array.replicate_zero,List.push_toArray,List.append_toArray,List.nil_append,List.cons_append]
 obtain ⟨B0,hB0⟩ : ∃ x,w§ = x := ⟨_,rfl⟩
 obtain ⟨W0,hW0⟩ : ∃ V,w.alloc (.cells #[.slice none 0 0] 94) = V := ⟨_,rfl⟩
 have s0 : W0§ = B0 + 1 := by rw [← hW0]; simp [hB0]
 have hbl : Below w§ w W0 := by rw [← hW0]; exact below_new _ _
 have z1 : Boxed W0 B0 94 (.slice none 0 0) := by rw [← hW0,← hB0]; exact Boxed.new w 94 _
 have lBs : Bs < B0 := by rw [← hB0]; exact hBs.lt
 have z2 : Boxed W0 Bs 9 (.string s) := (hbl.block _ hBs.lt).trans hBs
 have hT0 : Tab W0 := ht.on hbl
 have hpos : 1 < B0 := by rw [← hB0]; exact ht.pos
 have HW0 : Hid (w.alloc (.cells #[.slice none 0 0] 94) = W0) := hW0
 clear hW0
 go_wp2_with fail
 rw [HW0.out]
 have hKK : ∀ k,(k = 1 ∨ k = Bs) → k < B0 := fun k hk => by omega
 refine (wpIn_wide (n := 12)).1 ?_
 refine wpIn_rangeFunc_ownH rfl (by omega) (gf := 127) (lb := #[zP Bs]) rfl trivial (enters_of Tryz.func127 zK rfl)
  (all_stops 11 (by omega) Bs s L HL.out W0 z2.cell hT0)
  (fun h k => h.trans k) ?hKb (Below.refl _ _) (fun _ => rfl)
  (Sm w B0 L)
  (fun _ pre _ => False)
  (sm_own w B0 L hbl.size) (fun c => ownFrom_pure _ _) ⟨_,z1,Row.nil _ _ _ _,fun k h => by simp [Value.ownBlock] at h,hbl⟩
  (fun x a' W => ∃ Bt,a' = { tmps := #[.slice none 0 0,.func (.func 127) #[] #[zP Bs],zP B0,undef,.slice none 0 0,zP Bt,.func (.func 127) #[] #[zP Bs],.agg (tkA (lsF L x)),undef,undef,undef,undef,undef],defers := [] } ∧ TkH W Bt (lsF L x))
  ?hAx ?assign ?body ?done ?stop
 case hKb =>
  intro W b o o' hb _ _ _
  exact ⟨by simp,fun k hk => World.putObj_heap_other (by have := hKK k hk; omega)⟩
 case hAx =>
  intro x a' u W W' row hs hg hr
  obtain ⟨Bt,e⟩ := hs
  exact ⟨Bt,tkh_own _ _ _ _ u W W' row e hg hr⟩
 case assign =>
  rintro lo pre x W K hi hK
  unfold encT
  obtain ⟨T,eT⟩ : ∃ T,lsF L x = T := ⟨_,rfl⟩
  rw [eT] at hK ⊢
  have hWs : B0 < W§ := by obtain ⟨v,hv,_⟩ := hi; exact hv.lt
  have HK : Hid (∀ a',(∃ Bt,a' = _ ∧ TkH (W.alloc (.cells (tkA T) 82)) Bt T) → K a' (W.alloc (.cells (tkA T) 82))) := fun a' hA => hK a' _ (keeps_kps (K := fun k => k < W§) ⟨by simp,fun k hk => Below.heap_alloc _ _ _ hk⟩ _ (fun k hk o ho => absurd (Array.getElem?_eq_some_iff.1 ho).1 hk)) ⟨by simp,fun k hk => Below.heap_alloc _ _ _ (by have := hKK k hk; omega)⟩ ((sm_own w B0 L hbl.size).alloc _ hi) hA
  clear hK hi
  unfold tkA
  gi_wp2
  exact HK.out _ ⟨W§,rfl,heap_new _ _⟩
 case body =>
  rintro lo pre x a' W hl _ ⟨v,b1,hr⟩ ⟨Bt,rfl,hTk⟩ hlen
  obtain ⟨T,eT⟩ : ∃ T,lsF L x = T := ⟨_,rfl⟩
  rw [eT] at hTk ⊢
  obtain ⟨M,hM⟩ : ∃ M,pre.map (lsF L) = M := ⟨_,rfl⟩
  have hMl : M.length = pre.length := by rw [← hM]; simp
  rw [hM] at hr
  obtain ⟨ao,cap,rfl⟩ := hr.sl
  obtain ⟨y0,y1,y2,y3,y4⟩ := hTk.cells
  have c1 := b1.cell
  have f1 := b1.frozen
  have HR := hr.hid
  have HB1 : Hid (Boxed W B0 94 (.slice ao M.length cap)) := b1
  have HN : Hid (some B0 ≠ (Value.slice ao M.length cap).ownBlock) := b1.not_row (by decide) hr.row
  have HM : Hid ((pre ++ [x]).map (lsF L) = M ++ [T]) := by show _ = _; rw [List.map_append,hM,List.map_singleton,eT]
  have hMlt : M.length < L.length := by omega
  clear hr b1 hTk hM hMl hlen
  gi_wp2_with (gi_at_builtin; refine append_tokenIn rfl (.tmp 8) (.tmp 10) rfl T HR.out rfl rfl (by omega) ?_; intro v1 w1 hr1 hs1 hk1; obtain ⟨ao1,cap1,ev1⟩ := hr1.sl; rw [List.length_append,List.length_singleton] at ev1; subst ev1; have X1 : Boxed w1 B0 94 (.slice ao M.length cap) := (hk1 _ HB1.out.lt (fun e => HN.out e.symm)).trans HB1.out; have g1 := X1.cell; have k1 := X1.frozen; have HX1 : Hid (Boxed w1 B0 94 (.slice ao M.length cap)) := X1; have HR1 := hr1.hid; have HS1 : Hid (W§ ≤ w1§) := hs1; have HK1 : Hid (∀ b,b < W§ → (Value.slice ao M.length cap).ownBlock ≠ some b → w1.heap[b]? = W.heap[b]?) := hk1; clear hr1 hs1 hk1 X1)
  have HXN := HX1.out.not_row (by decide) HR1.out.row
  have hF : Kps (fun k => k < W§ ∧ k ≠ B0 ∧ (Value.slice ao M.length cap).ownBlock ≠ some k) W (w1.setCell ⟨B0,0,none⟩ (.slice ao1 (M.length + 1) cap1)) := ⟨by have := HS1.out; simpa [World.setCell] using this,fun k hk => (Below.heap_setCell _ _ _ _ hk.2.1).trans (HK1.out k hk.1 hk.2.2)⟩
  refine ⟨keeps_kps hF _ (fun k hk o ho => ?_),⟨hF.size,fun k hk => hF.block k ⟨?_,by have := hKK k hk; omega,fun e => ?_⟩⟩,.slice ao1 (M.length + 1) cap1,?_,?_⟩
  ·by_cases e1 : k = B0
   ·rw [e1,show W.heap[B0]? = _ from HB1.out] at ho; cases ho; rfl
   ·by_cases e2 : (Value.slice ao M.length cap).ownBlock = some k
    ·obtain ⟨c,fz,hk⟩ := HR.out.row.kind k e2
     rw [hk] at ho; cases ho; rfl
    ·exact absurd ⟨(Array.getElem?_eq_some_iff.1 ho).1,e1,e2⟩ hk
  ·have := hKK k hk; have := HB1.out.lt; omega
  ·have := HR.out.nb _ e; have := hKK k hk; omega
  ·exact HX1.out.set _
  ·rw [HM.out]; exact rl_set HR1.out HXN (by omega)
 case done =>
  rintro D xs W hD rfl ⟨v,b1,hr⟩ hK
  rw [map_range_lsF] at hr
  have c1 := b1.cell
  obtain ⟨ao,cap,rfl⟩ := hr.sl
  have HR := hr.hid
  have HD : Hid (W.heap[D]? = some (.deferred (some []))) := hK
  clear hK hr
  go_wp2_with fail
  refine leaves_marks (v := .slice ao L.length cap) [D] W (by simp) (fun D' hD' => by simp at hD'; rw [hD']; exact HD.out) (fun W' m => ⟨results_t1 (p := 4) rfl _ _,_,rfl,?_⟩)
  have hDl := (Array.getElem?_eq_some_iff.1 HD.out).1
  refine ⟨m.row HR.out.row (fun k hk e => ?_),HR.out.nb,((Mv.ofBelow HR.out.B).trans m (fun b e => .inr (by simp at e; have := hbl.size; omega))).toBelow⟩
  simp at e
  obtain ⟨c,fz,hk'⟩ := HR.out.row.kind k hk
  rw [e,HD.out] at hk'
  cases hk'
 case stop =>
  intro D c pre W _ h1 h2 _
  exact absurd h2 (by simp)
set_option maxRecDepth 100000 in
theorem collect_any (s : ByteArray) (hs : s.size ≤ 4194304) (Bs : Nat) (w : World) (ht : Tab w) (hBs : Boxed w Bs 9 (.string s)) :
  Calls zG 102 #[.func (.func 127) #[] #[zP Bs]] w fun e w' => ∃ v,e = .returned v ∧ RL w w' v (allL s) := by
 have c := seq_any s hs _ rfl Bs w ht hBs
 go_enter Tryz.func102,Tryz.ntmps102
 go_wp2_with fail
 refine c.mono ?_
 rintro e w1 ⟨v,rfl,hr⟩
 go_wp2_with fail
 go_ret
 exact ⟨_,rfl,hr⟩
def OutK (b G : Nat) (fa : Int) (fe : Value) (d : Nat) (w : World) (r : Except Ft (Tk × List Tk)) (e : Ending) (w' : World) : Prop :=
 match r with
 | .ok (t,ts) => e = .returned (.agg (tkA t)) ∧ (∃ a c,Rdr w' b G ts fa fe d a c) ∧ Mv w w' (fun k => k = b)
 | .error f => e = pan (ftV fa fe f) ∧ Mv w w' (fun k => k = b)
theorem put_rdr {w : World} {b G r : Nat} {ts : List Tk} {fa : Int} {fe : Value} {d : Nat} {a : Option Addr} {c : Nat} (h : Rdr w b G ts fa fe d a c) (hr : b ≠ r) (hg : G ≠ r) (v0 v1 v2 v3 v4 : Value) :
  Rdr (((((w.setCell ⟨r,0,none⟩ v0).setCell ⟨r,1,none⟩ v1).setCell ⟨r,2,none⟩ v2).setCell ⟨r,3,none⟩ v3).setCell ⟨r,4,none⟩ v4) b G ts fa fe d a c :=
 ⟨(oth5 _ hr _ _ _ _ _).trans h.h,h.l,h.m,h.n,h.gb,by have := h.gl; simp [World.setCell]; exact this,fun i hi => by
  obtain ⟨o,e,ht⟩ := h.r i hi
  exact ⟨o,e,ht.blk (oth5 _ hg _ _ _ _ _)⟩⟩
set_option maxRecDepth 100000 in
theorem step_no {w : World} {b G : Nat} {fa : Int} {fe : Value} {d : Nat} {a : Option Addr} {c : Nat} (h : Rdr w b G [] fa fe d a c) :
  Calls zG 105 #[zP b] w fun e w' => e = pan (ftV fa fe .lex) ∧ Below w§ w w' := by
 have cL := look_no (h.on (below_new w (.cells #[zU 0,.string ⟨#[]⟩,zU 0,zI 0,zI 0] 82)))
 clear h
 go_enter Tryz.func105,Tryz.ntmps105
 go_wp2_with fail
 refine cL.mono ?_
 rintro e w1 ⟨rfl,hb⟩
 exact ⟨rfl,rfl,below2 (below_new _ _) hb⟩
set_option maxRecDepth 100000 in
theorem take_any {w : World} {b G : Nat} {ts : List Tk} {fa : Int} {fe : Value} {d : Nat} {a : Option Addr} {c : Nat} (h : Rdr w b G ts fa fe d a c) (x : ByteArray) : Calls zG 64 #[zP b,.string x] w (OutK b G fa fe d w (gTake x ts)) := by
 have HBL : Hid (b < w§) := h.lt
 have HGL : Hid (G < w§) := h.gl
 have hb0 := below_new w (.cells #[zU 0,.string ⟨#[]⟩,zU 0,zI 0,zI 0] 82)
 have h0 := h.on hb0
 have k0 : (w.alloc (.cells #[zU 0,.string ⟨#[]⟩,zU 0,zI 0,zI 0] 82)).heap[w§]? = some (.cells #[zU 0,.string ⟨#[]⟩,zU 0,zI 0,zI 0] 82 (0,0)) := heap_new _ _
 have HB0 : Hid (Below w§ w (w.alloc (.cells #[zU 0,.string ⟨#[]⟩,zU 0,zI 0,zI 0] 82))) := hb0
 have HK0 : Hid ((w.alloc (.cells #[zU 0,.string ⟨#[]⟩,zU 0,zI 0,zI 0] 82)).heap[w§]? = some (.cells #[zU 0,.string ⟨#[]⟩,zU 0,zI 0,zI 0] 82 (0,0))) := k0
 clear h hb0 k0
 cases ts with
 | nil =>
  have cI := is_no h0 x
  clear h0
  go_enter Tryz.func64,Tryz.ntmps64
  go_wp2_with fail
  refine cI.mono ?_
  rintro e w1 ⟨rfl,hb⟩
  exact ⟨rfl,rfl,Mv.ofBelow (below2 HB0.out hb)⟩
 | cons t ts =>
  have cI := is_ok h0 x
  by_cases e : t.x = x
  ·have eT : gTake x (t :: ts) = .ok (t,ts) := by subst e; simp [gTake,gIs,gLook,gNeed,gStep,Except.map,bind,Except.bind]
   rw [eT]
   rw [decide_eq_true e] at cI
   have HH0 := h0.hid
   clear h0 eT e
   go_enter Tryz.func64,Tryz.ntmps64
   go_wp2_with fail
   refine cI.mono ?_
   rintro e w1 ⟨rfl,hb⟩
   have HB : Hid (Below w§ w w1) := below2 HB0.out hb
   have HZ : Hid (w1.heap[w§]? = some (.cells #[zU 0,.string ⟨#[]⟩,zU 0,zI 0,zI 0] 82 (0,0))) := (hb.block _ (Array.getElem?_eq_some_iff.1 HK0.out).1).trans HK0.out
   have cS := step_ok (HH0.out.on hb)
   have cN := need_ok w1 b 130
   clear hb cI
   go_wp2_with (go_at_call 72; refine cN.mono ?_; rintro e w3 ⟨rfl,e4⟩; obtain rfl := e4.symm)
   refine cS.mono ?_
   rintro e w2 ⟨rfl,⟨a2,c2,hr2⟩,hm2⟩
   have HR2 := hr2.hid
   have HM2 : Hid (Mv w w2 (fun k => k = b)) := (Mv.ofBelow HB.out).trans hm2 (fun k e => .inl e)
   have HK : Hid (w2.heap[w§]? = some (.cells #[zU 0,.string ⟨#[]⟩,zU 0,zI 0,zI 0] 82 (0,0))) := (hm2.block _ (Array.getElem?_eq_some_iff.1 HZ.out).1 (fun e => by have := HBL.out; omega)).trans HZ.out
   have z0 : w2.cell? ⟨w§,0,none⟩ = some (zU 0) := cell_of HK.out 0
   have q0 : w2.frozen? ⟨w§,0,none⟩ = false := frozen_of HK.out 0
   have z1 : w2.cell? ⟨w§,1,none⟩ = some (.string ⟨#[]⟩) := cell_of HK.out 1
   have q1 : w2.frozen? ⟨w§,1,none⟩ = false := frozen_of HK.out 1
   have z2 : w2.cell? ⟨w§,2,none⟩ = some (zU 0) := cell_of HK.out 2
   have q2 : w2.frozen? ⟨w§,2,none⟩ = false := frozen_of HK.out 2
   have z3 : w2.cell? ⟨w§,3,none⟩ = some (zI 0) := cell_of HK.out 3
   have q3 : w2.frozen? ⟨w§,3,none⟩ = false := frozen_of HK.out 3
   have z4 : w2.cell? ⟨w§,4,none⟩ = some (zI 0) := cell_of HK.out 4
   have q4 : w2.frozen? ⟨w§,4,none⟩ = false := frozen_of HK.out 4
   clear cS hr2 hm2
   unfold tkA
   go_wp2_with fail
   exact bodyPost_ret (results_cell_row rfl _ _ w§ 82 (tkA t) (0,0) _ rfl (put5 HK.out _ _ _ _ _) Tryz.underlying82 rfl zK) rfl ⟨rfl,⟨a2,c2,put_rdr HR2.out (by have := HBL.out; omega) (by have := HGL.out; omega) _ _ _ _ _⟩,mv5 HM2.out (Nat.le_refl _) _ _ _ _ _⟩
  ·have eT : gTake x (t :: ts) = .error (.tok 130 t.p) := by simp [gTake,gIs,gLook,gNeed,Except.map,bind,Except.bind,e]
   rw [eT]
   rw [decide_eq_false e] at cI
   have HH0 := h0.hid
   clear h0 eT e
   go_enter Tryz.func64,Tryz.ntmps64
   go_wp2_with fail
   refine cI.mono ?_
   rintro e w1 ⟨rfl,hb⟩
   have HB : Hid (Below w§ w w1) := below2 HB0.out hb
   have cN := need_tok (HH0.out.on hb) 130
   clear hb cI
   go_wp2_with fail
   refine cN.mono ?_
   rintro e w2 ⟨rfl,hb2⟩
   exact ⟨rfl,rfl,Mv.ofBelow (below2 HB.out hb2)⟩
set_option maxRecDepth 100000 in
theorem open_any {w : World} {b G : Nat} {ts : List Tk} {fa : Int} {fe : Value} {d : Nat} {a : Option Addr} {c : Nat} (h : Rdr w b G ts fa fe d a c) : Calls zG 88 #[zP b] w (OutK b G fa fe d w (gOpn d ts)) := by
 have HBL : Hid (b < w§) := h.lt
 have HGL : Hid (G < w§) := h.gl
 have hb0 := below_new w (.cells #[zU 0,.string ⟨#[]⟩,zU 0,zI 0,zI 0] 82)
 have h0 := h.on hb0
 have k0 : (w.alloc (.cells #[zU 0,.string ⟨#[]⟩,zU 0,zI 0,zI 0] 82)).heap[w§]? = some (.cells #[zU 0,.string ⟨#[]⟩,zU 0,zI 0,zI 0] 82 (0,0)) := heap_new _ _
 have HB : Hid (Below w§ w (w.alloc (.cells #[zU 0,.string ⟨#[]⟩,zU 0,zI 0,zI 0] 82))) := hb0
 have HZ : Hid ((w.alloc (.cells #[zU 0,.string ⟨#[]⟩,zU 0,zI 0,zI 0] 82)).heap[w§]? = some (.cells #[zU 0,.string ⟨#[]⟩,zU 0,zI 0,zI 0] 82 (0,0))) := k0
 have c3 : w.cell? ⟨b,3,none⟩ = some (zI d) := cell_of h.h 3
 have hbl := h.lt
 clear h hb0 k0
 by_cases hd : d < 24
 ·have hd' : (d : Int) < 24 := by omega
  cases ts with
  | nil =>
   have eT : gOpn d [] = .error .lex := by simp [gOpn,gNeed,gStep,hd,bind,Except.bind]
   rw [eT]
   have cS := step_no h0
   have cN := need_ok (w.alloc (.cells #[zU 0,.string ⟨#[]⟩,zU 0,zI 0,zI 0] 82)) b 132
   clear h0 eT hd
   go_enter Tryz.func88,Tryz.ntmps88
   go_wp2_with (go_at_call 72; refine cN.mono ?_; rintro e w3 ⟨rfl,e4⟩; obtain rfl := e4.symm)
   refine cS.mono ?_
   rintro e w2 ⟨rfl,hb2⟩
   exact ⟨rfl,rfl,Mv.ofBelow (below2 HB.out hb2)⟩
  | cons t ts =>
   have eT : gOpn d (t :: ts) = .ok (t,ts) := by simp [gOpn,gNeed,gStep,hd,bind,Except.bind]
   rw [eT]
   have cS := step_ok h0
   have cN := need_ok (w.alloc (.cells #[zU 0,.string ⟨#[]⟩,zU 0,zI 0,zI 0] 82)) b 132
   clear h0 eT hd
   go_enter Tryz.func88,Tryz.ntmps88
   go_wp2_with (go_at_call 72; refine cN.mono ?_; rintro e w3 ⟨rfl,e4⟩; obtain rfl := e4.symm)
   refine cS.mono ?_
   rintro e w2 ⟨rfl,⟨a2,c2,hr2⟩,hm2⟩
   have HR2 := hr2.hid
   have HM2 : Hid (Mv w w2 (fun k => k = b)) := (Mv.ofBelow HB.out).trans hm2 (fun k e => .inl e)
   have HK : Hid (w2.heap[w§]? = some (.cells #[zU 0,.string ⟨#[]⟩,zU 0,zI 0,zI 0] 82 (0,0))) := (hm2.block _ (Array.getElem?_eq_some_iff.1 HZ.out).1 (fun e => by have := HBL.out; omega)).trans HZ.out
   have z0 : w2.cell? ⟨w§,0,none⟩ = some (zU 0) := cell_of HK.out 0
   have q0 : w2.frozen? ⟨w§,0,none⟩ = false := frozen_of HK.out 0
   have z1 : w2.cell? ⟨w§,1,none⟩ = some (.string ⟨#[]⟩) := cell_of HK.out 1
   have q1 : w2.frozen? ⟨w§,1,none⟩ = false := frozen_of HK.out 1
   have z2 : w2.cell? ⟨w§,2,none⟩ = some (zU 0) := cell_of HK.out 2
   have q2 : w2.frozen? ⟨w§,2,none⟩ = false := frozen_of HK.out 2
   have z3 : w2.cell? ⟨w§,3,none⟩ = some (zI 0) := cell_of HK.out 3
   have q3 : w2.frozen? ⟨w§,3,none⟩ = false := frozen_of HK.out 3
   have z4 : w2.cell? ⟨w§,4,none⟩ = some (zI 0) := cell_of HK.out 4
   have q4 : w2.frozen? ⟨w§,4,none⟩ = false := frozen_of HK.out 4
   clear cS hr2 hm2
   unfold tkA
   go_wp2_with fail
   exact bodyPost_ret (results_cell_row rfl _ _ w§ 82 (tkA t) (0,0) _ rfl (put5 HK.out _ _ _ _ _) Tryz.underlying82 rfl zK) rfl ⟨rfl,⟨a2,c2,put_rdr HR2.out (by have := HBL.out; omega) (by have := HGL.out; omega) _ _ _ _ _⟩,mv5 HM2.out (Nat.le_refl _) _ _ _ _ _⟩
 ·have hd' : ¬ (d : Int) < 24 := by omega
  have hd2 : decide ((d : Int) < 24) = false := decide_eq_false hd'
  cases ts with
  | nil =>
   have eT : gOpn d [] = .error .lex := by simp [gOpn,gNeed,gLook,hd,bind,Except.bind]
   rw [eT]
   have cN := need_lex h0 132
   clear h0 eT hd
   go_enter Tryz.func88,Tryz.ntmps88
   go_wp2_with fail
   refine cN.mono ?_
   rintro e w2 ⟨rfl,hb2⟩
   exact ⟨rfl,rfl,Mv.ofBelow (below2 HB.out hb2)⟩
  | cons t ts =>
   have eT : gOpn d (t :: ts) = .error (.tok 132 t.p) := by simp [gOpn,gNeed,gLook,hd,bind,Except.bind]
   rw [eT]
   have cN := need_tok h0 132
   clear h0 eT hd
   go_enter Tryz.func88,Tryz.ntmps88
   go_wp2_with fail
   refine cN.mono ?_
   rintro e w2 ⟨rfl,hb2⟩
   exact ⟨rfl,rfl,Mv.ofBelow (below2 HB.out hb2)⟩
set_option maxRecDepth 100000 in
theorem typeOf_any (t : Tk) (w : World) : Calls zG 129 #[.agg (tkA t)] w fun e w' => e = .returned (zU (tyX t.x)) ∧ Below w§ w w' := by
 unfold tkA
 unfold tyX eqX
 go_enter Tryz.func129,Tryz.ntmps129
 go_wp2_with fail
 all_goals (go_ret; exact ⟨by simp [*],below_new _ _⟩)
set_option maxRecDepth 100000 in
theorem fieldOf_any (t : Tk) (w : World) : Calls zG 192 #[.agg (tkA t)] w fun e w' => e = .returned (zU (fieldX t.x)) ∧ Below w§ w w' := by
 unfold tkA
 unfold fieldX eqX
 go_enter Tryz.func192,Tryz.ntmps192
 go_wp2_with fail
 all_goals (go_ret; exact ⟨by simp [*],below_new _ _⟩)
set_option maxRecDepth 100000 in
theorem callOf_any (t : Tk) (w : World) : Calls zG 188 #[.agg (tkA t)] w fun e w' => e = .returned (zU (callX t.x)) ∧ Below w§ w w' := by
 unfold tkA
 unfold callX eqX
 go_enter Tryz.func188,Tryz.ntmps188
 go_wp2_with fail
 all_goals (go_ret; exact ⟨by simp [*],below_new _ _⟩)
set_option maxRecDepth 100000 in
theorem cmpO_ok {w : World} {b G : Nat} {t : Tk} {ts : List Tk} {fa : Int} {fe : Value} {d : Nat} {a : Option Addr} {c : Nat} (h : Rdr w b G (t :: ts) fa fe d a c) :
  Calls zG 154 #[zP b] w fun e w' => e = .returned (zU (cmpX t.x)) ∧ Below w§ w w' := by
 have cL := look_ok h
 have hf := fun v => field82_1 t v
 clear h
 unfold cmpX eqX
 go_enter Tryz.func154,Tryz.ntmps154
 go_wp2_with fail
 refine cL.mono ?_
 rintro e w1 ⟨rfl,hb⟩
 have HB : Hid (Below w§ w w1) := hb
 clear hb cL
 go_wp2_with fail
 all_goals (go_ret; exact ⟨by simp [*],HB.out⟩)
set_option maxRecDepth 100000 in
theorem cmpO_no {w : World} {b G : Nat} {fa : Int} {fe : Value} {d : Nat} {a : Option Addr} {c : Nat} (h : Rdr w b G [] fa fe d a c) :
  Calls zG 154 #[zP b] w fun e w' => e = pan (ftV fa fe .lex) ∧ Below w§ w w' := by
 have cL := look_no h
 clear h
 go_enter Tryz.func154,Tryz.ntmps154
 go_wp2_with fail
 refine cL.mono ?_
 rintro e w1 ⟨rfl,hb⟩
 exact ⟨rfl,rfl,hb⟩
set_option maxRecDepth 100000 in
theorem sumO_ok {w : World} {b G : Nat} {t : Tk} {ts : List Tk} {fa : Int} {fe : Value} {d : Nat} {a : Option Addr} {c : Nat} (h : Rdr w b G (t :: ts) fa fe d a c) :
  Calls zG 172 #[zP b] w fun e w' => e = .returned (zU (sumX t.x)) ∧ Below w§ w w' := by
 have cL := look_ok h
 have hf := fun v => field82_1 t v
 clear h
 unfold sumX eqX
 go_enter Tryz.func172,Tryz.ntmps172
 go_wp2_with fail
 refine cL.mono ?_
 rintro e w1 ⟨rfl,hb⟩
 have HB : Hid (Below w§ w w1) := hb
 clear hb cL
 go_wp2_with fail
 all_goals (go_ret; exact ⟨by simp [*],HB.out⟩)
set_option maxRecDepth 100000 in
theorem sumO_no {w : World} {b G : Nat} {fa : Int} {fe : Value} {d : Nat} {a : Option Addr} {c : Nat} (h : Rdr w b G [] fa fe d a c) :
  Calls zG 172 #[zP b] w fun e w' => e = pan (ftV fa fe .lex) ∧ Below w§ w w' := by
 have cL := look_no h
 clear h
 go_enter Tryz.func172,Tryz.ntmps172
 go_wp2_with fail
 refine cL.mono ?_
 rintro e w1 ⟨rfl,hb⟩
 exact ⟨rfl,rfl,hb⟩
set_option maxRecDepth 100000 in
theorem proO_ok {w : World} {b G : Nat} {t : Tk} {ts : List Tk} {fa : Int} {fe : Value} {d : Nat} {a : Option Addr} {c : Nat} (h : Rdr w b G (t :: ts) fa fe d a c) :
  Calls zG 179 #[zP b] w fun e w' => e = .returned (zU (proX t.x)) ∧ Below w§ w w' := by
 have cL := look_ok h
 have hf := fun v => field82_1 t v
 clear h
 unfold proX eqX
 go_enter Tryz.func179,Tryz.ntmps179
 go_wp2_with fail
 refine cL.mono ?_
 rintro e w1 ⟨rfl,hb⟩
 have HB : Hid (Below w§ w w1) := hb
 clear hb cL
 go_wp2_with fail
 all_goals (go_ret; exact ⟨by simp [*],HB.out⟩)
set_option maxRecDepth 100000 in
theorem proO_no {w : World} {b G : Nat} {fa : Int} {fe : Value} {d : Nat} {a : Option Addr} {c : Nat} (h : Rdr w b G [] fa fe d a c) :
  Calls zG 179 #[zP b] w fun e w' => e = pan (ftV fa fe .lex) ∧ Below w§ w w' := by
 have cL := look_no h
 clear h
 go_enter Tryz.func179,Tryz.ntmps179
 go_wp2_with fail
 refine cL.mono ?_
 rintro e w1 ⟨rfl,hb⟩
 exact ⟨rfl,rfl,hb⟩
set_option maxRecDepth 100000 in
theorem unO_ok {w : World} {b G : Nat} {t : Tk} {ts : List Tk} {fa : Int} {fe : Value} {d : Nat} {a : Option Addr} {c : Nat} (h : Rdr w b G (t :: ts) fa fe d a c) :
  Calls zG 183 #[zP b] w fun e w' => e = .returned (zU (unX t.x)) ∧ Below w§ w w' := by
 have cL := look_ok h
 have hf := fun v => field82_1 t v
 clear h
 unfold unX eqX
 go_enter Tryz.func183,Tryz.ntmps183
 go_wp2_with fail
 refine cL.mono ?_
 rintro e w1 ⟨rfl,hb⟩
 have HB : Hid (Below w§ w w1) := hb
 clear hb cL
 go_wp2_with fail
 all_goals (go_ret; exact ⟨by simp [*],HB.out⟩)
set_option maxRecDepth 100000 in
theorem unO_no {w : World} {b G : Nat} {fa : Int} {fe : Value} {d : Nat} {a : Option Addr} {c : Nat} (h : Rdr w b G [] fa fe d a c) :
  Calls zG 183 #[zP b] w fun e w' => e = pan (ftV fa fe .lex) ∧ Below w§ w w' := by
 have cL := look_no h
 clear h
 go_enter Tryz.func183,Tryz.ntmps183
 go_wp2_with fail
 refine cL.mono ?_
 rintro e w1 ⟨rfl,hb⟩
 exact ⟨rfl,rfl,hb⟩
set_option maxRecDepth 100000 in
theorem orO_ok {w : World} {b G : Nat} {t : Tk} {ts : List Tk} {fa : Int} {fe : Value} {d : Nat} {a : Option Addr} {c : Nat} (h : Rdr w b G (t :: ts) fa fe d a c) :
  Calls zG 114 #[zP b] w fun e w' => e = .returned (zU (orX t.x)) ∧ Below w§ w w' := by
 have cL := is_ok h ZH
 clear h
 unfold orX gB
 by_cases e : t.x = ZH
 ·rw [decide_eq_true e] at cL
  rw [if_pos e]
  clear e
  go_enter Tryz.func114,Tryz.ntmps114
  go_wp2_with fail
  refine cL.mono ?_
  rintro e w1 ⟨rfl,hb⟩
  go_wp2_with fail
  go_ret
  exact ⟨rfl,hb⟩
 ·rw [decide_eq_false e] at cL
  rw [if_neg e]
  clear e
  go_enter Tryz.func114,Tryz.ntmps114
  go_wp2_with fail
  refine cL.mono ?_
  rintro e w1 ⟨rfl,hb⟩
  go_wp2_with fail
  go_ret
  exact ⟨rfl,hb⟩
set_option maxRecDepth 100000 in
theorem orO_no {w : World} {b G : Nat} {fa : Int} {fe : Value} {d : Nat} {a : Option Addr} {c : Nat} (h : Rdr w b G [] fa fe d a c) :
  Calls zG 114 #[zP b] w fun e w' => e = pan (ftV fa fe .lex) ∧ Below w§ w w' := by
 have cL := is_no h ZH
 clear h
 go_enter Tryz.func114,Tryz.ntmps114
 go_wp2_with fail
 refine cL.mono ?_
 rintro e w1 ⟨rfl,hb⟩
 exact ⟨rfl,rfl,hb⟩
set_option maxRecDepth 100000 in
theorem andO_ok {w : World} {b G : Nat} {t : Tk} {ts : List Tk} {fa : Int} {fe : Value} {d : Nat} {a : Option Addr} {c : Nat} (h : Rdr w b G (t :: ts) fa fe d a c) :
  Calls zG 135 #[zP b] w fun e w' => e = .returned (zU (andX t.x)) ∧ Below w§ w w' := by
 have cL := is_ok h ZG
 clear h
 unfold andX gB
 by_cases e : t.x = ZG
 ·rw [decide_eq_true e] at cL
  rw [if_pos e]
  clear e
  go_enter Tryz.func135,Tryz.ntmps135
  go_wp2_with fail
  refine cL.mono ?_
  rintro e w1 ⟨rfl,hb⟩
  go_wp2_with fail
  go_ret
  exact ⟨rfl,hb⟩
 ·rw [decide_eq_false e] at cL
  rw [if_neg e]
  clear e
  go_enter Tryz.func135,Tryz.ntmps135
  go_wp2_with fail
  refine cL.mono ?_
  rintro e w1 ⟨rfl,hb⟩
  go_wp2_with fail
  go_ret
  exact ⟨rfl,hb⟩
set_option maxRecDepth 100000 in
theorem andO_no {w : World} {b G : Nat} {fa : Int} {fe : Value} {d : Nat} {a : Option Addr} {c : Nat} (h : Rdr w b G [] fa fe d a c) :
  Calls zG 135 #[zP b] w fun e w' => e = pan (ftV fa fe .lex) ∧ Below w§ w w' := by
 have cL := is_no h ZG
 clear h
 go_enter Tryz.func135,Tryz.ntmps135
 go_wp2_with fail
 refine cL.mono ?_
 rintro e w1 ⟨rfl,hb⟩
 exact ⟨rfl,rfl,hb⟩
set_option maxRecDepth 100000 in
theorem valueOf_any (t : Tk) (w : World) : Calls zG 148 #[.agg (tkA t)] w fun e w' => e = .returned (.tuple #[zU (valT t).1,zI (valT t).2]) ∧ Below w§ w w' := by
 unfold tkA
 by_cases c0 : (t.x.toList == [116,114,117,101]) = true
 ·have eV : valT t = (5,1) := by unfold valT eqX; simp only [c0,if_true]
  rw [eV]
  clear eV
  go_enter Tryz.func148,Tryz.ntmps148
  go_wp2_with fail
  all_goals (go_ret2; exact ⟨rfl,below_new _ _⟩)
 have n0 : (t.x.toList == [116,114,117,101]) = false := by simpa using c0
 clear c0
 by_cases c1 : (t.x.toList == [102,97,108,115,101]) = true
 ·have eV : valT t = (5,0) := by unfold valT eqX; simp only [c1,n0,if_true,if_false,Bool.false_eq_true]
  rw [eV]
  clear eV
  go_enter Tryz.func148,Tryz.ntmps148
  go_wp2_with fail
  all_goals (go_ret2; exact ⟨rfl,below_new _ _⟩)
 have n1 : (t.x.toList == [102,97,108,115,101]) = false := by simpa using c1
 clear c1
 by_cases c2 : (t.x.toList == [98,117,121]) = true
 ·have eV : valT t = (6,1) := by unfold valT eqX; simp only [c2,n0,n1,if_true,if_false,Bool.false_eq_true]
  rw [eV]
  clear eV
  go_enter Tryz.func148,Tryz.ntmps148
  go_wp2_with fail
  all_goals (go_ret2; exact ⟨rfl,below_new _ _⟩)
 have n2 : (t.x.toList == [98,117,121]) = false := by simpa using c2
 clear c2
 by_cases c3 : (t.x.toList == [115,101,108,108]) = true
 ·have eV : valT t = (6,2) := by unfold valT eqX; simp only [c3,n0,n1,n2,if_true,if_false,Bool.false_eq_true]
  rw [eV]
  clear eV
  go_enter Tryz.func148,Tryz.ntmps148
  go_wp2_with fail
  all_goals (go_ret2; exact ⟨rfl,below_new _ _⟩)
 have n3 : (t.x.toList == [115,101,108,108]) = false := by simpa using c3
 clear c3
 have eV : valT t = (t.ty,t.n) := by unfold valT eqX; simp only [n0,n1,n2,n3,if_false,Bool.false_eq_true]
 rw [eV]
 clear eV
 go_enter Tryz.func148,Tryz.ntmps148
 go_upto_region 10 with fail
 obtain ⟨V,eV⟩ : ∃ V,w.alloc (.cells #[zU t.k,.string t.x,zU t.ty,zI t.n,zI t.p] 82) = V := ⟨_,rfl⟩
 have hk : V.heap[w§]? = some (.cells #[zU t.k,.string t.x,zU t.ty,zI t.n,zI t.p] 82 (0,0)) := by rw [← eV]; exact heap_new _ _
 have HB : Hid (Below w§ w V) := by rw [← eV]; exact below_new _ _
 have y2 : V.cell? ⟨w§,2,none⟩ = some (zU t.ty) := cell_of hk 2
 have y3 : V.cell? ⟨w§,3,none⟩ = some (zI t.n) := cell_of hk 3
 rw [eV]
 clear eV hk
 go_quiet (fail)
 have HB2 : Hid (Below w§ w (V.drewN nq)) := below_drew HB.out nq
 go_wp2_with fail
 go_ret2
 exact ⟨rfl,HB2.out⟩
set_option maxRecDepth 100000 in
theorem lack_any (f : Int) (w : World) : Calls zG 195 #[zU f] w fun e w' => e = .returned (.bool (decide (1 ≤ f ∧ f ≤ 3))) ∧ w' = w := by
 by_cases a : 1 ≤ f
 ·by_cases b : f ≤ 3
  ·rw [decide_eq_true ⟨a,b⟩]
   go_enter Tryz.func195,Tryz.ntmps195
   go_wp2_with fail
   go_ret
   exact ⟨rfl,rfl⟩
  ·rw [decide_eq_false fun x => b x.2]
   go_enter Tryz.func195,Tryz.ntmps195
   go_wp2_with fail
   go_ret
   exact ⟨rfl,rfl⟩
 ·rw [decide_eq_false fun x => a x.1]
  go_enter Tryz.func195,Tryz.ntmps195
  go_wp2_with fail
  go_ret
  exact ⟨rfl,rfl⟩
set_option maxRecDepth 100000 in
theorem number_any (f : Int) (w : World) : Calls zG 190 #[zU f] w fun e w' => e = .returned (.bool (decide (1 ≤ f ∧ f ≤ 4))) ∧ w' = w := by
 by_cases a : 1 ≤ f
 ·by_cases b : f ≤ 4
  ·rw [decide_eq_true ⟨a,b⟩]
   go_enter Tryz.func190,Tryz.ntmps190
   go_wp2_with fail
   go_ret
   exact ⟨rfl,rfl⟩
  ·rw [decide_eq_false fun x => b x.2]
   go_enter Tryz.func190,Tryz.ntmps190
   go_wp2_with fail
   go_ret
   exact ⟨rfl,rfl⟩
 ·rw [decide_eq_false fun x => a x.1]
  go_enter Tryz.func190,Tryz.ntmps190
  go_wp2_with fail
  go_ret
  exact ⟨rfl,rfl⟩
end Go.Proofs.YtkfabnchhjfjjaaGreatDoor
