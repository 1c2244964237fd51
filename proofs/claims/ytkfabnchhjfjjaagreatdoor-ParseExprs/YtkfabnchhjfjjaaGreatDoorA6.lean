import Derived.Test.YtkfabnchhjfjjaaGreatDoorA0
import Derived.Test.YtkfabnchhjfjjaaGreatDoorA5
import Derived.Test.YtkfabnchhjfjjaaGreatDoorA3
namespace Go.Proofs.YtkfabnchhjfjjaaGreatDoor
open Go.RowKit
mutual
def treeOf : Nd → Tr
 | .mk h _ _ ks => .mk h (treesOf ks)
def treesOf : List Nd → List Tr
 | [] => []
 | k :: ks => treeOf k :: treesOf ks
end
inductive Bkn (P : Nat → Prop) : Nd → Prop
 | mk (h : Hd) (a : Option Addr) (c : Nat) (ks : List Nd) (hk : ∀ b o,a = some ⟨b,o,none⟩ → P b) (hs : ∀ k ∈ ks,Bkn P k) : Bkn P (.mk h a c ks)
theorem Bkn.mono {P Q : Nat → Prop} {m : Nd} (h : Bkn P m) (k : ∀ b,P b → Q b) : Bkn Q m := by
 induction h with
 | mk h a c ks hk hs ih => exact .mk h a c ks (fun b o e => k b (hk b o e)) ih
def nd0 : Nd := .mk ⟨0,0,0,0,0,gE,0⟩ none 0 []
def ndF (A : Nat → Nd) (j : Nat) : Value := (A (j / 8)).vals.getD (j % 8) undef
def ldF (L : List Nd) : Nat → Nd := fun i => L.getD i nd0
def RowN (w : World) (v : Value) (L : List Nd) : Prop := Row w 64 8 v L.length (ndF (ldF L))
def Apt (x y : Nd) : Prop := ∃ s,Bkn (fun k => k < s) x ∧ Bkn (fun k => s ≤ k) y
inductive LiesO (w : World) : Nd → Prop
 | mk (h : Hd) (a : Option Addr) (c : Nat) (ks : List Nd) (hr : Rg h) (hc : ks.length ≤ c) (hm : c ≤ 9223372036854775807)
   (hk : ∀ i (hi : i < ks.length),∃ b o,a = some ⟨b,o,none⟩ ∧ NdAt w b (o + i * 8) ks[i]) (hs : ∀ k ∈ ks,LiesO w k)
   (ho : RowN w (.slice a ks.length c) ks) (hx : ∀ x,a = some x → ∀ m ∈ ks,Bkn (fun k => k ≠ x.block) m) (hp : ks.Pairwise Apt) : LiesO w (.mk h a c ks)
theorem LiesO.lies {w : World} {m : Nd} (h : LiesO w m) : Lies w m := by
 induction h with
 | mk h a c ks hr hc hm hk hs ho hx hp ih => exact .mk h a c ks hr hc hm hk ih
theorem LiesO.rg {w : World} {m : Nd} (h : LiesO w m) : Rg m.h := h.lies.rg
theorem LiesO.kid {w : World} {m : Nd} (h : LiesO w m) (i : Nat) (hi : i < m.ks.length) : ∃ b o,m.a = some ⟨b,o,none⟩ ∧ NdAt w b (o + i * 8) m.ks[i] := h.lies.kid i hi
theorem LiesO.hid {w : World} {m : Nd} (h : LiesO w m) : Hid (LiesO w m) := h
theorem row_own {w : World} {a : Option Addr} {n c : Nat} {L : List Nd} {k : Nat} (h : RowN w (.slice a n c) L) (e : (Value.slice a n c).ownBlock = some k) : a = some ⟨k,0,none⟩ := by
 rcases h.2 with ⟨e1,_⟩ | ⟨g,cap,cur,e1,_⟩
 ·injection e1 with e1; subst e1; simp [Value.ownBlock] at e
 ·injection e1 with e1; subst e1; simp [Value.ownBlock] at e; rw [e]
theorem LiesO.bkn {w w' : World} {P : Nat → Prop} : ∀ {m : Nd},LiesO w m → Bkn P m → (∀ b,P b → w'.heap[b]? = w.heap[b]?) → LiesO w' m := by
 intro m h hb k
 induction h with
 | mk h a c ks hr hc hm hk hs ho hx hp ih =>
  cases hb with
  | mk _ _ _ _ hp' hq =>
  refine .mk h a c ks hr hc hm (fun i hi => ?_) (fun x hx => ih x hx (hq x hx)) (ho.of_block fun b e => k b (hp' b 0 (row_own ho e))) hx hp
  obtain ⟨b,o,e,hat⟩ := hk i hi
  exact ⟨b,o,e,hat.blk (k b (hp' b o e))⟩
theorem LiesO.blk {w w' : World} : ∀ {m : Nd},LiesO w m → (∀ b,b < w§ → w'.heap[b]? = w.heap[b]?) → LiesO w' m := by
 intro m h k
 induction h with
 | mk h a c ks hr hc hm hk hs ho hx hp ih =>
  refine .mk h a c ks hr hc hm (fun i hi => ?_) ih (ho.of_block fun b e => k b (ho.lt b e)) hx hp
  obtain ⟨b,o,e,hat⟩ := hk i hi
  exact ⟨b,o,e,hat.blk (k b hat.lt)⟩
theorem LiesO.on {w w' : World} {m : Nd} (h : LiesO w m) (k : Below w§ w w') : LiesO w' m := h.blk k.block
theorem row_lit {w : World} {B : Nat} {L : List Nd} {cs : Array Value} {n : Nat} (h : w.heap[B]? = some (.cells cs 64 (0,0))) (hn : n = L.length) (hc : cs.toList = (List.range (n * 8)).map (ndF (ldF L))) (hm : n ≤ 9223372036854775807) : RowN w (.slice (some ⟨B,0,none⟩) n n) L := by
 subst hn
 have hz : cs.size = L.length * 8 := by rw [← Array.length_toList,hc]; simp
 refine ⟨by simp,.inr ⟨B,L.length,cs,rfl,Nat.zero_le _,h,Nat.le_refl _,hm,hz,?_⟩⟩
 rw [hc]
 exact List.take_of_length_le (by simp)
def OutN (b G : Nat) (fa : Int) (fe : Value) (d : Nat) (w : World) (r : Except Ft (Tr × List Tk)) (e : Ending) (w' : World) : Prop :=
 match r with
 | .ok (t,ts) => (∃ m,e = .returned (.agg m.vals) ∧ treeOf m = t ∧ LiesO w' m ∧ Bkn (fun k => w§ ≤ k ∧ k < w'§) m) ∧ (∃ a c,Rdr w' b G ts fa fe d a c) ∧ Mv w w' (fun k => k = b)
 | .error f => e = pan (ftV fa fe f) ∧ Mv w w' (fun k => k = b)
theorem put8 {w : World} {b : Nat} {a0 a1 a2 a3 a4 a5 a6 a7 : Value} (h : w.heap[b]? = some (.cells #[a0,a1,a2,a3,a4,a5,a6,a7] 64 (0,0))) (v0 v1 v2 v3 v4 v5 v6 v7 : Value) :
  ((((((((w.setCell ⟨b,0,none⟩ v0).setCell ⟨b,1,none⟩ v1).setCell ⟨b,2,none⟩ v2).setCell ⟨b,3,none⟩ v3).setCell ⟨b,4,none⟩ v4).setCell ⟨b,5,none⟩ v5).setCell ⟨b,6,none⟩ v6).setCell ⟨b,7,none⟩ v7).heap[b]? = some (.cells #[v0,v1,v2,v3,v4,v5,v6,v7] 64 (0,0)) := by
 have h1 : (w.setCell ⟨b,0,none⟩ v0).heap[b]? = some (.cells #[v0,a1,a2,a3,a4,a5,a6,a7] 64 (0,0)) := heap_set v0 h
 have h2 : ((w.setCell ⟨b,0,none⟩ v0).setCell ⟨b,1,none⟩ v1).heap[b]? = some (.cells #[v0,v1,a2,a3,a4,a5,a6,a7] 64 (0,0)) := heap_set v1 h1
 have h3 : (((w.setCell ⟨b,0,none⟩ v0).setCell ⟨b,1,none⟩ v1).setCell ⟨b,2,none⟩ v2).heap[b]? = some (.cells #[v0,v1,v2,a3,a4,a5,a6,a7] 64 (0,0)) := heap_set v2 h2
 have h4 : ((((w.setCell ⟨b,0,none⟩ v0).setCell ⟨b,1,none⟩ v1).setCell ⟨b,2,none⟩ v2).setCell ⟨b,3,none⟩ v3).heap[b]? = some (.cells #[v0,v1,v2,v3,a4,a5,a6,a7] 64 (0,0)) := heap_set v3 h3
 have h5 : (((((w.setCell ⟨b,0,none⟩ v0).setCell ⟨b,1,none⟩ v1).setCell ⟨b,2,none⟩ v2).setCell ⟨b,3,none⟩ v3).setCell ⟨b,4,none⟩ v4).heap[b]? = some (.cells #[v0,v1,v2,v3,v4,a5,a6,a7] 64 (0,0)) := heap_set v4 h4
 have h6 : ((((((w.setCell ⟨b,0,none⟩ v0).setCell ⟨b,1,none⟩ v1).setCell ⟨b,2,none⟩ v2).setCell ⟨b,3,none⟩ v3).setCell ⟨b,4,none⟩ v4).setCell ⟨b,5,none⟩ v5).heap[b]? = some (.cells #[v0,v1,v2,v3,v4,v5,a6,a7] 64 (0,0)) := heap_set v5 h5
 have h7 : (((((((w.setCell ⟨b,0,none⟩ v0).setCell ⟨b,1,none⟩ v1).setCell ⟨b,2,none⟩ v2).setCell ⟨b,3,none⟩ v3).setCell ⟨b,4,none⟩ v4).setCell ⟨b,5,none⟩ v5).setCell ⟨b,6,none⟩ v6).heap[b]? = some (.cells #[v0,v1,v2,v3,v4,v5,v6,a7] 64 (0,0)) := heap_set v6 h6
 have h8 : ((((((((w.setCell ⟨b,0,none⟩ v0).setCell ⟨b,1,none⟩ v1).setCell ⟨b,2,none⟩ v2).setCell ⟨b,3,none⟩ v3).setCell ⟨b,4,none⟩ v4).setCell ⟨b,5,none⟩ v5).setCell ⟨b,6,none⟩ v6).setCell ⟨b,7,none⟩ v7).heap[b]? = some (.cells #[v0,v1,v2,v3,v4,v5,v6,v7] 64 (0,0)) := heap_set v7 h7
 exact h8
theorem oth8 (w : World) {b c : Nat} (h : c ≠ b) (v0 v1 v2 v3 v4 v5 v6 v7 : Value) : ((((((((w.setCell ⟨b,0,none⟩ v0).setCell ⟨b,1,none⟩ v1).setCell ⟨b,2,none⟩ v2).setCell ⟨b,3,none⟩ v3).setCell ⟨b,4,none⟩ v4).setCell ⟨b,5,none⟩ v5).setCell ⟨b,6,none⟩ v6).setCell ⟨b,7,none⟩ v7).heap[c]? = w.heap[c]? := by
 iterate 8 (refine (Below.heap_setCell _ _ _ _ (show c ≠ b from h)).trans ?_)
 rfl
theorem fin8 {U : World} {b : Nat} {a0 a1 a2 a3 a4 a5 a6 a7 : Value} (h : U.heap[b]? = some (.cells #[a0,a1,a2,a3,a4,a5,a6,a7] 64 (0,0))) (v0 v1 v2 v3 v4 v5 v6 v7 : Value) :
  ∃ Y,((((((((U.setCell ⟨b,0,none⟩ v0).setCell ⟨b,1,none⟩ v1).setCell ⟨b,2,none⟩ v2).setCell ⟨b,3,none⟩ v3).setCell ⟨b,4,none⟩ v4).setCell ⟨b,5,none⟩ v5).setCell ⟨b,6,none⟩ v6).setCell ⟨b,7,none⟩ v7) = Y ∧ Y.heap[b]? = some (.cells #[v0,v1,v2,v3,v4,v5,v6,v7] 64 (0,0)) ∧ Y§ = U§ ∧ (∀ k,k ≠ b → Y.heap[k]? = U.heap[k]?) ∧ (∀ (w : World) (F : Nat → Prop),Mv w U F → w§ ≤ b → Mv w Y F) := by
 refine ⟨_,rfl,put8 h _ _ _ _ _ _ _ _,?_,fun k hk => oth8 _ hk _ _ _ _ _ _ _ _,fun w F m hb => ?_⟩
 ·simp [World.setCell]
 ·exact (((((((m.setCell (a := ⟨b,0,none⟩) (.inr hb) v0).setCell (a := ⟨b,1,none⟩) (.inr hb) v1).setCell (a := ⟨b,2,none⟩) (.inr hb) v2).setCell (a := ⟨b,3,none⟩) (.inr hb) v3).setCell (a := ⟨b,4,none⟩) (.inr hb) v4).setCell (a := ⟨b,5,none⟩) (.inr hb) v5).setCell (a := ⟨b,6,none⟩) (.inr hb) v6).setCell (a := ⟨b,7,none⟩) (.inr hb) v7
theorem Rdr.blk {w w' : World} {b G : Nat} {ts : List Tk} {fa : Int} {fe : Value} {d : Nat} {a : Option Addr} {c : Nat} (h : Rdr w b G ts fa fe d a c) (h1 : w'.heap[b]? = w.heap[b]?) (h2 : w'.heap[G]? = w.heap[G]?) (hs : w§ ≤ w'§) : Rdr w' b G ts fa fe d a c :=
 ⟨h1.trans h.h,h.l,h.m,h.n,h.gb,Nat.lt_of_lt_of_le h.gl hs,fun i hi => by
  obtain ⟨o,e,ht⟩ := h.r i hi
  exact ⟨o,e,ht.blk h2⟩⟩
theorem lies0 (w : World) {h : Hd} (hr : Rg h) : Lies w (.mk h none 0 []) := .mk h none 0 [] hr (by simp) (by simp) (fun i hi => by simp at hi) (fun k hk => by simp at hk)
theorem liesO0 (w : World) {h : Hd} (hr : Rg h) : LiesO w (.mk h none 0 []) := .mk h none 0 [] hr (by simp) (by simp) (fun i hi => by simp at hi) (fun k hk => by simp at hk) (Row.nil _ _ _ _) (fun x e => by cases e) List.Pairwise.nil
theorem bkn0 (P : Nat → Prop) (h : Hd) : Bkn P (.mk h none 0 []) := .mk h none 0 [] (fun _ _ e => by cases e) (fun k hk => by simp at hk)
theorem Lies.bkn {w w' : World} {P : Nat → Prop} : ∀ {m : Nd},Lies w m → Bkn P m → (∀ b,P b → w'.heap[b]? = w.heap[b]?) → Lies w' m := by
 intro m h hb k
 induction h with
 | mk h a c ks hr hc hm hk hs ih =>
  cases hb with
  | mk _ _ _ _ hp hq =>
  refine .mk h a c ks hr hc hm (fun i hi => ?_) (fun x hx => ih x hx (hq x hx))
  obtain ⟨b,o,e,hat⟩ := hk i hi
  exact ⟨b,o,e,hat.blk (k b (hp b o e))⟩
theorem Rdr.nest {w : World} {b G : Nat} {ts : List Tk} {fa : Int} {fe : Value} {d d' : Nat} {a : Option Addr} {c : Nat} (h : Rdr w b G ts fa fe d a c) (hd : d' ≤ 1000) : Rdr (w.setCell ⟨b,3,none⟩ (zI d')) b G ts fa fe d' a c :=
 ⟨heap_set (j := 3) (zI (d' : Int)) h.h,h.l,h.m,hd,h.gb,by have := h.gl; simp [World.setCell]; exact this,fun i hi => by
  obtain ⟨o,e,ht⟩ := h.r i hi
  exact ⟨o,e,ht.blk (Below.heap_setCell _ _ _ _ h.gb)⟩⟩
set_option maxRecDepth 100000 in
theorem within_any (F : Nat) (hE : ∀ args v,Sem.run Tryz.prog (callFunc F args) v = .ok (.enter F args) v) {w : World} {b G : Nat} {ts : List Tk} {fa : Int} {fe : Value} {d : Nat} {a : Option Addr} {c : Nat} (h : Rdr w b G ts fa fe d a c) (hd : d < 1000) (r : Except Ft (Tr × List Tk))
  (cF : ∀ v a c,Rdr v b G ts fa fe (d + 1) a c → Calls zG F #[zP b] v (OutN b G fa fe (d + 1) v r)) :
  Calls zG 89 #[zP b,.func (.func F) #[zP b] #[]] w (OutN b G fa fe d w r) := by
 have hb0 := below_new w (.cells zNo 64)
 have h0 := h.on hb0
 have HBL : Hid (b < w§) := h.lt
 have HGL : Hid (G < w§) := h.gl
 obtain ⟨V,eV⟩ : ∃ V,(w.alloc (.cells zNo 64)).setCell ⟨b,3,none⟩ (zI (d + 1)) = V := ⟨_,rfl⟩
 have hV : Rdr V b G ts fa fe (d + 1) a c := by rw [← eV]; exact h0.nest (d' := d + 1) (by omega)
 have HKV : Hid (V.heap[w§]? = some (.cells zNo 64 (0,0))) := by
  rw [← eV]; exact (Below.heap_setCell _ _ _ _ (show w§ ≠ b by have := HBL.out; omega)).trans (heap_new _ _)
 have HMV : Hid (Mv w V (fun k => k = b)) := by
  rw [← eV]
  have hm : Mv w (w.alloc (.cells zNo 64)) (fun k => k = b) := Mv.ofBelow hb0
  exact hm.setCell (a := ⟨b,3,none⟩) (.inl rfl) _
 have c3 : w.cell? ⟨b,3,none⟩ = some (zI d) := cell_of h.h 3
 have hbl := h.lt
 have f3 : w.frozen? ⟨b,3,none⟩ = false := frozen_of h.h 3
 have hd' : (d : Int) + 1 ≤ 1000 := by omega
 have hd0 : (0 : Int) ≤ d := by omega
 have cC := cF V a c hV
 clear h h0 hb0 hV cF
 cases r with
 | error f =>
  go_enter Tryz.func89,Tryz.ntmps89
  go_wp2_with fail
  refine cC.mono ?_
  rintro e w1 ⟨rfl,hm⟩
  exact ⟨rfl,rfl,HMV.out.trans hm (fun k e => .inl e)⟩
 | ok q =>
  obtain ⟨t,ts'⟩ := q
  go_enter Tryz.func89,Tryz.ntmps89
  go_wp2_with fail
  refine cC.mono ?_
  rintro e w1 ⟨⟨m,rfl,rfl,hl,hk⟩,⟨a',c',hr⟩,hm⟩
  obtain ⟨⟨k,o,ty,n,f,x,p⟩,am,cm,ks⟩ := m
  have hsz : V§ ≤ w1§ := hm.size
  have hVs : w§ < V§ := (Array.getElem?_eq_some_iff.1 HKV.out).1
  have HK1 : Hid (w1.heap[w§]? = some (.cells zNo 64 (0,0))) := (hm.block _ hVs (fun e => by have := HBL.out; omega)).trans HKV.out
  have HM1 : Hid (Mv w w1 (fun k => k = b)) := HMV.out.trans hm (fun k e => .inl e)
  have HR1 := hr.hid
  have HL1 := hl.hid
  have HP1 : Hid (Bkn (fun k => V§ ≤ k ∧ k < w1§) (.mk ⟨k,o,ty,n,f,x,p⟩ am cm ks)) := hk
  have n3 : w1.cell? ⟨b,3,none⟩ = some (zI (d + 1)) := cell_of hr.h 3
  have g3 : w1.frozen? ⟨b,3,none⟩ = false := frozen_of hr.h 3
  have hb1 : b < w1§ := by omega
  obtain ⟨W,eW⟩ : ∃ W,(w1.alloc (.cells #[zU k,zU o,zU ty,zI n,zU f,.string x,.slice am ks.length cm,zI p] 64)).setCell ⟨b,3,none⟩ (zI d) = W := ⟨_,rfl⟩
  have hWn : W.heap[w1§]? = some (.cells #[zU k,zU o,zU ty,zI n,zU f,.string x,.slice am ks.length cm,zI p] 64 (0,0)) := by rw [← eW]; exact (Below.heap_setCell _ _ _ _ (show w1§ ≠ b by omega)).trans (heap_new _ _)
  have hWo : ∀ j,j ≠ b → j < w1§ → W.heap[j]? = w1.heap[j]? := fun j hj hl => by rw [← eW]; exact (Below.heap_setCell _ _ _ _ hj).trans ((below_new w1 _).block _ hl)
  have hWz : W.heap[w§]? = some (.cells zNo 64 (0,0)) := (hWo _ (by omega) (by omega)).trans HK1.out
  have hWr : Rdr W b G ts' fa fe d a' c' := by rw [← eW]; exact (hr.on (below_new w1 _)).nest (d' := d) (by omega)
  have hWm : Mv w W (fun k => k = b) := by
   rw [← eW]
   have hm : Mv w (w1.alloc (.cells #[zU k,zU o,zU ty,zI n,zU f,.string x,.slice am ks.length cm,zI p] 64)) (fun k => k = b) := HM1.out.trans (Mv.ofBelow (below_new _ _)) (fun k e => .inl e)
   exact hm.setCell (a := ⟨b,3,none⟩) (.inl rfl) _
  have hWs : w1§ < W§ := (Array.getElem?_eq_some_iff.1 hWn).1
  have y0 : W.cell? ⟨w1§,0,none⟩ = some (zU k) := cell_of hWn 0
  have z0 : W.cell? ⟨w§,0,none⟩ = some (zU 0) := cell_of hWz 0
  have q0 : W.frozen? ⟨w§,0,none⟩ = false := frozen_of hWz 0
  have y1 : W.cell? ⟨w1§,1,none⟩ = some (zU o) := cell_of hWn 1
  have z1 : W.cell? ⟨w§,1,none⟩ = some (zU 0) := cell_of hWz 1
  have q1 : W.frozen? ⟨w§,1,none⟩ = false := frozen_of hWz 1
  have y2 : W.cell? ⟨w1§,2,none⟩ = some (zU ty) := cell_of hWn 2
  have z2 : W.cell? ⟨w§,2,none⟩ = some (zU 0) := cell_of hWz 2
  have q2 : W.frozen? ⟨w§,2,none⟩ = false := frozen_of hWz 2
  have y3 : W.cell? ⟨w1§,3,none⟩ = some (zI n) := cell_of hWn 3
  have z3 : W.cell? ⟨w§,3,none⟩ = some (zI 0) := cell_of hWz 3
  have q3 : W.frozen? ⟨w§,3,none⟩ = false := frozen_of hWz 3
  have y4 : W.cell? ⟨w1§,4,none⟩ = some (zU f) := cell_of hWn 4
  have z4 : W.cell? ⟨w§,4,none⟩ = some (zU 0) := cell_of hWz 4
  have q4 : W.frozen? ⟨w§,4,none⟩ = false := frozen_of hWz 4
  have y5 : W.cell? ⟨w1§,5,none⟩ = some (.string x) := cell_of hWn 5
  have z5 : W.cell? ⟨w§,5,none⟩ = some (.string ⟨#[]⟩) := cell_of hWz 5
  have q5 : W.frozen? ⟨w§,5,none⟩ = false := frozen_of hWz 5
  have y6 : W.cell? ⟨w1§,6,none⟩ = some (.slice am ks.length cm) := cell_of hWn 6
  have z6 : W.cell? ⟨w§,6,none⟩ = some (.slice none 0 0) := cell_of hWz 6
  have q6 : W.frozen? ⟨w§,6,none⟩ = false := frozen_of hWz 6
  have y7 : W.cell? ⟨w1§,7,none⟩ = some (zI p) := cell_of hWn 7
  have z7 : W.cell? ⟨w§,7,none⟩ = some (zI 0) := cell_of hWz 7
  have q7 : W.frozen? ⟨w§,7,none⟩ = false := frozen_of hWz 7
  obtain ⟨Y,eY,hY1,hY2,hY3,hY4⟩ := fin8 hWz (zU k) (zU o) (zU ty) (zI n) (zU f) (.string x) (.slice am ks.length cm) (zI p)
  have HY1 : Hid (Y.heap[w§]? = some (.cells (Nd.mk ⟨k,o,ty,n,f,x,p⟩ am cm ks).vals 64 (0,0))) := hY1
  have HEY : Hid (_ = Y) := eY
  have HRY : Hid (∃ a c,Rdr Y b G ts' fa fe d a c) := ⟨a',c',hWr.blk (hY3 _ (by have := HBL.out; omega)) (hY3 _ (by have := HGL.out; omega)) (by omega)⟩
  have HMY : Hid (Mv w Y (fun k => k = b)) := hY4 _ _ hWm (Nat.le_refl _)
  have HLY : Hid (LiesO Y (.mk ⟨k,o,ty,n,f,x,p⟩ am cm ks)) := HL1.out.bkn HP1.out fun j hj => (hY3 j (by omega)).trans (hWo j (by omega) hj.2)
  have HPY : Hid (Bkn (fun k => w§ ≤ k ∧ k < Y§) (.mk ⟨k,o,ty,n,f,x,p⟩ am cm ks)) := HP1.out.mono fun j hj => by omega
  clear cC hr hm hl hk hWn hWo hWz hWr hWm hY1 hY2 hY3 hY4 eY eV c3 f3
  simp only [Nd.vals,Nd.h,Nd.a,Nd.c,Nd.ks,hdA]
  go_wp2_with fail
  rw [HEY.out]
  exact bodyPost_ret (results_cell_row rfl _ _ w§ 64 (Nd.mk ⟨k,o,ty,n,f,x,p⟩ am cm ks).vals (0,0) _ rfl HY1.out Tryz.underlying64 rfl zK) rfl ⟨⟨_,rfl,rfl,HLY.out,HPY.out⟩,HRY.out,HMY.out⟩
theorem enter46 (args : Array Value) (v : World) : Sem.run Tryz.prog (callFunc 46 args) v = .ok (.enter 46 args) v := by kernel_rfl
theorem enter180 (args : Array Value) (v : World) : Sem.run Tryz.prog (callFunc 180 args) v = .ok (.enter 180 args) v := by kernel_rfl
def gIn (r : Except Ft (Tr × List Tk)) : Except Ft (Tr × List Tk) := do
 let (n,r) ← r
 let (_,r) ← gTake (gB [41]) r
 .ok (n,r)
set_option maxRecDepth 100000 in
theorem inBr_any {w : World} {b G : Nat} {ts : List Tk} {fa : Int} {fe : Value} {d : Nat} {a : Option Addr} {c : Nat} (h : Rdr w b G ts fa fe d a c) (hd : d < 1000) (r : Except Ft (Tr × List Tk))
  (cF : ∀ v a c,Rdr v b G ts fa fe (d + 1) a c → Calls zG 46 #[zP b] v (OutN b G fa fe (d + 1) v r)) :
  Calls zG 186 #[zP b] w (OutN b G fa fe d w (gIn r)) := by
 have hmf : ∀ (fn : Fn) (first cap : Array Value) (w : World),(Instr.makeFunc fn first cap).run Tryz.prog w = .ok (.func fn first cap) w := fun _ _ _ _ => rfl
 have hb0 := below_new w (.cells zNo 64)
 have h0 := h.on hb0
 have HBL : Hid (b < w§) := h.lt
 have HGL : Hid (G < w§) := h.gl
 have HK0 : Hid ((w.alloc (.cells zNo 64)).heap[w§]? = some (.cells zNo 64 (0,0))) := heap_new _ _
 have HM0 : Hid (Mv w (w.alloc (.cells zNo 64)) (fun k => k = b)) := Mv.ofBelow hb0
 have cC := within_any 46 enter46 h0 hd r cF
 clear h h0 hb0 cF hd
 cases r with
 | error f =>
  go_enter Tryz.func186,Tryz.ntmps186
  go_wp2_with fail
  refine cC.mono ?_
  rintro e w1 ⟨rfl,hm⟩
  exact ⟨rfl,rfl,HM0.out.trans hm (fun k e => .inl e)⟩
 | ok q =>
  obtain ⟨t,ts'⟩ := q
  have eG : gIn (.ok (t,ts')) = match gTake (gB [41]) ts' with | .error e => .error e | .ok q => .ok (t,q.2) := by
   simp only [gIn,bind,Except.bind]
   cases gTake (gB [41]) ts' with
   | error e => rfl
   | ok q => rfl
  rw [eG]
  clear eG
  obtain ⟨T,eT⟩ : ∃ T,gTake (gB [41]) ts' = T := ⟨_,rfl⟩
  rw [eT]
  have HET : Hid (gTake (gB [41]) ts' = T) := eT
  clear eT
  go_enter Tryz.func186,Tryz.ntmps186
  go_wp2_with fail
  refine cC.mono ?_
  rintro e w1 ⟨⟨m,rfl,rfl,hl,hk⟩,⟨a',c',hr⟩,hm⟩
  obtain ⟨⟨k,o,ty,n,f,x,p⟩,am,cm,ks⟩ := m
  have hWs : w§ < (w.alloc (.cells zNo 64))§ := (Array.getElem?_eq_some_iff.1 HK0.out).1
  have hsz := hm.size
  have HK1 : Hid (w1.heap[w§]? = some (.cells zNo 64 (0,0))) := (hm.block _ hWs (fun e => by have := HBL.out; omega)).trans HK0.out
  have HM1 : Hid (Mv w w1 (fun k => k = b)) := HM0.out.trans hm (fun k e => .inl e)
  have HL1 := hl.hid
  have HP1 : Hid (Bkn (fun k => w§ < k ∧ k < w1§) (.mk ⟨k,o,ty,n,f,x,p⟩ am cm ks)) := hk.mono fun j hj => ⟨by omega,hj.2⟩
  have hbN := below_new w1 (.cells #[zU k,zU o,zU ty,zI n,zU f,.string x,.slice am ks.length cm,zI p] 64)
  have HKN : Hid ((w1.alloc (.cells #[zU k,zU o,zU ty,zI n,zU f,.string x,.slice am ks.length cm,zI p] 64)).heap[w1§]? = some (.cells #[zU k,zU o,zU ty,zI n,zU f,.string x,.slice am ks.length cm,zI p] 64 (0,0))) := heap_new _ _
  have HKZ : Hid ((w1.alloc (.cells #[zU k,zU o,zU ty,zI n,zU f,.string x,.slice am ks.length cm,zI p] 64)).heap[w§]? = some (.cells zNo 64 (0,0))) := (hbN.block _ (by omega)).trans HK1.out
  have HBN : Hid (Below w1§ w1 (w1.alloc (.cells #[zU k,zU o,zU ty,zI n,zU f,.string x,.slice am ks.length cm,zI p] 64))) := hbN
  have hRR : Hid (w§ < w1§) := Nat.lt_of_lt_of_le hWs hsz
  have cT : Calls zG 64 #[zP b,.string Zl] (w1.alloc (.cells #[zU k,zU o,zU ty,zI n,zU f,.string x,.slice am ks.length cm,zI p] 64)) (OutK b G fa fe d (w1.alloc (.cells #[zU k,zU o,zU ty,zI n,zU f,.string x,.slice am ks.length cm,zI p] 64)) T) := by rw [← HET.out]; exact take_any (hr.on hbN) (gB [41])
  clear cC hr hm hl hk hbN hsz hWs
  simp only [Nd.vals,Nd.h,Nd.a,Nd.c,Nd.ks,hdA]
  clear HET
  cases T with
  | error f =>
   go_wp2_with fail
   refine cT.mono ?_
   rintro e w2 ⟨rfl,hm⟩
   exact ⟨rfl,rfl,(HM1.out.trans (Mv.ofBelow HBN.out) (fun k e => .inl e)).trans hm (fun k e => .inl e)⟩
  | ok q =>
   obtain ⟨u,ts2⟩ := q
   go_wp2_with fail
   refine cT.mono ?_
   rintro e w2 ⟨rfl,⟨a2,c2,hr2⟩,hm2⟩
   have hN2 := (Array.getElem?_eq_some_iff.1 HKN.out).1
   have h2N : w2.heap[w1§]? = some (.cells #[zU k,zU o,zU ty,zI n,zU f,.string x,.slice am ks.length cm,zI p] 64 (0,0)) := (hm2.block _ hN2 (fun e => by have := HBL.out; have := hRR.out; omega)).trans HKN.out
   have h2Z : w2.heap[w§]? = some (.cells zNo 64 (0,0)) := (hm2.block _ (Nat.lt_trans hRR.out hN2) (fun e => by have := HBL.out; omega)).trans HKZ.out
   have h2s := hm2.size
   have y0 : w2.cell? ⟨w1§,0,none⟩ = some (zU k) := cell_of h2N 0
   have z0 : w2.cell? ⟨w§,0,none⟩ = some (zU 0) := cell_of h2Z 0
   have q0 : w2.frozen? ⟨w§,0,none⟩ = false := frozen_of h2Z 0
   have y1 : w2.cell? ⟨w1§,1,none⟩ = some (zU o) := cell_of h2N 1
   have z1 : w2.cell? ⟨w§,1,none⟩ = some (zU 0) := cell_of h2Z 1
   have q1 : w2.frozen? ⟨w§,1,none⟩ = false := frozen_of h2Z 1
   have y2 : w2.cell? ⟨w1§,2,none⟩ = some (zU ty) := cell_of h2N 2
   have z2 : w2.cell? ⟨w§,2,none⟩ = some (zU 0) := cell_of h2Z 2
   have q2 : w2.frozen? ⟨w§,2,none⟩ = false := frozen_of h2Z 2
   have y3 : w2.cell? ⟨w1§,3,none⟩ = some (zI n) := cell_of h2N 3
   have z3 : w2.cell? ⟨w§,3,none⟩ = some (zI 0) := cell_of h2Z 3
   have q3 : w2.frozen? ⟨w§,3,none⟩ = false := frozen_of h2Z 3
   have y4 : w2.cell? ⟨w1§,4,none⟩ = some (zU f) := cell_of h2N 4
   have z4 : w2.cell? ⟨w§,4,none⟩ = some (zU 0) := cell_of h2Z 4
   have q4 : w2.frozen? ⟨w§,4,none⟩ = false := frozen_of h2Z 4
   have y5 : w2.cell? ⟨w1§,5,none⟩ = some (.string x) := cell_of h2N 5
   have z5 : w2.cell? ⟨w§,5,none⟩ = some (.string ⟨#[]⟩) := cell_of h2Z 5
   have q5 : w2.frozen? ⟨w§,5,none⟩ = false := frozen_of h2Z 5
   have y6 : w2.cell? ⟨w1§,6,none⟩ = some (.slice am ks.length cm) := cell_of h2N 6
   have z6 : w2.cell? ⟨w§,6,none⟩ = some (.slice none 0 0) := cell_of h2Z 6
   have q6 : w2.frozen? ⟨w§,6,none⟩ = false := frozen_of h2Z 6
   have y7 : w2.cell? ⟨w1§,7,none⟩ = some (zI p) := cell_of h2N 7
   have z7 : w2.cell? ⟨w§,7,none⟩ = some (zI 0) := cell_of h2Z 7
   have q7 : w2.frozen? ⟨w§,7,none⟩ = false := frozen_of h2Z 7
   obtain ⟨Y,eY,hY1,hY2,hY3,hY4⟩ := fin8 h2Z (zU k) (zU o) (zU ty) (zI n) (zU f) (.string x) (.slice am ks.length cm) (zI p)
   have HY1 : Hid (Y.heap[w§]? = some (.cells (Nd.mk ⟨k,o,ty,n,f,x,p⟩ am cm ks).vals 64 (0,0))) := hY1
   have HEY : Hid (_ = Y) := eY
   have HRY : Hid (∃ a c,Rdr Y b G ts2 fa fe d a c) := ⟨a2,c2,hr2.blk (hY3 _ (by have := HBL.out; omega)) (hY3 _ (by have := HGL.out; omega)) (by omega)⟩
   have HMY : Hid (Mv w Y (fun k => k = b)) := hY4 _ _ ((HM1.out.trans (Mv.ofBelow HBN.out) (fun k e => .inl e)).trans hm2 (fun k e => .inl e)) (Nat.le_refl _)
   have HLY : Hid (LiesO Y (.mk ⟨k,o,ty,n,f,x,p⟩ am cm ks)) := HL1.out.bkn HP1.out fun j hj => ((hY3 j (by omega)).trans (hm2.block j (Nat.lt_of_lt_of_le hj.2 HBN.out.size) (fun e => by have := HBL.out; omega))).trans (HBN.out.block j hj.2)
   have HPY : Hid (Bkn (fun k => w§ ≤ k ∧ k < Y§) (.mk ⟨k,o,ty,n,f,x,p⟩ am cm ks)) := HP1.out.mono fun j hj => by omega
   clear cT hr2 hm2 h2N h2Z h2s hN2 hY1 hY2 hY3 hY4 eY
   go_wp2_with fail
   rw [HEY.out]
   exact bodyPost_ret (results_cell_row rfl _ _ w§ 64 (Nd.mk ⟨k,o,ty,n,f,x,p⟩ am cm ks).vals (0,0) _ rfl HY1.out Tryz.underlying64 rfl zK) rfl ⟨⟨_,rfl,rfl,HLY.out,HPY.out⟩,HRY.out,HMY.out⟩
structure RgT (t : Tk) : Prop where
 x1 : t.x.size ≤ 140737488355328
 y0 : 0 ≤ t.ty
 y1 : t.ty ≤ 255
 n0 : -9223372036854775808 ≤ t.n
 n1 : t.n ≤ 9223372036854775807
 p0 : -9223372036854775808 ≤ t.p
 p1 : t.p ≤ 9223372036854775807
theorem RgT.val {t : Tk} (h : RgT t) : Rg ⟨1,0,(valT t).1,(valT t).2,0,gE,t.p⟩ := by
 have := h.y0; have := h.y1; have := h.n0; have := h.n1; have := h.p0; have := h.p1
 have hv : 0 ≤ (valT t).1 ∧ (valT t).1 ≤ 255 ∧ -9223372036854775808 ≤ (valT t).2 ∧ (valT t).2 ≤ 9223372036854775807 := by
  unfold valT
  split
  ·simp
  split
  ·simp
  split
  ·simp
  split
  ·simp
  exact ⟨h.y0,h.y1,h.n0,h.n1⟩
 constructor <;> first | omega | (show (0 : Nat) ≤ _; omega) | (simp only; omega) | simp
theorem below_tk {w w1 : World} (t : Tk) (h : Below w§ w w1) : Below w§ w (w1.alloc (.cells #[zU t.k,.string t.x,zU t.ty,zI t.n,zI t.p] 82)) := below2 h (below_new _ _)
set_option maxRecDepth 100000 in
theorem lit_ok {w : World} {b G : Nat} {t : Tk} {ts : List Tk} {fa : Int} {fe : Value} {d : Nat} {a : Option Addr} {c : Nat} (h : Rdr w b G (t :: ts) fa fe d a c) (ht : RgT t) : Calls zG 130 #[zP b] w (OutN b G fa fe d w (gLit (t :: ts))) := by
 have hb0 := below_new w (.cells zNo 64)
 have h0 := h.on hb0
 have cL := look_ok h0
 have HB0 : Hid (Below w§ w (w.alloc (.cells zNo 64))) := hb0
 have HH0 := h0.hid
 have HBL : Hid (b < w§) := h.lt
 have HGL : Hid (G < w§) := h.gl
 have HT : Hid (Rg ⟨1,0,(valT t).1,(valT t).2,0,gE,t.p⟩) := ht.val
 obtain ⟨ty,ety⟩ : ∃ v,(valT t).1 = v := ⟨_,rfl⟩
 obtain ⟨n,en⟩ : ∃ v,(valT t).2 = v := ⟨_,rfl⟩
 have cV := fun v => valueOf_any t v
 have eG : gLit (t :: ts) = if ty = 0 then .error (.tok 130 t.p) else .ok (.mk ⟨1,0,ty,n,0,gE,t.p⟩ [],ts) := by
  rw [← ety,← en]
  by_cases e : (valT t).1 = 0
  ·simp [gLit,gLook,gNeed,bind,Except.bind,e]
  ·simp [gLit,gLook,gNeed,gStep,bind,Except.bind,e]
 rw [eG]
 rw [ety,en] at HT cV
 unfold tkA at cL cV
 clear h hb0 h0 eG ety en ht
 by_cases e : ty = 0
 ·rw [if_pos e]
  subst e
  go_enter Tryz.func130,Tryz.ntmps130
  go_wp2_with fail
  refine cL.mono ?_
  rintro e w1 ⟨rfl,hb⟩
  have HB : Hid (Below w§ w w1) := below2 HB0.out hb
  have HH := (HH0.out.on hb).hid
  clear hb cL
  go_wp2_with fail
  refine (cV _).mono ?_
  rintro e w2 ⟨rfl,hb⟩
  have HB2 : Hid (Below w§ w w2) := below2 (below_tk t HB.out) hb
  have cN := need_tok ((HH.out.on (below_new _ _)).on hb) 130
  clear hb cV
  go_wp2_with fail
  refine cN.mono ?_
  rintro e w3 ⟨rfl,hb3⟩
  exact ⟨rfl,rfl,Mv.ofBelow (below2 HB2.out hb3)⟩
 ·rw [if_neg e]
  have e2 : decide (ty = 0) = false := decide_eq_false e
  have e3 : (ty == 0) = false := by simpa using e
  have e4 : (ty != 0) = true := by simpa using e
  go_enter Tryz.func130,Tryz.ntmps130
  go_wp2_with fail
  refine cL.mono ?_
  rintro e w1 ⟨rfl,hb⟩
  have HB : Hid (Below w§ w w1) := below2 HB0.out hb
  have HH := (HH0.out.on hb).hid
  have HR : Hid (w1.heap[w§]? = some (.cells zNo 64 (0,0))) := (hb.block _ (by rw [size_alloc]; omega)).trans (heap_new _ _)
  clear hb cL
  go_wp2_with fail
  refine (cV _).mono ?_
  rintro e w2 ⟨rfl,hb⟩
  have HB2 : Hid (Below w§ w w2) := below2 (below_tk t HB.out) hb
  have cS := step_ok ((HH.out.on (below_new _ _)).on hb)
  have HX : Hid (w2.heap[w1§]? = some (.cells #[zU t.k,.string t.x,zU t.ty,zI t.n,zI t.p] 82 (0,0))) := (hb.block _ (by rw [size_alloc]; omega)).trans (heap_new _ _)
  have hlt : w§ < w1§ := (Array.getElem?_eq_some_iff.1 HR.out).1
  have HR2 : Hid (w2.heap[w§]? = some (.cells zNo 64 (0,0))) := ((hb.block _ (by rw [size_alloc]; omega)).trans ((below_new w1 _).block _ hlt)).trans HR.out
  have cN := need_ok w2 b 130
  clear hb cV
  go_wp2_with (go_at_call 72; refine cN.mono ?_; rintro e w3 ⟨rfl,e4⟩; obtain rfl := e4.symm)
  refine cS.mono ?_
  rintro e w3 ⟨rfl,⟨a3,c3,hr3⟩,hm3⟩
  have HM3 : Hid (Mv w w3 (fun k => k = b)) := (Mv.ofBelow HB2.out).trans hm3 (fun k e => .inl e)
  have HR3 : Hid (w3.heap[w§]? = some (.cells zNo 64 (0,0))) := (hm3.block _ (Array.getElem?_eq_some_iff.1 HR2.out).1 (fun e => by have := HBL.out; omega)).trans HR2.out
  have hX3 : w3.heap[w1§]? = some (.cells #[zU t.k,.string t.x,zU t.ty,zI t.n,zI t.p] 82 (0,0)) := (hm3.block _ (Array.getElem?_eq_some_iff.1 HX.out).1 (fun e => by have := HBL.out; omega)).trans HX.out
  have HRD := hr3.hid
  have x4 : w3.cell? ⟨w1§,4,none⟩ = some (zI t.p) := cell_of hX3 4
  have z0 : w3.cell? ⟨w§,0,none⟩ = some (zU 0) := cell_of HR3.out 0
  have q0 : w3.frozen? ⟨w§,0,none⟩ = false := frozen_of HR3.out 0
  have z1 : w3.cell? ⟨w§,1,none⟩ = some (zU 0) := cell_of HR3.out 1
  have q1 : w3.frozen? ⟨w§,1,none⟩ = false := frozen_of HR3.out 1
  have z2 : w3.cell? ⟨w§,2,none⟩ = some (zU 0) := cell_of HR3.out 2
  have q2 : w3.frozen? ⟨w§,2,none⟩ = false := frozen_of HR3.out 2
  have z3 : w3.cell? ⟨w§,3,none⟩ = some (zI 0) := cell_of HR3.out 3
  have q3 : w3.frozen? ⟨w§,3,none⟩ = false := frozen_of HR3.out 3
  have z4 : w3.cell? ⟨w§,4,none⟩ = some (zU 0) := cell_of HR3.out 4
  have q4 : w3.frozen? ⟨w§,4,none⟩ = false := frozen_of HR3.out 4
  have z5 : w3.cell? ⟨w§,5,none⟩ = some (.string ⟨#[]⟩) := cell_of HR3.out 5
  have q5 : w3.frozen? ⟨w§,5,none⟩ = false := frozen_of HR3.out 5
  have z6 : w3.cell? ⟨w§,6,none⟩ = some (.slice none 0 0) := cell_of HR3.out 6
  have q6 : w3.frozen? ⟨w§,6,none⟩ = false := frozen_of HR3.out 6
  have z7 : w3.cell? ⟨w§,7,none⟩ = some (zI 0) := cell_of HR3.out 7
  have q7 : w3.frozen? ⟨w§,7,none⟩ = false := frozen_of HR3.out 7
  obtain ⟨Y,eY,hY1,hY2,hY3,hY4⟩ := fin8 HR3.out (zU 1) (zU 0) (zU ty) (zI n) (zU 0) (.string ⟨#[]⟩) (.slice none 0 0) (zI t.p)
  have HY1 : Hid (Y.heap[w§]? = some (.cells (Nd.mk ⟨1,0,ty,n,0,gE,t.p⟩ none 0 []).vals 64 (0,0))) := hY1
  have HEY : Hid (_ = Y) := eY
  have HRY : Hid (∃ a c,Rdr Y b G ts fa fe d a c) := ⟨a3,c3,HRD.out.blk (hY3 _ (by have := HBL.out; omega)) (hY3 _ (by have := HGL.out; omega)) (by omega)⟩
  have HMY : Hid (Mv w Y (fun k => k = b)) := hY4 _ _ HM3.out (Nat.le_refl _)
  clear cS hr3 hm3 hX3 eY hY1 hY2 hY3 hY4
  go_wp2_with fail
  rw [HEY.out]
  exact bodyPost_ret (results_cell_row rfl _ _ w§ 64 (Nd.mk ⟨1,0,ty,n,0,gE,t.p⟩ none 0 []).vals (0,0) _ rfl HY1.out Tryz.underlying64 rfl zK) rfl ⟨⟨_,rfl,rfl,liesO0 _ HT.out,bkn0 _ _⟩,HRY.out,HMY.out⟩
theorem field82_0 (t : Tk) (v : World) : (Instr.field 82 (.agg (tkA t)) 0).run Tryz.prog v = .ok (zU t.k) v := by kernel_rfl
def gName (ts : List Tk) : Except Ft (ByteArray × List Tk) := do
 let t ← gLook ts
 gNeed (decide (t.k = 2)) 130 ts
 let (u,r) ← gStep ts
 .ok (u.x,r)
def gEnd (ts : List Tk) : Except Ft Unit := do
 let t ← gLook ts
 gNeed (decide (t.k = 0)) 130 ts
def OutS (b G : Nat) (fa : Int) (fe : Value) (d : Nat) (w : World) (r : Except Ft (ByteArray × List Tk)) (e : Ending) (w' : World) : Prop :=
 match r with
 | .ok (x,ts) => e = .returned (.string x) ∧ (∃ a c,Rdr w' b G ts fa fe d a c) ∧ Mv w w' (fun k => k = b)
 | .error f => e = pan (ftV fa fe f) ∧ Mv w w' (fun k => k = b)
set_option maxRecDepth 100000 in
theorem name_any {w : World} {b G : Nat} {ts : List Tk} {fa : Int} {fe : Value} {d : Nat} {a : Option Addr} {c : Nat} (h : Rdr w b G ts fa fe d a c) : Calls zG 65 #[zP b] w (OutS b G fa fe d w (gName ts)) := by
 cases ts with
 | nil =>
  have cL := look_no h
  clear h
  go_enter Tryz.func65,Tryz.ntmps65
  go_wp2_with fail
  refine cL.mono ?_
  rintro e w1 ⟨rfl,hb⟩
  exact ⟨rfl,rfl,Mv.ofBelow hb⟩
 | cons t ts =>
  have cL := look_ok h
  have HH := h.hid
  have hf := fun v => field82_0 t v
  have hf1 := fun v => field82_1 t v
  clear h
  by_cases e : t.k = 2
  ·have eT : gName (t :: ts) = .ok (t.x,ts) := by simp [gName,gLook,gNeed,gStep,bind,Except.bind,e]
   rw [eT]
   clear eT
   go_enter Tryz.func65,Tryz.ntmps65
   go_wp2_with fail
   refine cL.mono ?_
   rintro e w1 ⟨rfl,hb⟩
   have HB : Hid (Below w§ w w1) := hb
   have cS := step_ok (HH.out.on hb)
   have cN := need_ok w1 b 130
   clear hb cL
   go_wp2_with (go_at_call 72; refine cN.mono ?_; rintro e w3 ⟨rfl,e4⟩; obtain rfl := e4.symm)
   refine cS.mono ?_
   rintro e w2 ⟨rfl,hr2,hm2⟩
   have HR2 : Hid (∃ a c,Rdr w2 b G ts fa fe d a c) := hr2
   have HM2 : Hid (Mv w w2 (fun k => k = b)) := (Mv.ofBelow HB.out).trans hm2 (fun k e => .inl e)
   clear cS hr2 hm2
   go_wp2_with fail
   go_ret
   exact ⟨rfl,HR2.out,HM2.out⟩
  ·have e2 : decide (t.k = 2) = false := decide_eq_false e
   have e3 : (t.k == 2) = false := by simpa using e
   have eT : gName (t :: ts) = .error (.tok 130 t.p) := by simp [gName,gLook,gNeed,bind,Except.bind,e]
   rw [eT]
   clear eT
   go_enter Tryz.func65,Tryz.ntmps65
   go_wp2_with fail
   refine cL.mono ?_
   rintro e w1 ⟨rfl,hb⟩
   have HB : Hid (Below w§ w w1) := hb
   have cN := need_tok (HH.out.on hb) 130
   clear hb cL
   go_wp2_with fail
   refine cN.mono ?_
   rintro e w2 ⟨rfl,hb2⟩
   exact ⟨rfl,rfl,Mv.ofBelow (below2 HB.out hb2)⟩
def OutU (fa : Int) (fe : Value) (w : World) (r : Except Ft Unit) (e : Ending) (w' : World) : Prop :=
 (match r with
 | .ok _ => e = .returned (.tuple #[])
 | .error f => e = pan (ftV fa fe f)) ∧ Below w§ w w'
set_option maxRecDepth 100000 in
theorem end_any {w : World} {b G : Nat} {ts : List Tk} {fa : Int} {fe : Value} {d : Nat} {a : Option Addr} {c : Nat} (h : Rdr w b G ts fa fe d a c) : Calls zG 63 #[zP b] w (OutU fa fe w (gEnd ts)) := by
 cases ts with
 | nil =>
  have cL := look_no h
  clear h
  go_enter Tryz.func63,Tryz.ntmps63
  go_wp2_with fail
  refine cL.mono ?_
  rintro e w1 ⟨rfl,hb⟩
  exact ⟨rfl,rfl,hb⟩
 | cons t ts =>
  have cL := look_ok h
  have HH := h.hid
  have hf := fun v => field82_0 t v
  have hf1 := fun v => field82_1 t v
  clear h
  by_cases e : t.k = 0
  ·have e2 : decide (t.k = 0) = true := decide_eq_true e
   have e3 : (t.k == 0) = true := by simpa using e
   have eT : gEnd (t :: ts) = .ok () := by simp [gEnd,gLook,gNeed,bind,Except.bind,e]
   rw [eT]
   clear eT
   go_enter Tryz.func63,Tryz.ntmps63
   go_wp2_with fail
   refine cL.mono ?_
   rintro e w1 ⟨rfl,hb⟩
   have HB : Hid (Below w§ w w1) := hb
   have cN := need_ok w1 b 130
   clear hb cL
   go_wp2_with (go_at_call 72; refine cN.mono ?_; rintro e w3 ⟨rfl,e4⟩; obtain rfl := e4.symm)
   go_end0
   exact ⟨rfl,HB.out⟩
  ·have e2 : decide (t.k = 0) = false := decide_eq_false e
   have e3 : (t.k == 0) = false := by simpa using e
   have eT : gEnd (t :: ts) = .error (.tok 130 t.p) := by simp [gEnd,gLook,gNeed,bind,Except.bind,e]
   rw [eT]
   clear eT
   go_enter Tryz.func63,Tryz.ntmps63
   go_wp2_with fail
   refine cL.mono ?_
   rintro e w1 ⟨rfl,hb⟩
   have HB : Hid (Below w§ w w1) := hb
   have cN := need_tok (HH.out.on hb) 130
   clear hb cL
   go_wp2_with fail
   refine cN.mono ?_
   rintro e w2 ⟨rfl,hb2⟩
   exact ⟨rfl,rfl,below2 HB.out hb2⟩
end Go.Proofs.YtkfabnchhjfjjaaGreatDoor
