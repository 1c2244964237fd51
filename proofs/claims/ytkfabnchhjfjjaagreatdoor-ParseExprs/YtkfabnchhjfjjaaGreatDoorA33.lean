import Derived.Test.YtkfabnchhjfjjaaGreatDoorA0
import Derived.Test.YtkfabnchhjfjjaaGreatDoorA31
import Derived.Test.YtkfabnchhjfjjaaGreatDoorA32
import Derived.Deep.AppendLies
namespace Go.Proofs.YtkfabnchhjfjjaaGreatDoor
open Go.RowKit
set_option maxRecDepth 100000 in
set_option maxHeartbeats 2000000 in
theorem nil58 (w : World) : Calls zG 33 #[.slice none 0 0] w fun e w' => e = .returned (.bool true) ∧ w' = w := by
 go_enter Tryz.func33,Tryz.ntmps33
 go_wp2
 refine wp_loop_rounds 1 ?_
 rw [rounds_succ]
 go_wp2
 refine wp_loop_rounds 1 ?_
 rw [rounds_succ]
 go_wp2
 refine wp_loop_rounds 1 ?_
 rw [rounds_succ]
 go_wp2
 go_ret
 exact ⟨rfl,rfl⟩
set_option maxRecDepth 100000 in
set_option maxHeartbeats 2000000 in
theorem nil59 (w : World) : Calls zG 34 #[.slice none 0 0] w fun e w' => e = .returned (.bool true) ∧ w' = w := by
 go_enter Tryz.func34,Tryz.ntmps34
 go_wp2
 refine wp_loop_rounds 1 ?_
 rw [rounds_succ]
 go_wp2
 refine wp_loop_rounds 1 ?_
 rw [rounds_succ]
 go_wp2
 refine wp_loop_rounds 1 ?_
 rw [rounds_succ]
 go_wp2
 go_ret
 exact ⟨rfl,rfl⟩
set_option maxRecDepth 100000 in
set_option maxHeartbeats 2000000 in
theorem nil60 (w : World) : Calls zG 35 #[.slice none 0 0] w fun e w' => e = .returned (.bool true) ∧ w' = w := by
 go_enter Tryz.func35,Tryz.ntmps35
 go_wp2
 refine wp_loop_rounds 1 ?_
 rw [rounds_succ]
 go_wp2
 refine wp_loop_rounds 1 ?_
 rw [rounds_succ]
 go_wp2
 refine wp_loop_rounds 1 ?_
 rw [rounds_succ]
 go_wp2
 go_ret
 exact ⟨rfl,rfl⟩
set_option maxRecDepth 100000 in
set_option maxHeartbeats 2000000 in
theorem nil61 (w : World) : Calls zG 36 #[.slice none 0 0] w fun e w' => e = .returned (.bool true) ∧ w' = w := by
 go_enter Tryz.func36,Tryz.ntmps36
 go_wp2
 refine wp_loop_rounds 1 ?_
 rw [rounds_succ]
 go_wp2
 refine wp_loop_rounds 1 ?_
 rw [rounds_succ]
 go_wp2
 refine wp_loop_rounds 1 ?_
 rw [rounds_succ]
 go_wp2
 go_ret
 exact ⟨rfl,rfl⟩
set_option maxRecDepth 100000 in
set_option maxHeartbeats 2000000 in
theorem nil62 (w : World) : Calls zG 37 #[.slice none 0 0] w fun e w' => e = .returned (.bool true) ∧ w' = w := by
 go_enter Tryz.func37,Tryz.ntmps37
 go_wp2
 refine wp_loop_rounds 1 ?_
 rw [rounds_succ]
 go_wp2
 refine wp_loop_rounds 1 ?_
 rw [rounds_succ]
 go_wp2
 refine wp_loop_rounds 1 ?_
 rw [rounds_succ]
 go_wp2
 go_ret
 exact ⟨rfl,rfl⟩
set_option maxRecDepth 100000 in
set_option maxHeartbeats 2000000 in
theorem nil63 (w : World) : Calls zG 38 #[.slice none 0 0] w fun e w' => e = .returned (.bool true) ∧ w' = w := by
 go_enter Tryz.func38,Tryz.ntmps38
 go_wp2
 refine wp_loop_rounds 1 ?_
 rw [rounds_succ]
 go_wp2
 refine wp_loop_rounds 1 ?_
 rw [rounds_succ]
 go_wp2
 refine wp_loop_rounds 1 ?_
 rw [rounds_succ]
 go_wp2
 go_ret
 exact ⟨rfl,rfl⟩
set_option maxRecDepth 100000 in
set_option maxHeartbeats 2000000 in
theorem nil64 (w : World) : Calls zG 39 #[.slice none 0 0] w fun e w' => e = .returned (.bool true) ∧ w' = w := by
 go_enter Tryz.func39,Tryz.ntmps39
 go_wp2
 refine wp_loop_rounds 1 ?_
 rw [rounds_succ]
 go_wp2
 refine wp_loop_rounds 1 ?_
 rw [rounds_succ]
 go_wp2
 refine wp_loop_rounds 1 ?_
 rw [rounds_succ]
 go_wp2
 go_ret
 exact ⟨rfl,rfl⟩
set_option maxRecDepth 100000 in
set_option maxHeartbeats 2000000 in
theorem nil65 (w : World) : Calls zG 40 #[.slice none 0 0] w fun e w' => e = .returned (.bool true) ∧ w' = w := by
 go_enter Tryz.func40,Tryz.ntmps40
 go_wp2
 refine wp_loop_rounds 1 ?_
 rw [rounds_succ]
 go_wp2
 refine wp_loop_rounds 1 ?_
 rw [rounds_succ]
 go_wp2
 refine wp_loop_rounds 1 ?_
 rw [rounds_succ]
 go_wp2
 go_ret
 exact ⟨rfl,rfl⟩
set_option maxRecDepth 100000 in
set_option maxHeartbeats 2000000 in
theorem nil66 (w : World) : Calls zG 41 #[.slice none 0 0] w fun e w' => e = .returned (.bool true) ∧ w' = w := by
 go_enter Tryz.func41,Tryz.ntmps41
 go_wp2
 refine wp_loop_rounds 1 ?_
 rw [rounds_succ]
 go_wp2
 refine wp_loop_rounds 1 ?_
 rw [rounds_succ]
 go_wp2
 refine wp_loop_rounds 1 ?_
 rw [rounds_succ]
 go_wp2
 go_ret
 exact ⟨rfl,rfl⟩
set_option maxRecDepth 100000 in
set_option maxHeartbeats 2000000 in
theorem nil67 (w : World) : Calls zG 42 #[.slice none 0 0] w fun e w' => e = .returned (.bool true) ∧ w' = w := by
 go_enter Tryz.func42,Tryz.ntmps42
 go_wp2
 refine wp_loop_rounds 1 ?_
 rw [rounds_succ]
 go_wp2
 refine wp_loop_rounds 1 ?_
 rw [rounds_succ]
 go_wp2
 refine wp_loop_rounds 1 ?_
 rw [rounds_succ]
 go_wp2
 go_ret
 exact ⟨rfl,rfl⟩
set_option maxRecDepth 100000 in
set_option maxHeartbeats 2000000 in
theorem nil68 (w : World) : Calls zG 43 #[.slice none 0 0] w fun e w' => e = .returned (.bool true) ∧ w' = w := by
 go_enter Tryz.func43,Tryz.ntmps43
 go_wp2
 refine wp_loop_rounds 1 ?_
 rw [rounds_succ]
 go_wp2
 refine wp_loop_rounds 1 ?_
 rw [rounds_succ]
 go_wp2
 refine wp_loop_rounds 1 ?_
 rw [rounds_succ]
 go_wp2
 go_ret
 exact ⟨rfl,rfl⟩
set_option maxRecDepth 100000 in
set_option maxHeartbeats 2000000 in
theorem nil69 (w : World) : Calls zG 44 #[.slice none 0 0] w fun e w' => e = .returned (.bool true) ∧ w' = w := by
 go_enter Tryz.func44,Tryz.ntmps44
 go_wp2
 refine wp_loop_rounds 1 ?_
 rw [rounds_succ]
 go_wp2
 refine wp_loop_rounds 1 ?_
 rw [rounds_succ]
 go_wp2
 refine wp_loop_rounds 1 ?_
 rw [rounds_succ]
 go_wp2
 go_ret
 exact ⟨rfl,rfl⟩
set_option linter.unusedVariables false
set_option linter.unusedSimpArgs false
structure Lk (e le : TypeId) (s : Nat) (w : World) (lv : Value) (N : Nat) (V : Nat → Value) (n : Nat → Nat) (C : Nat → Nat → Value) : Prop where
 row : ∀ j,j < N → RowX w e s (V j) (n j) (C j)
 long : Row w le 1 lv N V
 dis : ∀ j j',j < N → j' < N → j ≠ j' → ∀ b,(V j).ownBlock = some b → (V j').ownBlock ≠ some b
section
variable {e le : TypeId} {s : Nat} {w v : World} {lv : Value} {N : Nat} {V : Nat → Value} {n : Nat → Nat} {C : Nat → Nat → Value} {F : Nat → Prop}
theorem Lk.hid (h : Lk e le s w lv N V n C) : Hid (Lk e le s w lv N V n C) := h
theorem Lk.mv (h : Lk e le s w lv N V n C) (m : Mv w v F) (hF : ∀ b,F b → ∃ cs t fz,w.heap[b]? = some (.cells cs t fz) ∧ t ≠ e ∧ t ≠ le) : Lk e le s v lv N V n C := by
 have keep : ∀ {e1 : TypeId} {s1 m1 : Nat} {x : Value} {f : Nat → Value},Row w e1 s1 x m1 f → (e1 = e ∨ e1 = le) → Row v e1 s1 x m1 f := by
  intro e1 s1 m1 x f hr he
  refine m.row hr (fun b hb hf => ?_)
  obtain ⟨cs,t,fz,h1,h2,h3⟩ := hF b hf
  obtain ⟨c',f',h4⟩ := hr.kind b hb
  rw [h1] at h4
  simp at h4
  rcases he with he | he
  ·exact h2 (h4.2.1.trans he)
  ·exact h3 (h4.2.1.trans he)
 have keepX : ∀ {e1 : TypeId} {s1 m1 : Nat} {x : Value} {f : Nat → Value},RowX w e1 s1 x m1 f → (e1 = e ∨ e1 = le) → RowX v e1 s1 x m1 f := by
  intro e1 s1 m1 x f hr he
  refine m.rowX hr (fun b hb hf => ?_)
  obtain ⟨cs,t,fz,h1,h2,h3⟩ := hF b hf
  obtain ⟨c',f',h4⟩ := hr.kind b hb
  rw [h1] at h4
  simp at h4
  rcases he with he | he
  ·exact h2 (h4.2.1.trans he)
  ·exact h3 (h4.2.1.trans he)
 exact ⟨fun j hj => keepX (h.row j hj) (.inl rfl),keep h.long (.inr rfl),h.dis⟩
theorem Lk.kd (h : Lk e le s w lv N V n C) {b : Nat} (hb : bks N V b) : ∃ cs fz,w.heap[b]? = some (.cells cs e fz) := by
 obtain ⟨j,hj,e1⟩ := hb
 exact (h.row j hj).kind b e1
theorem Lk.own {g c : Nat} (hel : e ≠ le) (h : Lk e le s w (.slice (some ⟨g,0,none⟩) N c) N V n C) : Aprt w g N V ∧ P1 e s w w g N V n C := by
 refine ⟨⟨h.dis,fun j hj hb => (h.row j hj).apart h.long hel g hb rfl,fun j hj b hb => (h.row j hj).lt b hb,h.long.lt g rfl⟩,⟨h.row,fun j hj => h.long.cell (by omega),Mv.refl _ _⟩⟩
theorem Lk.way (h : Lk e le s w lv N V n C) : lv = .slice none 0 0 ∨ ∃ g c,lv = .slice (some ⟨g,0,none⟩) N c := by
 rcases h.long.2 with ⟨h1,_⟩ | ⟨g,cap,cur,h1,_⟩
 ·exact .inl h1
 ·exact .inr ⟨g,cap,h1⟩
end
theorem lookN (w : World) (lv : Value) (N : Nat) (V : Nat → Value) (n : Nat → Nat) (C : Nat → Nat → Value) (hC : ∀ j k,j < N → k < n j → ∃ p,C j (k * 8 + 7) = zI p) (hN : N ≤ 3000000) (hn : ∀ j,j < N → n j ≤ 100000000) (h : Lk 64 62 8 w lv N V n C) :
  Calls zG 34 #[lv] w fun e w' => e = .returned (.bool true) ∧ Mv w w' (bks N V) := by
 rcases h.way with rfl | ⟨g,c,rfl⟩
 ·refine (nil59 w).mono ?_
  rintro e w' ⟨h1,rfl⟩
  exact ⟨h1,Mv.refl _ _⟩
 ·obtain ⟨ap,h1⟩ := h.own (by decide)
  exact ownTN_any w g N c V n C hC hN hn ap h1
def trN (lv : Value) : Array Value := #[.slice none 0 0,lv,.slice none 0 0,.slice none 0 0,.slice none 0 0,.slice none 0 0,.slice none 0 0,.slice none 0 0,.slice none 0 0,.slice none 0 0,.slice none 0 0,.slice none 0 0]
theorem blk_keep {w v : World} {F : Nat → Prop} (m : Mv w v F) {bk : Nat} {cs : Array Value} {t : TypeId} {fr : Nat × Nat} (h : w.heap[bk]? = some (.cells cs t fr)) (hF : ∀ b,F b → ∃ cs' t' fz,w.heap[b]? = some (.cells cs' t' fz) ∧ t' ≠ t) : v.heap[bk]? = some (.cells cs t fr) := by
 refine (m.block bk (Array.getElem?_eq_some_iff.1 h).1 (fun e => ?_)).trans h
 obtain ⟨cs',t',fz,h1,h2⟩ := hF bk e
 rw [h] at h1
 simp at h1
 exact h2 h1.2.1.symm
set_option maxRecDepth 100000 in
set_option maxHeartbeats 4000000 in
theorem treesOwn_any (w : World) (bk : Nat) (lv : Value) (N : Nat) (V : Nat → Value) (n : Nat → Nat) (C : Nat → Nat → Value) (hB : w.heap[bk]? = some (.cells (trN lv) 37 (0,0))) (hL : Lk 64 62 8 w lv N V n C) (hC : ∀ j k,j < N → k < n j → ∃ p,C j (k * 8 + 7) = zI p) (hN : N ≤ 3000000) (hn : ∀ j,j < N → n j ≤ 100000000) :
  Calls zG 15 #[zP bk] w fun e w' => e = .returned (.bool true) ∧ Mv w w' (bks N V) := by
 obtain ⟨a,p,el⟩ : ∃ a p,lv = .slice a N p := by
  obtain ⟨ao,c,e,_,_⟩ := hL.long.form
  exact ⟨ao,c,e⟩
 subst el
 have HL : Hid (Lk 64 62 8 w (.slice a N p) N V n C) := hL
 have HB : Hid (w.heap[bk]? = some (.cells (trN (.slice a N p)) 37 (0,0))) := hB
 have cN := lookN w (.slice a N p) N V n C hC hN hn hL
 have p0 : w.cell? ⟨bk,0,none⟩ = some (.slice none 0 0) := cell_of hB 0
 have p1 : w.cell? ⟨bk,1,none⟩ = some (.slice a N p) := cell_of hB 1
 have p2 : w.cell? ⟨bk,2,none⟩ = some (.slice none 0 0) := cell_of hB 2
 have p3 : w.cell? ⟨bk,3,none⟩ = some (.slice none 0 0) := cell_of hB 3
 have p4 : w.cell? ⟨bk,4,none⟩ = some (.slice none 0 0) := cell_of hB 4
 have p5 : w.cell? ⟨bk,5,none⟩ = some (.slice none 0 0) := cell_of hB 5
 have p6 : w.cell? ⟨bk,6,none⟩ = some (.slice none 0 0) := cell_of hB 6
 have p7 : w.cell? ⟨bk,7,none⟩ = some (.slice none 0 0) := cell_of hB 7
 have p8 : w.cell? ⟨bk,8,none⟩ = some (.slice none 0 0) := cell_of hB 8
 have p9 : w.cell? ⟨bk,9,none⟩ = some (.slice none 0 0) := cell_of hB 9
 have p10 : w.cell? ⟨bk,10,none⟩ = some (.slice none 0 0) := cell_of hB 10
 have p11 : w.cell? ⟨bk,11,none⟩ = some (.slice none 0 0) := cell_of hB 11
 clear hB hL hC hN hn
 go_enter Tryz.func15,Tryz.ntmps15
 go_wp2_with fail
 refine (nil58 _).mono ?_
 rintro _ v' ⟨rfl,e⟩
 obtain rfl := e.symm
 go_wp2_with fail
 refine cN.mono ?_
 rintro _ v1 ⟨rfl,m1⟩
 have M1 : Hid (Mv w v1 (bks N V)) := m1
 have HB1 : v1.heap[bk]? = some (.cells (trN (.slice a N p)) 37 (0,0)) := blk_keep m1 HB.out (fun b e => by obtain ⟨cs,fz,e1⟩ := (HL.out).kd e; exact ⟨cs,_,fz,e1,by decide⟩)
 clear p0 p1 p2 p3 p4 p5 p6 p7 p8 p9 p10 p11 cN m1
 have p0 : v1.cell? ⟨bk,0,none⟩ = some (.slice none 0 0) := cell_of HB1 0
 have p1 : v1.cell? ⟨bk,1,none⟩ = some (.slice a N p) := cell_of HB1 1
 have p2 : v1.cell? ⟨bk,2,none⟩ = some (.slice none 0 0) := cell_of HB1 2
 have p3 : v1.cell? ⟨bk,3,none⟩ = some (.slice none 0 0) := cell_of HB1 3
 have p4 : v1.cell? ⟨bk,4,none⟩ = some (.slice none 0 0) := cell_of HB1 4
 have p5 : v1.cell? ⟨bk,5,none⟩ = some (.slice none 0 0) := cell_of HB1 5
 have p6 : v1.cell? ⟨bk,6,none⟩ = some (.slice none 0 0) := cell_of HB1 6
 have p7 : v1.cell? ⟨bk,7,none⟩ = some (.slice none 0 0) := cell_of HB1 7
 have p8 : v1.cell? ⟨bk,8,none⟩ = some (.slice none 0 0) := cell_of HB1 8
 have p9 : v1.cell? ⟨bk,9,none⟩ = some (.slice none 0 0) := cell_of HB1 9
 have p10 : v1.cell? ⟨bk,10,none⟩ = some (.slice none 0 0) := cell_of HB1 10
 have p11 : v1.cell? ⟨bk,11,none⟩ = some (.slice none 0 0) := cell_of HB1 11
 clear HB1
 go_wp2_with fail
 refine (nil60 _).mono ?_
 rintro _ v' ⟨rfl,e⟩
 obtain rfl := e.symm
 go_wp2_with fail
 refine (nil61 _).mono ?_
 rintro _ v' ⟨rfl,e⟩
 obtain rfl := e.symm
 go_wp2_with fail
 refine (nil62 _).mono ?_
 rintro _ v' ⟨rfl,e⟩
 obtain rfl := e.symm
 go_wp2_with fail
 refine (nil63 _).mono ?_
 rintro _ v' ⟨rfl,e⟩
 obtain rfl := e.symm
 go_wp2_with fail
 refine (nil64 _).mono ?_
 rintro _ v' ⟨rfl,e⟩
 obtain rfl := e.symm
 go_wp2_with fail
 refine (nil65 _).mono ?_
 rintro _ v' ⟨rfl,e⟩
 obtain rfl := e.symm
 go_wp2_with fail
 refine (nil66 _).mono ?_
 rintro _ v' ⟨rfl,e⟩
 obtain rfl := e.symm
 go_wp2_with fail
 refine (nil67 _).mono ?_
 rintro _ v' ⟨rfl,e⟩
 obtain rfl := e.symm
 go_wp2_with fail
 refine (nil68 _).mono ?_
 rintro _ v' ⟨rfl,e⟩
 obtain rfl := e.symm
 go_wp2_with fail
 refine (nil69 _).mono ?_
 rintro _ v' ⟨rfl,e⟩
 obtain rfl := e.symm
 go_wp2
 go_ret
 exact ⟨rfl,M1.out⟩
theorem oneAt (x : Value) : ∀ j,j < 1 → [x][j]? = some ((fun _ => x) j) := by
 intro j hj
 obtain rfl : j = 0 := by omega
 rfl
def LE (e le : TypeId) (s : Nat) (ok : (Nat → Value) → Nat → Prop) (A : Nat → Prop) (w : World) (lv : Value) (N : Nat) : Prop :=
 ∃ V n C,Lk e le s w lv N V n C ∧ (∀ j,j < N → ok (C j) (n j) ∧ n j ≤ 100000000) ∧ ∀ b,bks N V b → A b
section
variable {e le : TypeId} {s : Nat} {ok : (Nat → Value) → Nat → Prop} {A A' F : Nat → Prop} {w v v' : World} {lv : Value} {N : Nat}
theorem LE.keep (h : LE e le s ok A v lv N) (m : Mv v v' F) (hF : ∀ b,F b → ¬ A b ∧ lv.ownBlock ≠ some b) (hA : ∀ b,A b → A' b) : LE e le s ok A' v' lv N := by
 obtain ⟨V,n,C,h1,h2,h3⟩ := h
 exact ⟨V,n,C,⟨fun j hj => m.rowX (h1.row j hj) (fun b hb hf => (hF b hf).1 (h3 b ⟨j,hj,hb⟩)),m.row h1.long (fun b hb hf => (hF b hf).2 hb),h1.dis⟩,h2,fun b hb => hA b (h3 b hb)⟩
theorem LE.more {V : Nat → Value} {n : Nat → Nat} {C : Nat → Nat → Value} {X lv' : Value} {mx : Nat} {f : Nat → Value} (h1 : Lk e le s v lv N V n C) (h2 : ∀ j,j < N → ok (C j) (n j) ∧ n j ≤ 100000000) (h3 : ∀ b,bks N V b → A b) (m : Mv v v' F) (hF : ∀ b,F b → ¬ A b)
  (hX : RowX v' e s X mx f) (hok : ok f mx) (hmx : mx ≤ 100000000) (hXA : ∀ b,X.ownBlock = some b → ¬ A b) (hl : Row v' le 1 lv' (N + 1) (fun j => if j = N then X else V j)) : LE e le s ok (fun b => A b ∨ X.ownBlock = some b) v' lv' (N + 1) := by
 refine ⟨fun j => if j = N then X else V j,fun j => if j = N then mx else n j,fun j => if j = N then f else C j,⟨fun j hj => ?_,hl,fun j j' hj hj' hne b => ?_⟩,fun j hj => ?_,fun b hb => ?_⟩
 ·by_cases e1 : j = N
  ·simp only [e1,if_true]; exact hX
  ·simp only [e1,if_false]
   exact m.rowX (h1.row j (by omega)) (fun b hb hf => hF b hf (h3 b ⟨j,by omega,hb⟩))
 ·by_cases e1 : j = N
  ·have e2 : ¬ j' = N := by omega
   simp only [e1,e2,if_true,if_false]
   exact fun hb hb' => hXA b hb (h3 b ⟨j',by omega,hb'⟩)
  ·by_cases e2 : j' = N
   ·simp only [e1,e2,if_true,if_false]
    exact fun hb hb' => hXA b hb' (h3 b ⟨j,by omega,hb⟩)
   ·simp only [e1,e2,if_false]
    exact h1.dis j j' (by omega) (by omega) hne b
 ·by_cases e1 : j = N
  ·simp only [e1,if_true]; exact ⟨hok,hmx⟩
  ·simp only [e1,if_false]; exact h2 j (by omega)
 ·obtain ⟨j,hj,hb⟩ := hb
  by_cases e1 : j = N
  ·simp only [e1,if_true] at hb; exact .inr hb
  ·simp only [e1,if_false] at hb; exact .inl (h3 b ⟨j,by omega,hb⟩)
theorem LE.lt (h : LE e le s ok A v lv N) : ∀ b,lv.ownBlock = some b → ∃ c fz,v.heap[b]? = some (.cells c le fz) := by
 obtain ⟨V,n,C,h1,_⟩ := h
 exact h1.long.kind
theorem LE.form (h : LE e le s ok A v lv N) : ∃ ao c,lv = .slice ao N c := by
 obtain ⟨V,n,C,h1,_⟩ := h
 obtain ⟨ao,c,e1,_⟩ := h1.long.form
 exact ⟨ao,c,e1⟩
theorem step_lk {V : Nat → Value} {X : Value} {o : Oper} {ops : Array Oper} {a : Act} {K : Act → World → Prop} {Q : Exit → Act → World → Prop} {E : Prop} (hL : Row v le 1 lv N V) (hX1 : X.oneCell' = true) (ll : TypeId) (ht : Tryz.prog.underlying ll = some (.slice le))
  (hi : (Tryz.prog.info? le).map (fun i => (i.zero,i.size,i.bytes)) = some (some (.slice none 0 0),1,24)) (hN : N ≤ 3000000) (hgd : o.guard = none) (d x : Operand)
  (ho : o.op = .call { callee := .builtin .append,args := #[d,x],argTypes := #[ll,ll] }) (hs : a.eval d = lv) (hx : a.eval x = .slice (some ⟨v§,0,none⟩) 1 1)
  (h : ∀ g cap w',Row w' le 1 (.slice (some ⟨g,0,none⟩) (N + 1) cap) (N + 1) (fun j => if j = N then X else V j) → (v.alloc (.cells #[X] le)).grownBy w' lv.ownBlock → (lv.ownBlock = some g ∨ g = v§ + 1) → K (a.put o.dst (.slice (some ⟨g,0,none⟩) (N + 1) cap)) w') :
  if Region.wanted o (yielded ops a.tmps) = true then Oper.wp Tryz.prog o a (v.alloc (.cells #[X] le)) K Q else E := by
 obtain ⟨i0,hi0,hz0,hz1,hz2⟩ := info_parts hi
 have hA := hL.alloc (.cells #[X] le)
 refine step_append_lies _ hgd d x ll ho 0 le i0 _ 1 24 ht hi0 hz0 hz1 hz2 rfl (by decide) lv N _ hs hA ⟨v§,0,none⟩ 1 1 [X] hx rfl (World.news_of_block (heap_new v _)) (fun u hu => by simp at hu; rw [hu]; exact hX1) (by decide) (by unfold maxLen; omega) (by omega) (Nat.zero_le _) _ rfl ?_
 intro g cap w' h2 h3 h4 _
 refine h g cap w' ?_ h3 (h4.imp id (fun e => by rw [e,size_alloc]))
 have hr := Row.snoc (x := fun _ => X) h2 rfl (oneAt X)
 refine hr.congr fun j hj => ?_
 by_cases e : j < N * 1
 ·rw [if_pos e,if_neg (show ¬ j = N by omega)]
 ·rw [if_neg e,if_pos (show j = N by omega)]
end
def oqN (f : Nat → Value) (m : Nat) : Prop := ∀ k,k < m → ∃ p,f (k * 8 + 7) = zI p
structure TBn (w0 w1 : World) (bk : Nat) (U A : Nat → Prop) (NI : Nat) (v : World) (lI : Value) : Prop where
 B : v.heap[bk]? = some (.cells (trN lI) 37 (0,0))
 I : LE 64 62 8 oqN A v lI NI
 sub : ∀ b,A b → U b
 out : ∀ b,U b → b ≠ bk ∧ lI.ownBlock ≠ some b
 old : ∀ b,U b → b < w1§
 same : ∀ b,U b → v.heap[b]? = w1.heap[b]?
 sz : w1§ ≤ v§
 new : w0§ ≤ bk ∧ (∀ b,lI.ownBlock = some b → w0§ ≤ b)
 B0 : Below w0§ w0 v
section
variable {w0 w1 v : World} {bk : Nat} {U A : Nat → Prop} {NI : Nat} {lI : Value}
theorem TBn.hid (h : TBn w0 w1 bk U A NI v lI) : Hid (TBn w0 w1 bk U A NI v lI) := h
theorem TBn.add (h : TBn w0 w1 bk U A NI v lI) {V : Nat → Value} {n : Nat → Nat} {C : Nat → Nat → Value} (h1 : Lk 64 62 8 v lI NI V n C) (h2 : ∀ j,j < NI → oqN (C j) (n j) ∧ n j ≤ 100000000) (h3 : ∀ b,bks NI V b → A b) {X : Value} {mx : Nat} {f : Nat → Value} (hX : RowX w1 64 8 X mx f) (hok : oqN f mx) (hmx : mx ≤ 100000000) (hXU : ∀ b,X.ownBlock = some b → U b ∧ ¬ A b)
  {g cap : Nat} {w' : World} (hr : Row w' 62 1 (.slice (some ⟨g,0,none⟩) (NI + 1) cap) (NI + 1) (fun j => if j = NI then X else V j)) (hg : (v.alloc (.cells #[X] 62)).grownBy w' lI.ownBlock) (hq : lI.ownBlock = some g ∨ g = v§ + 1) {lv' : Value} (hlv : lv' = .slice (some ⟨g,0,none⟩) (NI + 1) cap) :
  w'.heap[bk]? = some (.cells (trN lI) 37 (0,0)) ∧ (∀ b,U b → w'.heap[b]? = w1.heap[b]?) ∧ TBn w0 w1 bk U (fun b => A b ∨ X.ownBlock = some b) (NI + 1) (w'.setCell ⟨bk,1,none⟩ lv') lv' := by
 have hbk := (Array.getElem?_eq_some_iff.1 h.B).1
 have kd : ∀ b,lI.ownBlock = some b → b ≠ bk := fun b hb e1 => by
  obtain ⟨c,fz,hk⟩ := h1.long.kind b hb
  rw [e1,h.B] at hk
  simp at hk
 have m0 : Mv v w' (fun b => lI.ownBlock = some b) := ((Mv.refl v _).alloc _).grown hg (fun b e1 => .inl e1)
 have hB : w'.heap[bk]? = some (.cells (trN lI) 37 (0,0)) := (m0.block bk hbk (fun e1 => kd bk e1 rfl)).trans h.B
 have hsm : ∀ b,U b → w'.heap[b]? = w1.heap[b]? := fun b hb => (m0.block b (Nat.lt_of_lt_of_le (h.old b hb) h.sz) (h.out b hb).2).trans (h.same b hb)
 have m1 : Mv v (w'.setCell ⟨bk,1,none⟩ lv') (fun b => b = bk ∨ lI.ownBlock = some b) := (m0.mono (fun b hb => .inr hb)).setCell (.inl (.inl rfl)) _
 have hF : ∀ b,(b = bk ∨ lI.ownBlock = some b) → ¬ A b := fun b hb ha => hb.elim (h.out b (h.sub b ha)).1 (h.out b (h.sub b ha)).2
 have sset : ∀ b,b ≠ bk → (w'.setCell ⟨bk,1,none⟩ lv').heap[b]? = w'.heap[b]? := fun b hb => Below.heap_setCell _ _ _ _ hb
 have hsU : ∀ b,U b → (w'.setCell ⟨bk,1,none⟩ lv').heap[b]? = w1.heap[b]? := fun b hb => (sset b (h.out b hb).1).trans (hsm b hb)
 have hkB : ∀ {e1 : TypeId} {s1 m1 : Nat} {x : Value} {f1 : Nat → Value},Row w' e1 s1 x m1 f1 → e1 ≠ 37 → x.ownBlock ≠ some bk := fun hx he e2 => by
  obtain ⟨c,fz,hk⟩ := hx.kind bk e2
  rw [hB] at hk
  simp at hk
  exact he hk.2.1.symm
 have hlo : ∀ b,lv'.ownBlock = some b → lI.ownBlock = some b ∨ b = v§ + 1 := fun b hb => by
  rw [hlv] at hb
  have eg : g = b := by simpa [Value.ownBlock] using hb
  rw [← eg]; exact hq
 have hzz := m1.size
 refine ⟨hB,hsm,⟨?_,?_,fun b hb => hb.elim (h.sub b) (fun e1 => (hXU b e1).1),fun b hb => ?_,h.old,hsU,Nat.le_trans h.sz hzz,?_,?_⟩⟩
 ·rw [hlv]; exact heap_set _ hB
 ·have hlr : Row (w'.setCell ⟨bk,1,none⟩ lv') 62 1 lv' (NI + 1) (fun j => if j = NI then X else V j) := by
   have hr' : Row w' 62 1 lv' (NI + 1) (fun j => if j = NI then X else V j) := by rw [hlv]; exact hr
   exact hr'.of_block (fun b hb => sset b (fun e1 => hkB hr' (by decide) (by rw [hb,e1])))
  exact LE.more h1 h2 h3 m1 hF (hX.of_block (fun b hb => hsU b (hXU b hb).1)) hok hmx (fun b hb => (hXU b hb).2) hlr
 ·obtain ⟨o0,o1⟩ := h.out b hb
  refine ⟨o0,?_⟩
  intro e1
  have hbl := Nat.lt_of_lt_of_le (h.old b hb) h.sz
  rcases hlo b e1 with e2 | e2
  ·exact o1 e2
  ·omega
 ·obtain ⟨n0,n1⟩ := h.new
  refine ⟨n0,?_⟩
  intro b e1
  have hbl := h.B0.size
  rcases hlo b e1 with e2 | e2
  ·exact n1 b e2
  ·omega
 ·exact h.B0.trans (m1.below h.B0.size (fun b hb => hb.elim (fun e1 => by rw [e1]; exact h.new.1) (h.new.2 b)))
theorem TBn.own (h : TBn w0 w1 bk U A NI v lI) (hm : NI ≤ 3000000) : Calls zG 15 #[zP bk] v fun e w' => e = .returned (.bool true) ∧ Mv v w' A := by
 obtain ⟨VI,nI,CI,i1,i2,i3⟩ := h.I
 refine (treesOwn_any v bk lI NI VI nI CI h.B i1 (fun j k hj hk => (i2 j hj).1 k hk) hm (fun j hj => (i2 j hj).2)).mono ?_
 rintro e w' ⟨h1,h2⟩
 exact ⟨h1,h2.mono (fun b hb => i3 b hb)⟩
end
theorem Mv.ofBelowF {w w' : World} {F : Nat → Prop} (h : Below w§ w w') : Mv w w' F := ⟨h.os,h.tape,h.output,h.size,fun k hk _ => h.block k hk⟩
section
variable {w0 w1 v v' : World} {bk : Nat} {U A A' : Nat → Prop} {NI : Nat} {lI : Value}
theorem TBn.below (h : TBn w0 w1 bk U A NI v lI) (k : Below v§ v v') : TBn w0 w1 bk U A NI v' lI := by
 have m : Mv v v' (fun _ => False) := Mv.ofBelowF k
 exact ⟨(k.block bk (Array.getElem?_eq_some_iff.1 h.B).1).trans h.B,h.I.keep m (fun _ e => e.elim) (fun _ e => e),h.sub,h.out,h.old,fun b hb => (k.block b (Nat.lt_of_lt_of_le (h.old b hb) h.sz)).trans (h.same b hb),Nat.le_trans h.sz k.size,h.new,h.B0.trans (k.mono h.B0.size)⟩
theorem LE.mono {e le : TypeId} {s : Nat} {ok : (Nat → Value) → Nat → Prop} {lv : Value} {N : Nat} (h : LE e le s ok A v lv N) (hA : ∀ b,A b → A' b) : LE e le s ok A' v lv N := by
 obtain ⟨V,n,C,h1,h2,h3⟩ := h
 exact ⟨V,n,C,h1,h2,fun b hb => hA b (h3 b hb)⟩
theorem TBn.mono (h : TBn w0 w1 bk U A NI v lI) (h1 : ∀ b,A b → A' b) (h2 : ∀ b,A' b → U b) : TBn w0 w1 bk U A' NI v lI :=
 ⟨h.B,h.I.mono h1,h2,h.out,h.old,h.same,h.sz,h.new,h.B0⟩
theorem TBn.box (h : TBn w0 w1 bk U A NI v lI) (o : Obj) : TBn w0 (v.alloc o) bk (fun b => U b ∨ b = v§) A NI (v.alloc o) lI := by
 have h' := h.below (below_new v o)
 have hbk := (Array.getElem?_eq_some_iff.1 h.B).1
 refine ⟨h'.B,h'.I,fun b hb => .inl (h.sub b hb),fun b hb => ?_,fun b hb => ?_,fun b _ => rfl,Nat.le_refl _,h.new,h'.B0⟩
 ·rcases hb with hb | hb
  ·exact h.out b hb
  ·refine ⟨by omega,fun e => ?_⟩
   obtain ⟨c,fz,hk⟩ := h.I.lt b e
   have := (Array.getElem?_eq_some_iff.1 hk).1
   omega
 ·rw [size_alloc]
  rcases hb with hb | hb
  ·have := h.old b hb; have := h.sz; omega
  ·omega
theorem TBn.unbox {v2 : World} {lI2 : Value} {N2 : Nat} {o : Obj} (h : TBn w0 w1 bk U A NI v lI) (k : TBn w0 (v.alloc o) bk (fun b => U b ∨ b = v§) A' N2 v2 lI2) (hA : ∀ b,A' b → U b) : TBn w0 w1 bk U A' N2 v2 lI2 := by
 refine ⟨k.B,k.I,hA,fun b hb => k.out b (.inl hb),h.old,fun b hb => ?_,?_,k.new,k.B0⟩
 ·have hb1 := h.old b hb
  have hb2 := h.sz
  exact (k.same b (.inl hb)).trans ((Below.heap_alloc _ _ _ (by omega)).trans (h.same b hb))
 ·have h1 := k.sz
  rw [size_alloc] at h1
  have := h.sz
  omega
end
inductive NO (w : World) : Nd → Prop
 | mk (h : Hd) (a : Option Addr) (c : Nat) (ks : List Nd) (hr : ∃ f,RowX w 64 8 (.slice a ks.length c) ks.length f ∧ oqN f ks.length) (hs : ∀ k ∈ ks,NO w k) : NO w (.mk h a c ks)
theorem own_sl {a : Option Addr} {n c b : Nat} (h : (Value.slice a n c).ownBlock = some b) : ∃ x,a = some x ∧ x.block = b := by
 cases a with
 | none => simp [Value.ownBlock] at h
 | some x => exact ⟨x,rfl,by simpa [Value.ownBlock] using h⟩
theorem NO.blk {w w' : World} {P : Nat → Prop} (k : ∀ b,P b → w'.heap[b]? = w.heap[b]?) : ∀ {m : Nd},NO w m → Bk P m → NO w' m := by
 intro m hm
 induction hm with
 | mk h a c ks hr hs ih =>
  intro hB
  cases hB with
  | mk _ _ _ _ hb hs' =>
   obtain ⟨f,h1,h2⟩ := hr
   refine .mk h a c ks ⟨f,h1.of_block (fun b e => ?_),h2⟩ (fun x hx => ih x hx (hs' x hx))
   obtain ⟨x,e1,e2⟩ := own_sl e
   rw [← e2]
   exact k _ (hb x e1)
theorem OwnT.no {w : World} {m : Nd} (h : OwnT w m) : NO w m := by
 induction h with
 | mk h a c ks hr _ ih =>
  refine .mk h a c ks ⟨_,.inl hr,fun k hk => ⟨(ldF ks k).h.p,?_⟩⟩ ih
  rw [ndF_at _ _ _ (by omega)]
  rfl
theorem cutZ27 {P : Program} {c : Code} {Q : Exit → Act → World → Prop} {a : Act} {w : World} (A : Value → Value → Value → Value → Value → Value → Value → Value → Value → Value → Value → Value → Value → Value → Value → Value → Value → Value → Value → Value → Value → Value → Value → Value → Value → Value → Value → Act) (I : World → Prop) (f : Hid (∀ (y2 y4 y5 y6 y7 y8 y9 y10 y11 y12 y13 y14 y15 y16 y17 y18 y19 y20 y21 y22 y23 y24 y25 y26 y27 y28 y29 : Value) (w' : World),I w' → Q .normal (A y2 y4 y5 y6 y7 y8 y9 y10 y11 y12 y13 y14 y15 y16 y17 y18 y19 y20 y21 y22 y23 y24 y25 y26 y27 y28 y29) w') → c.wp P Q a w) (h : ∀ (y2 y4 y5 y6 y7 y8 y9 y10 y11 y12 y13 y14 y15 y16 y17 y18 y19 y20 y21 y22 y23 y24 y25 y26 y27 y28 y29 : Value) (w' : World),I w' → Q .normal (A y2 y4 y5 y6 y7 y8 y9 y10 y11 y12 y13 y14 y15 y16 y17 y18 y19 y20 y21 y22 y23 y24 y25 y26 y27 y28 y29) w') : c.wp P Q a w := f h
theorem sizes_take {ks : List Nd} {i : Nat} (hi : i < ks.length) : sizes (ks.take (i + 1)) = sizes (ks.take i) + size ks[i] := by
 induction ks generalizing i with
 | nil => simp at hi
 | cons k ks ih =>
  cases i with
  | zero => simp [sizes]
  | succ i => simp only [List.take_succ_cons,sizes,List.getElem_cons_succ]; rw [ih (by simpa using hi)]; omega
theorem sizes_take_le (ks : List Nd) (i : Nat) : sizes (ks.take i) ≤ sizes ks := by
 induction ks generalizing i with
 | nil => simp [sizes]
 | cons k ks ih =>
  cases i with
  | zero => simp [sizes]
  | succ i => simp only [List.take_succ_cons,sizes]; have := ih i; omega
def Booked (w0 w1 : World) (bk : Nat) (U A P : Nat → Prop) (N : Nat) (e : Ending) (v' : World) : Prop := (∃ r,e = .returned r) ∧ ∃ lv' A',TBn w0 w1 bk U A' N v' lv' ∧ ∀ b,A' b → A b ∨ P b
set_option maxRecDepth 100000 in
set_option maxHeartbeats 8000000 in
theorem node_any : ∀ (m : Nd) (w0 w1 : World) (bk : Nat) (U A P : Nat → Prop) (N : Nat) (v : World) (lv : Value),TBn w0 w1 bk U A N v lv → NO w1 m → Lies w1 m → SpN m P → (∀ b,P b → U b ∧ ¬ A b) → N + size m ≤ 3000000 →
  Calls zG 19 #[zP bk,.agg m.vals] v (Booked w0 w1 bk U A P (N + size m)) := by
 refine Nd.ind fun h a c ks ih w0 w1 bk U A P N v lv hT0 hno hli hsp hP hz => ?_
 have hB1 := hT0.box (.cells (Nd.mk h a c ks).vals 64)
 have hkW : ∀ b,U b → (v.alloc (.cells (Nd.mk h a c ks).vals 64)).heap[b]? = w1.heap[b]? := fun b hb => (Below.heap_alloc _ _ _ (by have h1 := hT0.old b hb; have h2 := hT0.sz; omega)).trans (hT0.same b hb)
 have hbk : Bk U (.mk h a c ks) := hsp.bk.mono fun b hb => (hP b hb).1
 have hno1 := hno.blk hkW hbk
 have hli1 : Lies (v.alloc (.cells (Nd.mk h a c ks).vals 64)) (.mk h a c ks) := hli.bk (P := U) (fun b _ hb => hkW b hb) hbk
 have hn3 : (v.alloc (.cells (Nd.mk h a c ks).vals 64)).heap[v§]? = some (.cells (Nd.mk h a c ks).vals 64 (0,0)) := heap_new _ _
 have HT0 := hT0.hid
 have HUB : Hid (∀ v2 lv2 A' N',TBn w0 (v.alloc (.cells (Nd.mk h a c ks).vals 64)) bk (fun b => U b ∨ b = v§) A' N' v2 lv2 → (∀ b,A' b → U b) → TBn w0 w1 bk U A' N' v2 lv2) := fun v2 lv2 A' N' k hA => hT0.unbox k hA
 obtain ⟨W1,E1⟩ : ∃ W,v.alloc (.cells (Nd.mk h a c ks).vals 64) = W := ⟨_,rfl⟩
 rw [E1] at hB1 hno1 hli1 hn3 HUB
 have hlen : ks.length + 1 ≤ size (.mk h a c ks) := by have := len_sizes ks; simp only [size]; omega
 have HSZ : Hid (N + (1 + sizes ks) ≤ 3000000) := by show _ ≤ _; simpa only [size] using hz
 have HNB : Hid (N ≤ 3000000 ∧ ks.length ≤ 3000000) := ⟨by omega,by omega⟩
 have HIH : Hid (∀ k ∈ ks,∀ (w0 w1 : World) (bk : Nat) (U A P : Nat → Prop) (N : Nat) (v : World) (lv : Value),TBn w0 w1 bk U A N v lv → NO w1 k → Lies w1 k → SpN k P → (∀ b,P b → U b ∧ ¬ A b) → N + size k ≤ 3000000 → Calls zG 19 #[zP bk,.agg k.vals] v (Booked w0 w1 bk U A P (N + size k))) := ih
 cases hno1 with
 | mk _ _ _ _ hr hs =>
 obtain ⟨fR,r1,r2⟩ := hr
 cases hsp with
 | mk _ _ _ _ _ Qs sa ss sd sq =>
 have HR : Hid (RowX W1 64 8 (.slice a ks.length c) ks.length fR ∧ oqN fR ks.length ∧ ks.length ≤ 100000000) := ⟨r1,r2,by omega⟩
 have uR : Hid (∀ b,(Value.slice a ks.length c).ownBlock = some b → (U b ∨ b = v§) ∧ ¬ A b) := fun b hb => by
  obtain ⟨x,e1,e2⟩ := own_sl hb
  have h1 := hP b (by rw [← e2]; exact (sa x e1).1)
  exact ⟨.inl h1.1,h1.2⟩
 have HPa : Hid (∀ b,(Value.slice a ks.length c).ownBlock = some b → P b) := fun b hb => by
  obtain ⟨x,e1,e2⟩ := own_sl hb
  rw [← e2]; exact (sa x e1).1
 have HNQ : Hid (∀ i b,(Value.slice a ks.length c).ownBlock = some b → ¬ Qs i b) := fun i b hb => by
  obtain ⟨x,e1,e2⟩ := own_sl hb
  rw [← e2]; exact (sa x e1).2.2.2 i
 have HNO : Hid (∀ k ∈ ks,NO W1 k) := hs
 have HLI : Hid (Lies W1 (.mk h a c ks)) := hli1
 have HSS : Hid (∀ i (hi : i < ks.length),SpN ks[i] (Qs i)) := ss
 have HSD : Hid (∀ i j b,Qs i b → Qs j b → i = j) := sd
 have HSQ : Hid (∀ i b,Qs i b → P b) := sq
 have HP : Hid (∀ b,P b → U b ∧ ¬ A b) := hP
 have HAU : Hid (∀ b,A b → U b) := hT0.sub
 have HN3 : Hid (W1.heap[v§]? = some (.cells #[zU h.k,zU h.o,zU h.t,zI h.n,zU h.f,.string h.x,.slice a ks.length c,zI h.p] 64 (0,0))) := hn3
 have HFA : Hid (∀ v' : World,(∀ b,(U b ∨ b = v§) → v'.heap[b]? = W1.heap[b]?) → v'.cell? ⟨v§,6,none⟩ = some (.slice a ks.length c)) := fun v' hv => cell_of ((hv v§ (.inr rfl)).trans hn3) 6
 have HINV : Hid (∃ lv,TBn w0 W1 bk (fun b => U b ∨ b = v§) A N W1 lv) := ⟨_,hB1⟩
 have HE1 : Hid (v.alloc (.cells #[zU h.k,zU h.o,zU h.t,zI h.n,zU h.f,.string h.x,.slice a ks.length c,zI h.p] 64) = W1) := E1
 obtain ⟨hN3,hK3⟩ := HNB.out
 clear hT0 hno hli r1 r2 hs hli1 hn3 E1 hB1 hkW hbk hP hz hlen ih sa ss sd sq
 show Calls zG 19 #[zP bk,.agg #[zU h.k,zU h.o,zU h.t,zI h.n,zU h.f,.string h.x,.slice a ks.length c,zI h.p]] v _
 go_enter Tryz.func19,Tryz.ntmps19
 go_upto_region 1 with fail
 rw [HE1.out]
 refine cutZ27 (fun y2 y4 y5 y6 y7 y8 y9 y10 y11 y12 y13 y14 y15 y16 y17 y18 y19 y20 y21 y22 y23 y24 y25 y26 y27 y28 y29 => ⟨#[zP bk,.agg #[zU h.k,zU h.o,zU h.t,zI h.n,zU h.f,.string h.x,.slice a ks.length c,zI h.p],y2,zP v§,y4,y5,y6,y7,y8,y9,y10,y11,y12,y13,y14,y15,y16,y17,y18,y19,y20,y21,y22,y23,y24,y25,y26,y27,y28,y29],[]⟩) (fun w' => ∃ lv,TBn w0 W1 bk (fun b => U b ∨ b = v§) (fun b => A b ∨ (Value.slice a ks.length c).ownBlock = some b) (N + 1) w' lv) (fun HC => ?_) ?_
 ·obtain ⟨lI,hT⟩ := HINV.out
  clear HINV
  have hT1 := hT.below (v' := World.drew W1) ⟨rfl,rfl,rfl,Nat.le_refl _,fun _ _ => rfl⟩
  refine wp_region_held_drew (S := fun v' => ∀ b,(U b ∨ b = v§) → v'.heap[b]? = W1.heap[b]?) zK hT1.same (fun hHeld => ?_)
  obtain ⟨V1,eV1⟩ : ∃ V1,V1 = World.drew W1 := ⟨_,rfl⟩
  rw [← eV1] at hT1 hHeld ⊢
  clear eV1 hT
  obtain ⟨ao,cc,elv⟩ := hT1.I.form
  subst elv
  obtain ⟨Vv,nn,CC,k1,k2,k3⟩ := hT1.I
  have HT := hT1.hid
  have HK1 : Hid (Lk 64 62 8 V1 _ _ Vv nn CC) := k1
  have HK2 : Hid (∀ j,j < N → oqN (CC j) (nn j) ∧ nn j ≤ 100000000) := k2
  have HK3 : Hid (∀ b,bks N Vv b → A b) := k3
  have p0 : V1.cell? ⟨bk,1,none⟩ = some (.slice ao N cc) := cell_of hT1.B 1
  have p1 : (V1.alloc (.cells #[.slice a ks.length c] 62)).cell? ⟨bk,1,none⟩ = some (.slice ao N cc) := cell_of ((hT1.below (below_new V1 _)).B) 1
  have HS1 : Hid (∀ b,(U b ∨ b = v§) → (V1.alloc (.cells #[.slice a ks.length c] 62)).heap[b]? = W1.heap[b]?) := (hT1.below (below_new V1 _)).same
  clear hT1 k1 k2 k3
  refine wpAnyH_take (i := 0) (v := ?_) rfl zK zK zK (fun _ _ _ h => h) (Or.inl ⟨by rfl,?_⟩) (by assumption) ?_
  rotate_left
  ·(intro v hv; go_simp; try (with_reducible rfl))
  try simp [Act.put]
  refine wpAnyH_take (i := 1) (v := ?_) rfl zK zK zK (fun _ _ _ h => h) (Or.inl ⟨by rfl,?_⟩) (by assumption) ?_
  rotate_left
  ·(intro v hv; go_simp; try (with_reducible rfl))
  try simp [Act.put]
  refine wpAnyH_take (i := 2) (v := ?_) rfl zK zK zK (fun _ _ _ h => h) (Or.inl ⟨by rfl,?_⟩) (by assumption) ?_
  rotate_left
  ·(intro v hv; go_simp; try (with_reducible rfl))
  try simp [Act.put]
  refine wpAnyH_take (i := 3) (v := ?_) rfl zK zK zK (fun _ _ _ h => h) (Or.inl ⟨by rfl,?_⟩) (by assumption) ?_
  rotate_left
  ·(intro v hv; go_simp; try (with_reducible rfl))
  try simp [Act.put]
  refine wpAnyH_take (i := 5) (v := ?_) rfl zK zK zK (fun _ _ _ h => h) (Or.inl ⟨by rfl,?_⟩) (by assumption) ?_
  rotate_left
  ·(intro v hv; go_simp; try (with_reducible rfl))
  try simp [Act.put]
  refine wpAnyH_take (i := 6) (v := ?_) rfl zK zK zK (fun _ _ _ h => h) (Or.inl ⟨by rfl,?_⟩) (by assumption) ?_
  rotate_left
  ·(intro v hv; have a6 := HFA.out v hv; go_simp; try (with_reducible rfl))
  try simp [Act.put]
  refine wpAnyH_ready (rs := [4,7]) zK (by simp) ?_
  refine AllReadyH.cons rfl (fun K hK => ?_) (AllReadyH.cons rfl (fun K hK => ?_) AllReadyH.nil)
  ·go_simp
   refine hK.out _ _ hHeld (fun hHeld => ?_)
   clear hK K
   try simp [Act.put]
   refine wpAnyH_ready (rs := [7]) zK (by simp) ?_
   refine AllReadyH.cons rfl (fun K hK => ?_) AllReadyH.nil
   go_simp
   refine hK.out _ _ HS1.out (fun hHeld => ?_)
   clear hK K
   try simp [Act.put]
   refine wpAnyH_ready (rs := [8]) zK (by simp) ?_
   refine AllReadyH.cons rfl (fun K hK => ?_) AllReadyH.nil
   refine step_lk HK1.out.long rfl 25 Tryz.underlying25 infL53 (by omega) rfl (.tmp 9) (.tmp 12) rfl (by simp [Act.eval]) (by simp [Act.eval]) ?_
   intro g cap w' hr hg hq
   obtain ⟨hB',hs',hT'⟩ := HT.out.add HK1.out HK2.out HK3.out HR.out.1 HR.out.2.1 HR.out.2.2 uR.out hr hg hq rfl
   have q0 : w'.cell? ⟨bk,1,none⟩ = some (.slice ao N cc) := cell_of hB' 1
   have q1 : w'.frozen? ⟨bk,1,none⟩ = false := frozen_of hB' 1
   have HT' := hT'.hid
   clear hr hg hq hB' hT' p0 p1
   refine hK.out _ _ hs' (fun hHeld => ?_)
   clear hK K
   try simp [Act.put]
   refine wpAnyH_take (i := 9) (v := ?_) rfl zK zK zK (fun _ _ _ h => h) (Or.inl ⟨by rfl,?_⟩) (by assumption) ?_
   rotate_left
   ·(intro v hv; go_simp; try (with_reducible rfl))
   try simp [Act.put]
   refine wpAnyH_take (i := 10) (v := ?_) rfl zK zK zK (fun _ _ _ h => h) (Or.inl ⟨by rfl,?_⟩) (by assumption) ?_
   rotate_left
   ·(intro v hv; go_simp; try (with_reducible rfl))
   try simp [Act.put]
   refine wpAnyH_ready (rs := [11]) zK (by simp) ?_
   refine AllReadyH.cons rfl (fun K hK => ?_) AllReadyH.nil
   go_simp
   refine hK.out _ _ HT'.out.same (fun hHeld => ?_)
   clear hK K
   try simp [Act.put]
   refine wpAnyH_done zK ?_ _
   exact HC.out _ _ _ _ _ _ _ _ _ _ _ _ _ _ _ _ _ _ _ _ _ _ _ _ _ _ _ _ ⟨_,HT'.out⟩
  ·go_simp
   refine hK.out _ _ HS1.out (fun hHeld => ?_)
   clear hK K
   try simp [Act.put]
   refine wpAnyH_ready (rs := [4]) zK (by simp) ?_
   refine AllReadyH.cons rfl (fun K hK => ?_) AllReadyH.nil
   go_simp
   refine hK.out _ _ HS1.out (fun hHeld => ?_)
   clear hK K
   try simp [Act.put]
   refine wpAnyH_ready (rs := [8]) zK (by simp) ?_
   refine AllReadyH.cons rfl (fun K hK => ?_) AllReadyH.nil
   refine step_lk HK1.out.long rfl 25 Tryz.underlying25 infL53 (by omega) rfl (.tmp 9) (.tmp 12) rfl (by simp [Act.eval]) (by simp [Act.eval]) ?_
   intro g cap w' hr hg hq
   obtain ⟨hB',hs',hT'⟩ := HT.out.add HK1.out HK2.out HK3.out HR.out.1 HR.out.2.1 HR.out.2.2 uR.out hr hg hq rfl
   have q0 : w'.cell? ⟨bk,1,none⟩ = some (.slice ao N cc) := cell_of hB' 1
   have q1 : w'.frozen? ⟨bk,1,none⟩ = false := frozen_of hB' 1
   have HT' := hT'.hid
   clear hr hg hq hB' hT' p0 p1
   refine hK.out _ _ hs' (fun hHeld => ?_)
   clear hK K
   try simp [Act.put]
   refine wpAnyH_take (i := 9) (v := ?_) rfl zK zK zK (fun _ _ _ h => h) (Or.inl ⟨by rfl,?_⟩) (by assumption) ?_
   rotate_left
   ·(intro v hv; go_simp; try (with_reducible rfl))
   try simp [Act.put]
   refine wpAnyH_take (i := 10) (v := ?_) rfl zK zK zK (fun _ _ _ h => h) (Or.inl ⟨by rfl,?_⟩) (by assumption) ?_
   rotate_left
   ·(intro v hv; go_simp; try (with_reducible rfl))
   try simp [Act.put]
   refine wpAnyH_ready (rs := [11]) zK (by simp) ?_
   refine AllReadyH.cons rfl (fun K hK => ?_) AllReadyH.nil
   go_simp
   refine hK.out _ _ HT'.out.same (fun hHeld => ?_)
   clear hK K
   try simp [Act.put]
   refine wpAnyH_done zK ?_ _
   exact HC.out _ _ _ _ _ _ _ _ _ _ _ _ _ _ _ _ _ _ _ _ _ _ _ _ _ _ _ _ ⟨_,HT'.out⟩
 ·rintro y2 y4 y5 y6 y7 y8 y9 y10 y11 y12 y13 y14 y15 y16 y17 y18 y19 y20 y21 y22 y23 y24 y25 y26 y27 y28 y29 wC ⟨lC,hC⟩
  have HC := hC.hid
  clear hC HINV uR HR
  go_wp2_with fail
  go_loopw [4] (fun t wr => ∃ (i : Nat) (lI : Value) (Ai : Nat → Prop),i ≤ ks.length ∧ t = zI i ∧ Hid (TBn w0 W1 bk (fun b => U b ∨ b = v§) Ai (N + 1 + sizes (ks.take i)) wr lI) ∧ Hid (∀ b,Ai b → A b ∨ (Value.slice a ks.length c).ownBlock = some b ∨ ∃ j,j < i ∧ Qs j b)) (fun t _ => ks.length - (intOf t).toNat)
  case atStart => exact ⟨0,lC,_,by omega,rfl,HC.out,fun b hb => hb.elim .inl (fun e => .inr (.inl e))⟩
  case round =>
   obtain ⟨i,lI,Ai,hi,rfl,HTi,HAi⟩ := hrel
   have x6 : wr.cell? ⟨v§,6,none⟩ = some (.slice a ks.length c) := HFA.out wr HTi.out.same
   by_cases hlt : i < ks.length
   ·have hlt' : (i : Int) < (ks.length : Int) := by omega
    have hmx : (i : Int) + 1 ≤ 9223372036854775807 := by omega
    obtain ⟨b,o,e1,hat⟩ := HLI.out.kid i hlt
    have e2 : a = some ⟨b,o,none⟩ := e1
    have hbU : U b := (HP.out b (HPa.out b (by rw [e2]; rfl))).1
    have hk1 : NdAt wr b (o + i * 8) ks[i] := NdAt.blk hat (HTi.out.same b (.inl hbU))
    have cI := HIH.out ks[i] (nth_mem hlt) w0 W1 bk _ Ai (Qs i) _ wr lI HTi.out (HNO.out _ (nth_mem hlt)) (HLI.out.sub _ (nth_mem hlt)) (HSS.out i hlt) (fun b hq => ⟨.inl (HP.out b (HSQ.out i b hq)).1,fun ha => by
     rcases HAi.out b ha with h1 | h1 | ⟨j,hj,h1⟩
     ·exact (HP.out b (HSQ.out i b hq)).2 h1
     ·exact HNQ.out i b h1 hq
     ·have := HSD.out i j b hq h1; omega⟩) (by have h1 := sizes_take hlt; have h2 := sizes_take_le ks (i + 1); have h3 := HSZ.out; omega)
    have HST : Hid (N + 1 + sizes (ks.take i) + size ks[i] = N + 1 + sizes (ks.take (i + 1))) := by show _ = _; rw [sizes_take hlt]; omega
    obtain ⟨k,ek⟩ : ∃ k,ks[i] = k := ⟨_,rfl⟩
    rw [ek] at hk1 cI HST
    rw [e2] at x6
    obtain ⟨z0,z1,z2,z3,z4,z5,z6,z7⟩ := hk1
    unfold Nd.vals hdA at cI
    clear ek e1 e2 hat hbU
    go_wp2_with fail
    refine cI.mono ?_
    rintro e w5 ⟨⟨r,rfl⟩,lv5,A5,hT5,hA5⟩
    have HT5 : Hid (TBn w0 W1 bk (fun b => U b ∨ b = v§) A5 (N + 1 + sizes (ks.take (i + 1))) w5 lv5) := by
     show TBn _ _ _ _ _ _ _ _
     rw [← HST.out]; exact hT5
    have HA5 : Hid (∀ b,A5 b → A b ∨ (Value.slice a ks.length c).ownBlock = some b ∨ ∃ j,j < i + 1 ∧ Qs j b) := fun b hb => by
     rcases hA5 b hb with h1 | h1
     ·rcases HAi.out b h1 with h2 | h2 | ⟨j,hj,h2⟩
      ·exact .inl h2
      ·exact .inr (.inl h2)
      ·exact .inr (.inr ⟨j,by omega,h2⟩)
     ·exact .inr (.inr ⟨i,by omega,h1⟩)
    clear cI hT5 hA5 z0 z1 z2 z3 z4 z5 z6 z7 x6 HST
    go_wp2_with fail
    exact ⟨⟨i + 1,lv5,A5,hlt,rfl,HT5,HA5⟩,by simp only [intOf]; omega⟩
   ·obtain rfl : i = ks.length := by omega
    have hnot : ¬ (ks.length : Int) < (ks.length : Int) := by omega
    have HAP : Hid (∀ b,Ai b → A b ∨ P b) := fun b hb => by
     rcases HAi.out b hb with h1 | h1 | ⟨j,_,h1⟩
     ·exact .inl h1
     ·exact .inr (HPa.out b h1)
     ·exact .inr (HSQ.out j b h1)
    have HFI : Hid (TBn w0 w1 bk U Ai (N + size (.mk h a c ks)) wr lI) := by
     have h1 := HUB.out _ _ _ _ HTi.out (fun b hb => (HAP.out b hb).elim (HAU.out b) (fun h => (HP.out b h).1))
     have h2 : N + 1 + sizes (ks.take ks.length) = N + size (.mk h a c ks) := by rw [List.take_length]; simp only [size]; omega
     rw [h2] at h1
     exact h1
    go_wp2_with fail
    go_end0
    exact ⟨⟨_,rfl⟩,lI,Ai,HFI.out,HAP.out⟩
end Go.Proofs.YtkfabnchhjfjjaaGreatDoor
