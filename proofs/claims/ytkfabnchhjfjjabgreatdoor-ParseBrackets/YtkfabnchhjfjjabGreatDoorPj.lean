/-
  The walks of lex.behind, lex.Next.
-/
import Derived.Test.YtkfabnchhjfjjabGreatDoorPi
import Derived.Test.YtkfabnchhjfjjabGreatDoorLxx
import Derived.Deep.RegionHeld3
namespace Go.Proofs.YtkfabnchhjfjjabGreatDoor
open Go.RowKit

/-- The world has only grown, from X on. -/
def GBx (X v : World) : Prop := Below X.heap.size X v
theorem GBx.refl (X : World) : GBx X X := Below.refl _ X
theorem GBx.drew {X v : World} (h : GBx X v) : GBx X v.drew := Below.drew h
theorem GBx.alloc {X v : World} (h : GBx X v) (o : Obj) : GBx X (v.alloc o) := Below.alloc h h.size o
theorem GBx.call {X u v : World} (k : Below u.heap.size u v) (h : GBx X u) : GBx X v := Below.trans h (k.mono h.size)
theorem abs_world {Q P : World → Prop} {v : World} (h : P v) (k : ∀ v', P v' → Q v') : Q v := k v h
/-- What a region keeps that hands a token on: all below the answer's block, and the token. -/
structure GT (w : World) (b : Nat) (V v : World) : Prop where
  below : Below w.heap.size w v
  size : V.heap.size ≤ v.heap.size
  tok : v.heap[b]? = V.heap[b]?
theorem GT.refl {w V : World} (b : Nat) (h : Below w.heap.size w V) : GT w b V V := ⟨h, Nat.le_refl _, rfl⟩
theorem GT.drew {w V v : World} {b : Nat} (h : GT w b V v) : GT w b V v.drew := ⟨h.below.drew, h.size, h.tok⟩
theorem GT.call {w V u v : World} {b : Nat} {T : Tk} (hT : TkH V b T) (k : Below u.heap.size u v) (h : GT w b V u) : GT w b V v :=
  ⟨h.below.trans (k.mono h.below.size), Nat.le_trans h.size k.size, (k.block b (Nat.lt_of_lt_of_le hT.lt h.size)).trans h.tok⟩
theorem GT.set {w V v : World} {b j : Nat} {x : Value} (hb : b ≠ w.heap.size) (h : GT w b V v) : GT w b V (v.setCell ⟨w.heap.size, j, none⟩ x) :=
  ⟨h.below.setCell (p := ⟨w.heap.size, j, none⟩) (Nat.le_refl _) x, by simpa using h.size, (Below.heap_setCell _ _ _ _ (by simpa using hb)).trans h.tok⟩
theorem TkH.keep {w V v : World} {b : Nat} {t : Tk} (h : TkH V b t) (k : GT w b V v) : v.cell? ⟨b, 0, none⟩ = some (.int .u8 t.k) ∧ v.cell? ⟨b, 1, none⟩ = some (.string t.x) ∧ v.cell? ⟨b, 2, none⟩ = some (.int .u8 t.ty) ∧ v.cell? ⟨b, 3, none⟩ = some (.int .i64 t.n) ∧ v.cell? ⟨b, 4, none⟩ = some (.int .i64 t.p) ∧ GT w b V v := by
  have h2 : TkH v b t := k.tok.trans h
  obtain ⟨a0, a1, a2, a3, a4⟩ := h2.cells
  exact ⟨a0, a1, a2, a3, a4, k⟩
set_option maxRecDepth 100000 in
set_option maxHeartbeats 2000000 in
theorem behind_any (T : Tk) (w : World) (h1 : -9223372036854775808 ≤ T.p + (T.x.size : Int)) (h2 : T.p + (T.x.size : Int) ≤ 9223372036854775807) :
    Calls Tryz.prog 71 #[.agg (tkA T)] w fun e w' => e = .returned (.int .i64 (T.p + (T.x.size : Int))) ∧ Below w.heap.size w w' := by
  unfold tkA
  go_enter Tryz.func71, Tryz.ntmps71
  go_wp2_with fail
  go_ret
  exact ⟨rfl, below_new w _⟩
set_option maxRecDepth 100000 in
set_option maxHeartbeats 2000000 in
theorem nextp_long (s : ByteArray) (a : Int) (h : s.size > 4096) (w : World) :
    Calls Tryz.prog 74 #[.string s, .int .i64 a] w fun e w' => e = .returned (nxV s a) ∧ Below w.heap.size w w' := by
  have hE : nxE s a = 110 := by unfold nxE; rw [if_pos h]
  have K : Hid (nxV s a = .tuple #[.agg (tkA tk0), .int .i64 0, .int .i64 110]) := nx_bad hE (by decide)
  have h' : (s.size : Int) > 4096 := by omega
  clear hE
  go_enter Tryz.func74, Tryz.ntmps74
  go_wp2
  exact bodyPost_ret (results_three (p := 4) (u := 5) (v := 6) (ty := 33) rfl _ _ w.heap.size 33 (tkA tk0) (0, 0) _ rfl (heap_new w _) Tryz.underlying33 rfl (by kernel_rfl)) rfl ⟨by rw [K.out]; rfl, below_new w _⟩
set_option maxRecDepth 100000 in
set_option maxHeartbeats 2000000 in
theorem nextp_out (s : ByteArray) (a : Int) (h : ¬ s.size > 4096) (ha : a < 0 ∨ a > s.size) (w : World) :
    Calls Tryz.prog 74 #[.string s, .int .i64 a] w fun e w' => e = .returned (nxV s a) ∧ Below w.heap.size w w' := by
  have hE : nxE s a = 1 := by unfold nxE; rw [if_neg h, if_pos ha]
  have K : Hid (nxV s a = .tuple #[.agg (tkA tk0), .int .i64 0, .int .i64 1]) := nx_bad hE (by decide)
  have h' : ¬ (s.size : Int) > 4096 := by omega
  clear hE
  go_enter Tryz.func74, Tryz.ntmps74
  by_cases h0 : a < 0
  · go_wp2
    exact bodyPost_ret (results_three (p := 4) (u := 5) (v := 6) (ty := 33) rfl _ _ w.heap.size 33 (tkA tk0) (0, 0) _ rfl (heap_new w _) Tryz.underlying33 rfl (by kernel_rfl)) rfl ⟨by rw [K.out]; rfl, below_new w _⟩
  · have h1 : a > (s.size : Int) := by omega
    go_wp2
    exact bodyPost_ret (results_three (p := 4) (u := 5) (v := 6) (ty := 33) rfl _ _ w.heap.size 33 (tkA tk0) (0, 0) _ rfl (heap_new w _) Tryz.underlying33 rfl (by kernel_rfl)) rfl ⟨by rw [K.out]; rfl, below_new w _⟩
set_option maxRecDepth 100000 in
set_option maxHeartbeats 2000000 in
theorem nextp_in (s : ByteArray) (f : Nat) (h : ¬ s.size > 4096) (hf : f ≤ s.size) (w : World) (ht : Tab w) :
    Calls Tryz.prog 74 #[.string s, .int .i64 f] w fun e w' => e = .returned (nxV s f) ∧ Below w.heap.size w w' := by
  have hE : nxE s f = oneE s f := by unfold nxE; rw [if_neg h, if_neg (by omega)]; rfl
  have h' : ¬ (s.size : Int) > 4096 := by omega
  have h0 : ¬ (f : Int) < 0 := by omega
  have h1 : ¬ (f : Int) > (s.size : Int) := by omega
  have hfin := one_fine s f hf
  obtain ⟨W, eW, HR, HB, hz⟩ := box_one w
  have cF := first_any s f (by omega) hf W (ht.on HB.out)
  unfold fsV fsT at cF
  obtain ⟨E, eE⟩ : ∃ E, oneE s f = E := ⟨_, rfl⟩
  rw [eE] at cF hfin hE
  have hP := oneP_le s f hf
  have KX : Hid (nxE s f = E) := hE
  by_cases hE0 : E = 0
  · obtain ⟨T, eT⟩ : ∃ T, oneT s f = T := ⟨_, rfl⟩
    obtain ⟨q0, q1, q2, _⟩ := hfin hE0
    rw [if_pos hE0, eT] at cF
    rw [eT] at q0 q2
    have K : Hid (nxV s f = .tuple #[.agg (tkA T), .int .i64 (T.p + T.x.size), .int .i64 0]) := nx_ok (by rw [KX.out, hE0]) eT
    subst hE0
    have cB := behind_any T
    obtain ⟨Q, eQ⟩ : ∃ Q : Int, T.p + (T.x.size : Int) = Q := ⟨_, rfl⟩
    rw [eQ] at K cB
    have cB2 := fun w => cB w (by omega) (by omega)
    unfold tkA at cF cB2
    clear hfin hE KX eT q0 q1 q2 cB eE
    go_enter Tryz.func74, Tryz.ntmps74
    go_wp2_with fail
    refine cF.mono ?_
    rintro _ v ⟨rfl, bb⟩
    have HR2 := (HR.out.onto bb).hid
    have HB2 : Hid (Below w.heap.size w v) := HB.out.trans (bb.mono HB.out.size)
    have hlt : w.heap.size < v.heap.size := HR2.out.lt
    obtain ⟨V, eV⟩ : ∃ V, v.alloc (.cells (tkA T) 33) = V := ⟨_, rfl⟩
    have HR3 : Hid (TkH V w.heap.size tk0) := by rw [← eV]; exact heap_old HR2.out hlt
    have HB4 : Hid (Below w.heap.size w V) := by rw [← eV]; exact HB2.out.alloc (Nat.le_of_lt hlt) _
    have HT3 : Hid (TkH V v.heap.size T) := by rw [← eV]; exact heap_new _ _
    unfold tkA at eV
    clear bb
    have hbn : v.heap.size ≠ w.heap.size := by omega
    obtain ⟨b, eb⟩ : ∃ b, v.heap.size = b := ⟨_, rfl⟩
    rw [eb] at HT3 hbn
    go_wp2_with fail
    clear eV
    go_region_held3 (fun v' => v'.cell? ⟨b, 0, none⟩ = some (.int .u8 T.k) ∧ v'.cell? ⟨b, 1, none⟩ = some (.string T.x) ∧ v'.cell? ⟨b, 2, none⟩ = some (.int .u8 T.ty) ∧ v'.cell? ⟨b, 3, none⟩ = some (.int .i64 T.n) ∧ v'.cell? ⟨b, 4, none⟩ = some (.int .i64 T.p) ∧ GT w b V v')
      (exact HT3.out.keep (by (repeat (first | with_reducible assumption | with_reducible exact GT.refl _ HB4.out | with_reducible apply GT.drew | with_reducible refine GT.set hbn ?_ | with_reducible refine GT.call HT3.out (by with_reducible assumption) ?_))))
      (first
        | (go_at_call 71; refine (cB2 _).mono ?_; rintro e w1 ⟨rfl, hb1⟩; have g1 : GBx V w1 := GBx.call hb1 (by repeat (first | with_reducible exact GBx.refl _ | with_reducible apply GBx.drew)); have RH := (HR3.out.onto g1).hid; obtain ⟨r0, r1, r2, r3, r4⟩ := RH.out.cells; obtain ⟨f0, f1, f2, f3, f4⟩ := RH.out.froz))
    have HBF : Hid (Below w.heap.size w w1) := HB4.out.trans (g1.mono HB4.out.size)
    go_wp2
    exact bodyPost_ret (results_three (p := 4) (u := 5) (v := 6) (ty := 33) rfl _ _ w.heap.size 33 (tkA T) (0, 0) _ rfl (RH.out.put T) Tryz.underlying33 rfl (by kernel_rfl)) rfl ⟨by rw [K.out]; rfl, below_put HBF.out (Nat.le_refl _) _ _ _ _ _⟩
  · have hE' : (E != 0) = true := by simp [hE0]
    have K : Hid (nxV s f = .tuple #[.agg (tkA tk0), .int .i64 0, .int .i64 E]) := nx_bad KX.out hE0
    rw [if_neg hE0] at cF
    unfold tkA at cF
    clear hfin hE KX eE hE0
    go_enter Tryz.func74, Tryz.ntmps74
    go_wp2_with fail
    refine cF.mono ?_
    rintro _ v ⟨rfl, bb⟩
    have HR2 := (HR.out.onto bb).hid
    have HB2 : Hid (Below w.heap.size w v) := HB.out.trans (bb.mono HB.out.size)
    have hlt : w.heap.size < v.heap.size := HR2.out.lt
    obtain ⟨V, eV⟩ : ∃ V, v.alloc (.cells (tkA (tkP (oneP s f))) 33) = V := ⟨_, rfl⟩
    have HR3 : Hid (TkH V w.heap.size tk0) := by rw [← eV]; exact heap_old HR2.out hlt
    have HB4 : Hid (Below w.heap.size w V) := by rw [← eV]; exact HB2.out.alloc (Nat.le_of_lt hlt) _
    unfold tkA at eV
    clear bb
    obtain ⟨r0, r1, r2, r3, r4⟩ := HR3.out.cells
    obtain ⟨f0, f1, f2, f3, f4⟩ := HR3.out.froz
    go_wp2
    exact bodyPost_ret (results_three (p := 4) (u := 5) (v := 6) (ty := 33) rfl _ _ w.heap.size 33 (tkA tk0) (0, 0) _ rfl (HR3.out.put tk0) Tryz.underlying33 rfl (by kernel_rfl)) rfl ⟨by rw [K.out]; rfl, below_put HB4.out (Nat.le_refl _) _ _ _ _ _⟩
theorem nextp_any (s : ByteArray) (a : Int) (w : World) (ht : Tab w) :
    Calls Tryz.prog 74 #[.string s, .int .i64 a] w fun e w' => e = .returned (nxV s a) ∧ Below w.heap.size w w' := by
  by_cases h : s.size > 4096
  · exact nextp_long s a h w
  · by_cases ha : a < 0 ∨ a > s.size
    · exact nextp_out s a h ha w
    · have e : a = ((a.toNat : Nat) : Int) := by omega
      rw [e]
      exact nextp_in s a.toNat h (by omega) w ht
end Go.Proofs.YtkfabnchhjfjjabGreatDoor
