/-
  Walks of container/heap.down, the numbers' Pop, container/heap.Pop and the arena's least.
-/
import Derived.Test.YthkdmjbdcnaklaaUp
namespace Go.Proofs.Ythkdmjbdcnaklaa
open Go.RowKit

theorem mem_less {n : Nat} {f : Nat → Int} (h : Inj (n + 1) f) (x : Int) : Mem n f x ↔ Mem (n + 1) f x ∧ x ≠ f n := by
  constructor
  · rintro ⟨k, hk, rfl⟩
    exact ⟨⟨k, by omega, rfl⟩, fun e => by have := h k n (by omega) (by omega) e; omega⟩
  · rintro ⟨⟨k, hk, rfl⟩, hne⟩
    refine ⟨k, ?_, rfl⟩
    by_cases e : k = n
    · subst e; exact absurd rfl hne
    · omega

/-- Some answer, yes or no. -/
def IsB (e : Ending) : Prop := ∃ b, e = .returned (.bool b)

set_option maxRecDepth 100000 in
set_option maxHeartbeats 1000000 in
theorem down_any {w : World} {A : Nat} {tA : TypeId} {c0 c1 c2 : Value} {g fc N n : Nat} {f : Nat → Int} (h : Fd w A tA c0 c1 c2 (some ⟨g, 0, none⟩) fc N f) (hn : n < N) (hN : N ≤ 1000001) (hb : HeapDn n f 0) :
    Calls Try.prog 59 #[.iface 83 (.pointer (some ⟨A, 3, none⟩)), .int .i64 0, .int .i64 n] w fun e w' => IsB e ∧
      ∃ f', Fd w' A tA c0 c1 c2 (some ⟨g, 0, none⟩) fc N f' ∧ Heap n f' ∧ (∀ x, Mem n f' x ↔ Mem n f x) ∧ (Inj n f → Inj n f') ∧ f' n = f n ∧ Mv w w' (fun k => k = g) := by
  go_enter Try.func59, Try.ntmps59
  go_wp2_with fail
  go_loopw [7, 8, 9, 10] (fun vi _ _ _ wr => ∃ (i : Nat) (f' : Nat → Int), vi = .int .i64 i ∧ (i < n ∨ i = 0) ∧ HeapDn n f' i ∧ Fd wr A tA c0 c1 c2 (some ⟨g, 0, none⟩) fc N f' ∧ (∀ x, Mem n f' x ↔ Mem n f x) ∧ (Inj n f → Inj n f') ∧ f' n = f n ∧ Mv w wr (fun k => k = g)) (fun vi _ _ _ _ => n - (intOf vi).toNat)
  case atStart => exact ⟨0, f, rfl, .inr rfl, hb, h, fun _ => Iff.rfl, id, rfl, Mv.refl _ _⟩
  case round =>
    obtain ⟨i, f', rfl, hi, hbut, hfd, hmem, hinj, hlast, hmv⟩ := hrel
    have hcell := hfd.cell
    have hless := mLess _ _ _ hcell
    have hbd : i ≤ 1000001 := by omega
    obtain ⟨a, ha⟩ : ∃ a, 2 * i + 1 = a := ⟨_, rfl⟩
    obtain ⟨b, hb2⟩ : ∃ b, a + 1 = b := ⟨_, rfl⟩
    have ea : 2 * (i : Int) + 1 = (a : Int) := by omega
    have eb : (a : Int) + 1 = (b : Int) := by omega
    have Ha : Hid (2 * i + 1 = a ∧ a + 1 = b) := ⟨ha, hb2⟩
    have HBut : Hid (HeapDn n f' i) := hbut
    have HL : Hid (f' n = f n) := hlast
    have hab : a ≤ 2000003 := by omega
    have hi0 : i < N := by omega
    have hia : i < a := by omega
    have hib : i < b := by omega
    clear ha hb2 hbut hlast
    by_cases h1 : a < n
    · have h1' : ¬ (n : Int) ≤ (a : Int) := by omega
      by_cases h2 : b < n
      · have h2' : (b : Int) < (n : Int) := by omega
        by_cases h3 : f' b < f' a
        · have hd3 : decide (f' b < f' a) = true := decide_eq_true h3
          go_wp2_with fail
          refine (less_any hfd.row b a (by omega) (by omega)).mono ?_
          rintro e w1 ⟨rfl, hm1⟩
          have hfd1 := hfd.mv hm1 (fun e => e) (fun _ _ e => e)
          have hmv1 := hmv.trans hm1 (fun _ e => e.elim)
          have hcell1 := hfd1.cell
          have hless1 := mLess _ _ _ hcell1
          have HM : Hid (∀ k, 0 < k → k < n → (k - 1) / 2 = i → f' b ≤ f' k) := by
            intro k k0 kn pk
            have hab2 := Ha.out
            have hk : k = a ∨ k = b := by omega
            rcases hk with e | e
            · rw [e]; omega
            · rw [e]; omega
          by_cases h4 : f' b < f' i
          · have hd4 : decide (f' b < f' i) = true := decide_eq_true h4
            go_wp2_with fail
            refine (less_any hfd1.row b i (by omega) hi0).mono ?_
            rintro e w2 ⟨rfl, hm2⟩
            have hfd2 := hfd1.mv hm2 (fun e => e) (fun _ _ e => e)
            have hcell2 := hfd2.cell
            have hswap2 := mSwap _ _ _ hcell2
            go_wp2_with fail
            refine (swap_any hfd2.row i b hi0 (by omega)).mono ?_
            rintro e w3 ⟨rfl, hr3, hm3⟩
            go_wp2_with fail
            go_round
            case rel =>
              have hin : i < n := by omega
              refine ⟨b, swp f' i b, by go_num, .inl (by omega), ?_, hfd2.of_row hr3 hm3, fun x => (mem_swp hin (by omega) x).trans (hmem x), fun k => inj_swp hin (by omega) (hinj k), ?_, ?_⟩
              · refine dn_step HBut.out (by omega) (by omega) (by have := Ha.out; omega) (by omega) ?_
                exact HM.out
              · rw [swp_o f' (by omega) (by omega)]; exact HL.out
              · exact (hmv1.trans hm2 (fun _ e => e.elim)).trans hm3 (fun b e => .inl e)
            case measure => simp [intOf]; omega
          · have hd4 : decide (f' b < f' i) = false := decide_eq_false h4
            go_wp2_with fail
            refine (less_any hfd1.row b i (by omega) hi0).mono ?_
            rintro e w2 ⟨rfl, hm2⟩
            go_wp2_with fail
            go_ret
            refine ⟨⟨_, rfl⟩, f', hfd1.mv hm2 (fun e => e) (fun _ _ e => e), dn_end HBut.out ?_, hmem, hinj, HL.out, hmv1.trans hm2 (fun _ e => e.elim)⟩
            intro k k0 kn pk
            have hkj : f' b ≤ f' k := HM.out k k0 kn pk
            omega
        · have hd3 : decide (f' b < f' a) = false := decide_eq_false h3
          go_wp2_with fail
          refine (less_any hfd.row b a (by omega) (by omega)).mono ?_
          rintro e w1 ⟨rfl, hm1⟩
          have hfd1 := hfd.mv hm1 (fun e => e) (fun _ _ e => e)
          have hmv1 := hmv.trans hm1 (fun _ e => e.elim)
          have hcell1 := hfd1.cell
          have hless1 := mLess _ _ _ hcell1
          have HM : Hid (∀ k, 0 < k → k < n → (k - 1) / 2 = i → f' a ≤ f' k) := by
            intro k k0 kn pk
            have hab2 := Ha.out
            have hk : k = a ∨ k = b := by omega
            rcases hk with e | e
            · rw [e]; omega
            · rw [e]; omega
          by_cases h4 : f' a < f' i
          · have hd4 : decide (f' a < f' i) = true := decide_eq_true h4
            go_wp2_with fail
            refine (less_any hfd1.row a i (by omega) hi0).mono ?_
            rintro e w2 ⟨rfl, hm2⟩
            have hfd2 := hfd1.mv hm2 (fun e => e) (fun _ _ e => e)
            have hcell2 := hfd2.cell
            have hswap2 := mSwap _ _ _ hcell2
            go_wp2_with fail
            refine (swap_any hfd2.row i a hi0 (by omega)).mono ?_
            rintro e w3 ⟨rfl, hr3, hm3⟩
            go_wp2_with fail
            go_round
            case rel =>
              have hin : i < n := by omega
              refine ⟨a, swp f' i a, by go_num, .inl (by omega), ?_, hfd2.of_row hr3 hm3, fun x => (mem_swp hin (by omega) x).trans (hmem x), fun k => inj_swp hin (by omega) (hinj k), ?_, ?_⟩
              · refine dn_step HBut.out (by omega) (by omega) (by have := Ha.out; omega) (by omega) ?_
                exact HM.out
              · rw [swp_o f' (by omega) (by omega)]; exact HL.out
              · exact (hmv1.trans hm2 (fun _ e => e.elim)).trans hm3 (fun b e => .inl e)
            case measure => simp [intOf]; omega
          · have hd4 : decide (f' a < f' i) = false := decide_eq_false h4
            go_wp2_with fail
            refine (less_any hfd1.row a i (by omega) hi0).mono ?_
            rintro e w2 ⟨rfl, hm2⟩
            go_wp2_with fail
            go_ret
            refine ⟨⟨_, rfl⟩, f', hfd1.mv hm2 (fun e => e) (fun _ _ e => e), dn_end HBut.out ?_, hmem, hinj, HL.out, hmv1.trans hm2 (fun _ e => e.elim)⟩
            intro k k0 kn pk
            have hkj : f' a ≤ f' k := HM.out k k0 kn pk
            omega
      · have h2' : ¬ (b : Int) < (n : Int) := by omega
        have hfd1 := hfd
        have hmv1 := hmv
        have HM : Hid (∀ k, 0 < k → k < n → (k - 1) / 2 = i → f' a ≤ f' k) := by
          intro k k0 kn pk
          have hab2 := Ha.out
          have hk : k = a ∨ k = b := by omega
          rcases hk with e | e
          · rw [e]; omega
          · rw [e]; omega
        by_cases h4 : f' a < f' i
        · have hd4 : decide (f' a < f' i) = true := decide_eq_true h4
          go_wp2_with fail
          refine (less_any hfd1.row a i (by omega) hi0).mono ?_
          rintro e w2 ⟨rfl, hm2⟩
          have hfd2 := hfd1.mv hm2 (fun e => e) (fun _ _ e => e)
          have hcell2 := hfd2.cell
          have hswap2 := mSwap _ _ _ hcell2
          go_wp2_with fail
          refine (swap_any hfd2.row i a hi0 (by omega)).mono ?_
          rintro e w3 ⟨rfl, hr3, hm3⟩
          go_wp2_with fail
          go_round
          case rel =>
            have hin : i < n := by omega
            refine ⟨a, swp f' i a, by go_num, .inl (by omega), ?_, hfd2.of_row hr3 hm3, fun x => (mem_swp hin (by omega) x).trans (hmem x), fun k => inj_swp hin (by omega) (hinj k), ?_, ?_⟩
            · refine dn_step HBut.out (by omega) (by omega) (by have := Ha.out; omega) (by omega) ?_
              exact HM.out
            · rw [swp_o f' (by omega) (by omega)]; exact HL.out
            · exact (hmv1.trans hm2 (fun _ e => e.elim)).trans hm3 (fun b e => .inl e)
          case measure => simp [intOf]; omega
        · have hd4 : decide (f' a < f' i) = false := decide_eq_false h4
          go_wp2_with fail
          refine (less_any hfd1.row a i (by omega) hi0).mono ?_
          rintro e w2 ⟨rfl, hm2⟩
          go_wp2_with fail
          go_ret
          refine ⟨⟨_, rfl⟩, f', hfd1.mv hm2 (fun e => e) (fun _ _ e => e), dn_end HBut.out ?_, hmem, hinj, HL.out, hmv1.trans hm2 (fun _ e => e.elim)⟩
          intro k k0 kn pk
          have hkj : f' a ≤ f' k := HM.out k k0 kn pk
          omega
    · have h1' : (n : Int) ≤ (a : Int) := by omega
      have h1n : ¬ (a : Int) < (n : Int) := by omega
      go_wp2_with fail
      go_ret
      exact ⟨⟨_, rfl⟩, f', hfd, dn_end HBut.out (fun k k0 kn pk => by have := Ha.out; omega), hmem, hinj, HL.out, hmv⟩

set_option maxRecDepth 100000 in
theorem npop_any {w : World} {A : Nat} {tA : TypeId} {c0 c1 c2 : Value} {g fc n : Nat} {f : Nat → Int} (h : Fd w A tA c0 c1 c2 (some ⟨g, 0, none⟩) fc (n + 1) f) (hn : n ≤ 1000000) :
    Calls Try.prog 84 #[.pointer (some ⟨A, 3, none⟩)] w fun e w' => e = .returned (.iface 3 (.int .i64 (f n))) ∧ Fd w' A tA c0 c1 c2 (some ⟨g, 0, none⟩) fc n f ∧ Mv w w' (fun k => k = A) := by
  have hcell := h.cell
  have hfz := h.frozen
  have hc := h.row.cell (j := n) (by omega)
  have hcap : n ≤ fc := by
    rcases h.row.2 with ⟨h0, _⟩ | ⟨g', cap', cur, hv, _, _, hle, _⟩
    · cases h0
    · cases hv; omega
  have e1 : ((n : Int) + 1) - 1 = n := by omega
  go_enter Try.func84, Try.ntmps84
  go_wp2_with fail
  go_ret
  refine ⟨rfl, ⟨?_, h.row.pop.of_block (fun k hk => ?_), h.ty⟩, (Mv.refl w (fun k => k = A)).setCell (a := ⟨A, 3, none⟩) (Or.inl (rfl : A = A)) _⟩
  · rw [heap_setCell_same w A 3 _ tA _ h.own]; rfl
  · exact Below.heap_setCell _ _ _ _ (by simp [Value.ownBlock] at hk; subst hk; exact h.ne)

set_option maxRecDepth 100000 in
theorem hpop_any {w : World} {A : Nat} {tA : TypeId} {c0 c1 c2 : Value} {g fc n : Nat} {f : Nat → Int} (h : Fd w A tA c0 c1 c2 (some ⟨g, 0, none⟩) fc (n + 1) f) (hn : n ≤ 1000000) (hp : Hp (n + 1) f) :
    Calls Try.prog 57 #[.iface 83 (.pointer (some ⟨A, 3, none⟩))] w fun e w' => e = .returned (.iface 3 (.int .i64 (f 0))) ∧
      ∃ f', Fd w' A tA c0 c1 c2 (some ⟨g, 0, none⟩) fc n f' ∧ Hp n f' ∧ (∀ y, Mem n f' y ↔ Mem (n + 1) f y ∧ y ≠ f 0) ∧ Mv w w' (Ft A (some ⟨g, 0, none⟩)) := by
  have hcell := h.cell
  have hlen := mLen _ _ _ hcell
  have hswap := mSwap _ _ _ hcell
  have hpo := mPop ⟨A, 3, none⟩
  have e1 : ((n : Int) + 1) - 1 = n := by omega
  go_enter Try.func57, Try.ntmps57
  go_wp2_with fail
  refine (len_any _ _ _ _).mono ?_
  rintro e w1 ⟨rfl, rfl⟩
  go_wp2_with fail
  refine (swap_any h.row 0 n (by omega) (by omega)).mono ?_
  rintro e w2 ⟨rfl, hr2, hm2⟩
  have hfd2 := h.of_row hr2 hm2
  have hj2 : Inj (n + 1) (swp f 0 n) := inj_swp (by omega) (by omega) hp.inj
  go_wp2_with fail
  refine (down_any hfd2 (n := n) (by omega) (by omega) (dn_start hp.heap)).mono ?_
  rintro e w3 ⟨⟨b, rfl⟩, f', hfd3, hheap, hmem, hinj, hlast, hm3⟩
  go_wp2_with fail
  refine (npop_any hfd3 hn).mono ?_
  rintro e w4 ⟨rfl, hfd4, hm4⟩
  have hf0 : f' n = f 0 := by rw [hlast, swp_r]
  clear hlast
  go_wp2_with fail
  go_ret
  refine ⟨rfl, f', hfd4, ⟨hinj (fun i j hi hj => hj2 i j (by omega) (by omega)), hheap⟩, fun y => ?_, ?_⟩
  · rw [hmem y, mem_less hj2 y, mem_swp (by omega) (by omega), swp_r]
  · exact ((hm2.mono (F' := Ft A (some ⟨g, 0, none⟩)) (fun b e => .inr (by cases e; rfl))).trans hm3 (fun b e => .inl (.inr (by cases e; rfl)))).trans hm4 (fun b e => .inl (.inl e))

set_option maxRecDepth 100000 in
theorem least_any {w : World} {A : Nat} {tA : TypeId} {c0 c1 c2 : Value} {g fc n : Nat} {f : Nat → Int} (h : Fd w A tA c0 c1 c2 (some ⟨g, 0, none⟩) fc (n + 1) f) (hn : n ≤ 1000000) (hp : Hp (n + 1) f) :
    Calls Try.prog 53 #[.pointer (some ⟨A, 3, none⟩)] w fun e w' => e = .returned (.int .i64 (f 0)) ∧
      ∃ f', Fd w' A tA c0 c1 c2 (some ⟨g, 0, none⟩) fc n f' ∧ Hp n f' ∧ (∀ y, Mem n f' y ↔ Mem (n + 1) f y ∧ y ≠ f 0) ∧ Mv w w' (Ft A (some ⟨g, 0, none⟩)) := by
  have hta := assertInt (f 0)
  go_enter Try.func53, Try.ntmps53
  go_wp2_with fail
  refine (hpop_any h hn hp).mono ?_
  rintro e w1 ⟨rfl, hh⟩
  go_wp2_with fail
  go_ret
  exact ⟨rfl, hh⟩

end Go.Proofs.Ythkdmjbdcnaklaa
