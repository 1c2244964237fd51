/-
  The document's arena: Clear, Push, New.
-/
import Derived.Test.YthkdmjbdcnaklaaRg
import Derived.Test.YthkdmjbdcnaklaaRowt
namespace Go.Proofs.Ythkdmjbdcnaklaa
open Go.RowKit
set_option linter.unusedVariables false

variable {w : World} {f : Rf} {nr room : Nat} {q : Nat → List Nat} {th : Nat → Int}

theorem sn_false {q : Nat → List Nat} {nr j : Nat} (h : ∀ i, i < nr → j ∉ q i) : sn q nr j = false := by
  apply Bool.eq_false_iff.2
  intro e
  obtain ⟨i, hi, hm⟩ := (sn_iff q nr j).1 e
  exact h i hi hm
theorem sn_congr {q q' : Nat → List Nat} {nr j : Nat} (h : (∃ i, i < nr ∧ j ∈ q i) ↔ ∃ i, i < nr ∧ j ∈ q' i) : sn q nr j = sn q' nr j := by
  cases e : sn q nr j with
  | true => exact ((sn_iff q' nr j).2 (h.1 ((sn_iff q nr j).1 e))).symm
  | false =>
    symm
    apply Bool.eq_false_iff.2
    intro e'
    have := (sn_iff q nr j).2 (h.2 ((sn_iff q' nr j).1 e'))
    rw [e] at this
    cases this

/-- The used marks, the first k of row i struck. -/
def ud (q : Nat → List Nat) (nr i k j : Nat) : Bool := if j ∈ (q i).take k then false else sn q nr j
theorem ud_zero (q : Nat → List Nat) (nr i j : Nat) : ud q nr i 0 j = sn q nr j := by simp [ud]
theorem ud_succ {q : Nat → List Nat} {i k n : Nat} (nr : Nat) (h : (q i)[k]? = some n) (j : Nat) : ud q nr i (k + 1) j = if j = n then false else ud q nr i k j := by
  have hk := some_lt h
  have hn : (q i)[k] = n := by rw [List.getElem?_eq_getElem hk] at h; exact Option.some.inj h
  unfold ud
  rw [List.take_succ_eq_append_getElem hk, hn]
  by_cases e : j = n
  · rw [if_pos e, if_pos (by simp [e])]
  · rw [if_neg e]
    simp only [List.mem_append, List.mem_singleton, e, or_false]
theorem ud_full {q : Nat → List Nat} {nr room i : Nat} (hq : Qk nr room q) (hi : i < nr) (j : Nat) : ud q nr i (q i).length j = sn (upd q i []) nr j := by
  unfold ud
  rw [List.take_length]
  by_cases hj : j ∈ q i
  · rw [if_pos hj]
    symm
    refine sn_false (fun i' hi' hm => ?_)
    by_cases e : i' = i
    · subst e; rw [upd_same] at hm; simp at hm
    · rw [upd_other _ _ e] at hm
      exact e (hq.apart i' i j hi' hi hm hj)
  · rw [if_neg hj]
    refine sn_congr ⟨fun ⟨i', hi', hm⟩ => ?_, fun ⟨i', hi', hm⟩ => ?_⟩
    · have e : i' ≠ i := by rintro rfl; exact hj hm
      exact ⟨i', hi', by rw [upd_other _ _ e]; exact hm⟩
    · by_cases e : i' = i
      · subst e; rw [upd_same] at hm; simp at hm
      · rw [upd_other _ _ e] at hm; exact ⟨i', hi', hm⟩

theorem RefAt.neU (h : RefAt w f nr room q th) : ∀ {k : Nat} {t : TypeId} {c : Array Value} {z : Nat × Nat}, w.heap[k]? = some (.cells c t z) → t ≠ 4 → k ≠ f.U := by
  intro k t c z e ht eq
  subst eq
  obtain ⟨cc, fz, e2⟩ := h.used.kind f.U rfl
  rw [e] at e2
  simp at e2
  exact ht e2.2.1
theorem RefAt.neRR (h : RefAt w f nr room q th) : ∀ {k : Nat} {t : TypeId} {c : Array Value} {z : Nat × Nat}, w.heap[k]? = some (.cells c t z) → t ≠ 73 → k ≠ f.RR := by
  intro k t c z e ht eq
  subst eq
  obtain ⟨cc, fz, e2⟩ := h.rows.kind f.RR rfl
  rw [e] at e2
  simp at e2
  exact ht e2.2.1
/-- With other used marks, and another row's value. -/
theorem RefAt.next {w' : World} {V' : Value} {i : Nat} {l' : List Nat} {th' : Nat → Int} (h : RefAt w f nr room q th) (hi : i < nr)
    (hA : w'.heap[f.A]? = w.heap[f.A]?) (hrr : Row w' 73 1 (.slice (some ⟨f.RR, 0, none⟩) nr nr) nr (upd f.V i V')) (hu : Row w' 4 1 (.slice (some ⟨f.U, 0, none⟩) room room) room (fun j => .bool (sn (upd q i l') nr j)))
    (hrow : Row w' 79 2 V' l'.length (thF l' th')) (hoth : ∀ j, j < nr → j ≠ i → Row w' 79 2 (f.V j) (q j).length (thF (q j) th'))
    (hap : ∀ b, V'.ownBlock = some b → (f.V i).ownBlock = some b ∨ ∀ j, j < nr → (f.V j).ownBlock ≠ some b) : RefAt w' { f with V := upd f.V i V' } nr room (upd q i l') th' := by
  refine ⟨hA.trans h.own, hrr, fun j hj => ?_, hu, fun a b ha hb hab k hk => ?_⟩
  · show Row w' 79 2 (upd f.V i V' j) (upd q i l' j).length (thF (upd q i l' j) th')
    by_cases e : j = i
    · subst e; rw [upd_same, upd_same]; exact hrow
    · rw [upd_other _ _ e, upd_other _ _ e]; exact hoth j hj e
  · show (upd f.V i V' b).ownBlock ≠ some k
    have hk' : (upd f.V i V' a).ownBlock = some k := hk
    by_cases ea : a = i
    · subst ea
      rw [upd_same] at hk'
      rw [upd_other _ _ (fun e => hab e.symm)]
      rcases hap k hk' with e | e
      · exact h.apart a b ha hb hab k e
      · exact e b hb
    · rw [upd_other _ _ ea] at hk'
      by_cases eb : b = i
      · subst eb
        rw [upd_same]
        intro e
        rcases hap k e with e2 | e2
        · exact h.apart a b ha hb hab k hk' e2
        · exact e2 a ha hk'
      · rw [upd_other _ _ eb]
        exact h.apart a b ha hb hab k hk'

set_option maxRecDepth 100000 in
set_option maxHeartbeats 1000000 in
theorem rclear_yes (h : RefAt w f nr room q th) (hq : Qk nr room q) {i : Nat} (hi : i < nr) :
    Calls Try.prog 43 #[.pointer (some ⟨f.A, 0, none⟩), .int .i64 i] w fun e w' => e = .returned (.int .i64 (q i).length) ∧ ∃ f', RefAt w' f' nr room (upd q i []) th ∧ RStp w f w' f' nr := by
  have hlen := hq.len hi
  have hb : (i : Int) < (nr : Int) := by omega
  obtain ⟨ao, c, hV, hat⟩ := h.form hi
  go_enter Try.func43, Try.ntmps43
  go_wp2_with fail
  refine (rlen_yes h hi).mono ?_
  rintro e w1 ⟨rfl, rfl⟩
  go_wp2_with fail
  go_loopw [6] (fun v wr => ∃ k : Nat, k ≤ (q i).length ∧ v = .int .i64 k ∧ Mv w1 wr (fun b => b = f.U) ∧ Row wr 4 1 (.slice (some ⟨f.U, 0, none⟩) room room) room (fun j => .bool (ud q nr i k j))) (fun v _ => (q i).length - (intOf v).toNat)
  case atStart => exact ⟨0, by omega, rfl, Mv.refl _ _, h.used.congr (fun j _ => by rw [ud_zero])⟩
  case round =>
    obtain ⟨k, hk, rfl, hm, hu⟩ := hrel
    have bl : ∀ {b : Nat} {t : TypeId} {c : Array Value} {z : Nat × Nat}, w1.heap[b]? = some (.cells c t z) → t ≠ 4 → wr.heap[b]? = w1.heap[b]? := fun e ht => hm.block _ (Array.getElem?_eq_some_iff.1 e).1 (h.neU e ht)
    have eA : wr.heap[f.A]? = w1.heap[f.A]? := bl h.own (by decide)
    have oA := eA.trans h.own
    have c0 : wr.cell? ⟨f.A, 0, none⟩ = some (.slice (some ⟨f.RR, 0, none⟩) nr nr) := (own_cell oA).1
    have c2 : wr.cell? ⟨f.A, 2, none⟩ = some (.slice (some ⟨f.U, 0, none⟩) room room) := (own_cell oA).1
    have hrr : Row wr 73 1 (.slice (some ⟨f.RR, 0, none⟩) nr nr) nr f.V := h.rows.of_block (fun b hb => by obtain ⟨c, z, e⟩ := h.rows.kind b hb; exact bl e (by decide))
    have hv : wr.cell? ⟨f.RR, i, none⟩ = some (f.V i) := hrr.cell (by omega)
    have fzr := hrr.frozen i
    rw [hV] at hv
    have hrw : ∀ j, j < nr → Row wr 79 2 (f.V j) (q j).length (thF (q j) th) := fun j hj => (h.row j hj).of_block (fun b hb => by obtain ⟨c, z, e⟩ := (h.row j hj).kind b hb; exact bl e (by decide))
    by_cases hlt : k < (q i).length
    · obtain ⟨g, rfl⟩ := hat (by omega)
      have hri := hrw i hi
      rw [hV] at hri
      obtain ⟨t0, _⟩ := thF_cells hri hlt
      obtain ⟨n, hn, hvn⟩ := nth_lt hlt
      rw [hvn] at t0
      have hnr := hq.below i n hi (some_mem hn)
      have cu := hu.cell (j := n) (by omega)
      have fu := hu.frozen n
      have hb2 : (k : Int) < ((q i).length : Int) := by omega
      have hb3 : (n : Int) < (room : Int) := by omega
      have m1 : Mv wr (wr.setCell ⟨f.U, n, none⟩ (.bool false)) (fun b => b = f.U) := (Mv.refl wr (fun b => b = f.U)).setCell (a := ⟨f.U, n, none⟩) (Or.inl (rfl : f.U = f.U)) _
      have HR : Hid (Mv w1 (wr.setCell ⟨f.U, n, none⟩ (.bool false)) (fun b => b = f.U) ∧ Row (wr.setCell ⟨f.U, n, none⟩ (.bool false)) 4 1 (.slice (some ⟨f.U, 0, none⟩) room room) room (fun j => .bool (ud q nr i (k + 1) j))) :=
        ⟨hm.trans m1 (fun b e => .inl e), (hu.set n _).congr (fun j _ => by rw [ud_succ nr hn]; split <;> rfl)⟩
      clear m1 bl hrw
      go_wp2_with fail
      go_region
      go_wp2_with fail
      go_round
      case rel => exact ⟨k + 1, by omega, by go_num, HR.out.1.drew, HR.out.2⟩
      case measure => simp [intOf]; omega
    · have hke : k = (q i).length := by omega
      have hb2 : ¬ (k : Int) < ((q i).length : Int) := by omega
      have hus : Row wr 4 1 (.slice (some ⟨f.U, 0, none⟩) room room) room (fun j => .bool (sn (upd q i []) nr j)) := hu.congr (fun j _ => by rw [hke, ud_full hq hi])
      by_cases hz : 0 < (q i).length
      · have hb3 : (0 : Int) < ((q i).length : Int) := by omega
        have m1 : Mv wr (wr.setCell ⟨f.RR, i, none⟩ (.slice none 0 0)) (fun b => b = f.RR) := (Mv.refl wr (fun b => b = f.RR)).setCell (a := ⟨f.RR, i, none⟩) (Or.inl (rfl : f.RR = f.RR)) _
        have bl2 : ∀ {b : Nat} {t : TypeId} {c : Array Value} {z : Nat × Nat}, w1.heap[b]? = some (.cells c t z) → t ≠ 73 → (wr.setCell ⟨f.RR, i, none⟩ (.slice none 0 0)).heap[b]? = wr.heap[b]? := fun e ht => Below.heap_setCell _ _ _ _ (h.neRR e ht)
        have HR : Hid (RefAt (wr.setCell ⟨f.RR, i, none⟩ (.slice none 0 0)) { f with V := upd f.V i (.slice none 0 0) } nr room (upd q i []) th) := by
          refine h.next hi ((bl2 h.own (by decide)).trans eA) ((hrr.set i _).congr (fun j _ => by unfold upd; split <;> rfl)) (hus.of_block (fun b hb => ?_)) (Row.nil _ _ _ _) (fun j hj hji => (hrw j hj).of_block (fun b hb => ?_)) (fun b hb => by cases hb)
          · obtain ⟨c, z, e⟩ := h.used.kind b hb
            exact bl2 e (by decide)
          · obtain ⟨c, z, e⟩ := (h.row j hj).kind b hb
            exact bl2 e (by decide)
        have HS : Hid (RStp w1 f (wr.setCell ⟨f.RR, i, none⟩ (.slice none 0 0)) { f with V := upd f.V i (.slice none 0 0) } nr) := by
          refine ⟨rfl, (hm.mono (F' := RFoot f nr) (fun b e => by rw [e]; exact .inr (.inr (.inl rfl)))).trans m1 (fun b e => .inl (by rw [e]; exact .inr (.inl rfl))), ?_⟩
          rintro b (e | e | e | ⟨j, hj, e⟩)
          · exact .inl (.inl e)
          · exact .inl (.inr (.inl e))
          · exact .inl (.inr (.inr (.inl e)))
          · have e' : (upd f.V i (.slice none 0 0) j).ownBlock = some b := e
            by_cases ej : j = i
            · subst ej; rw [upd_same] at e'; cases e'
            · rw [upd_other _ _ ej] at e'
              exact .inl (.inr (.inr (.inr ⟨j, hj, e'⟩)))
        clear bl bl2 m1 hrw hus
        go_wp2_with fail
        go_ret
        exact ⟨rfl, _, HR.out, HS.out⟩
      · have hb3 : ¬ (0 : Int) < ((q i).length : Int) := by omega
        have hq0 : q i = [] := List.length_eq_zero_iff.1 (by omega)
        have hself : upd q i [] = q := by rw [← hq0]; exact upd_self q i
        have HR : Hid (RefAt wr f nr room (upd q i []) th) := by
          show RefAt wr f nr room (upd q i []) th
          rw [hself] at hus ⊢
          exact ⟨oA, hrr, hrw, hus, h.apart⟩
        clear bl hrw hus hself hq0
        go_wp2_with fail
        go_ret
        exact ⟨rfl, f, HR.out, ⟨rfl, hm.mono (fun b e => by rw [e]; exact .inr (.inr (.inl rfl))), fun _ hk => .inl hk⟩⟩
theorem rclear_no (h : RefAt w f nr room q th) {i : Int} (hi : i < 0 ∨ (nr : Int) ≤ i) :
    Calls Try.prog 43 #[.pointer (some ⟨f.A, 0, none⟩), .int .i64 i] w fun e w' => e = .returned (.int .i64 0) ∧ w' = w := by
  go_enter Try.func43, Try.ntmps43
  go_wp2_with fail
  refine (rlen_no h hi).mono ?_
  rintro e w1 ⟨rfl, rfl⟩
  go_wp2_with fail
  go_loop [6] (fun v => v = .int .i64 0) (fun _ => 0)
  case atStart => rfl
  case round =>
    subst hrel
    go_wp2_with fail
    go_ret
    exact ⟨rfl, rfl⟩

end Go.Proofs.Ythkdmjbdcnaklaa
