/-
  Walks of container/heap.up, container/heap.Push and the arena's add.
-/
import Derived.Test.YthkdmjbdcnaklaaNums
namespace Go.Proofs.Ythkdmjbdcnaklaa
open Go.RowKit

theorem Fd.of_row {w w' : World} {A : Nat} {tA : TypeId} {c0 c1 c2 : Value} {g fc n : Nat} {f f' : Nat → Int} (h : Fd w A tA c0 c1 c2 (some ⟨g, 0, none⟩) fc n f)
    (hr : Row w' 3 1 (.slice (some ⟨g, 0, none⟩) n fc) n (fun k => .int .i64 (f' k))) (m : Mv w w' (fun k => k = g)) : Fd w' A tA c0 c1 c2 (some ⟨g, 0, none⟩) fc n f' :=
  ⟨(m.block A h.ltA (fun e => h.ne e.symm)).trans h.own, hr, h.ty⟩

set_option maxRecDepth 100000 in
theorem up_any {w : World} {A : Nat} {tA : TypeId} {c0 c1 c2 : Value} {g fc n : Nat} {f : Nat → Int} (h : Fd w A tA c0 c1 c2 (some ⟨g, 0, none⟩) fc n f) (j0 : Nat) (hj0 : j0 < n) (hn : n ≤ 1000001) (hb : HeapBut n f j0) :
    Calls Try.prog 58 #[.iface 83 (.pointer (some ⟨A, 3, none⟩)), .int .i64 j0] w fun e w' => e = .returned (.tuple #[]) ∧
      ∃ f', Fd w' A tA c0 c1 c2 (some ⟨g, 0, none⟩) fc n f' ∧ Heap n f' ∧ (∀ x, Mem n f' x ↔ Mem n f x) ∧ (Inj n f → Inj n f') ∧ Mv w w' (fun k => k = g) := by
  go_enter Try.func58, Try.ntmps58
  go_wp2_with fail
  go_loopw [1, 4] (fun vj _ wr => ∃ (j : Nat) (f' : Nat → Int), vj = .int .i64 j ∧ j < n ∧ HeapBut n f' j ∧ Fd wr A tA c0 c1 c2 (some ⟨g, 0, none⟩) fc n f' ∧ (∀ x, Mem n f' x ↔ Mem n f x) ∧ (Inj n f → Inj n f') ∧ Mv w wr (fun k => k = g)) (fun vj _ _ => (intOf vj).toNat)
  case atStart => exact ⟨j0, f, rfl, hj0, hb, h, fun _ => Iff.rfl, id, Mv.refl _ _⟩
  case round =>
    obtain ⟨j, f', rfl, hj, hbut, hfd, hmem, hinj, hmv⟩ := hrel
    have hcell := hfd.cell
    have hless := mLess _ _ _ hcell
    have hswap := fun W (e : W.cell? ⟨A, 3, none⟩ = some (.slice (some ⟨g, 0, none⟩) n fc)) => mSwap _ W _ e
    by_cases hz : j = 0
    · subst hz
      go_wp2_with fail
      go_end0
      exact ⟨rfl, f', hfd, up_end hbut (.inl rfl), hmem, hinj, hmv⟩
    · obtain ⟨i, hi⟩ : ∃ i, (j - 1) / 2 = i := ⟨_, rfl⟩
      have hq : ((j : Int) - 1).tdiv 2 = (i : Int) := by
        rw [Int.tdiv_eq_ediv_of_nonneg (by omega)]; omega
      have hne : ((i : Int) == (j : Int)) = false := beq_false_of_ne (by omega)
      have HB : Hid ((j - 1) / 2 = i) := hi
      have HBut : Hid (HeapBut n f' j) := hbut
      have hin : i < n := by omega
      clear hi hbut
      by_cases hlt : f' j < f' i
      · have hd : decide (f' j < f' i) = true := decide_eq_true hlt
        go_wp2_with fail
        refine (less_any hfd.row j i hj hin).mono ?_
        rintro e w1 ⟨rfl, hm1⟩
        have hfd1 := hfd.mv hm1 (fun e => e) (fun _ _ e => e)
        have hcell1 := hfd1.cell
        have hswap1 := mSwap _ _ _ hcell1
        go_wp2_with fail
        refine (swap_any hfd1.row i j hin hj).mono ?_
        rintro e w2 ⟨rfl, hr2, hm2⟩
        go_wp2_with fail
        go_round
        case rel =>
          refine ⟨i, swp f' i j, by go_num, hin, ?_, hfd1.of_row hr2 hm2, fun x => (mem_swp hin hj x).trans (hmem x), fun k => inj_swp hin hj (hinj k), ?_⟩
          · have := up_step HBut.out (by omega) hj (by rw [HB.out]; exact hlt)
            rwa [HB.out] at this
          · exact (hmv.trans hm1 (fun _ e => e.elim)).trans hm2 (fun b e => .inl e)
        case measure => simp [intOf]; have := HB.out; omega
      · have hd : decide (f' j < f' i) = false := decide_eq_false hlt
        go_wp2_with fail
        refine (less_any hfd.row j i hj hin).mono ?_
        rintro e w1 ⟨rfl, hm1⟩
        go_wp2_with fail
        go_end0
        refine ⟨rfl, f', hfd.mv hm1 (fun e => e) (fun _ _ e => e), up_end HBut.out (.inr (by rw [HB.out]; omega)), hmem, hinj, hmv.trans hm1 (fun _ e => e.elim)⟩

/-- A heap of distinct numbers. -/
structure Hp (n : Nat) (f : Nat → Int) : Prop where
  inj : Inj n f
  heap : Heap n f

set_option maxRecDepth 100000 in
theorem hpush_any {w : World} {A : Nat} {tA : TypeId} {c0 c1 c2 : Value} {fa : Option Addr} {fc n : Nat} {f : Nat → Int} (h : Fd w A tA c0 c1 c2 fa fc n f) (x : Int) (hn : n ≤ 1000000) (hp : Hp n f) (hx : ¬ Mem n f x) :
    Calls Try.prog 56 #[.iface 83 (.pointer (some ⟨A, 3, none⟩)), .iface 3 (.int .i64 x)] w fun e w' => e = .returned (.tuple #[]) ∧
      ∃ g' fc' f', Fd w' A tA c0 c1 c2 (some ⟨g', 0, none⟩) fc' (n + 1) f' ∧ Hp (n + 1) f' ∧ (∀ y, Mem (n + 1) f' y ↔ Mem n f y ∨ y = x) ∧ Mv w w' (Ft A fa) ∧ (fa.map (·.block) = some g' ∨ w.heap.size ≤ g') := by
  have hpu := mPush ⟨A, 3, none⟩
  go_enter Try.func56, Try.ntmps56
  go_wp2_with fail
  refine (npush_any h x hn).mono ?_
  rintro e w1 ⟨rfl, g', fc', hfd, hm1, hg⟩
  have hcell := hfd.cell
  have hlen := mLen _ _ _ hcell
  go_wp2_with fail
  refine (len_any _ _ _ _).mono ?_
  rintro e w2 ⟨rfl, rfl⟩
  have h1 : ((n : Int) + 1) - 1 = n := by omega
  go_wp2_with fail
  refine (up_any hfd n (by omega) (by omega) (snoc_but x hp.heap)).mono ?_
  rintro e w3 ⟨rfl, f', hfd', hheap, hmem, hinj, hm3⟩
  go_wp2_with fail
  go_end0
  exact ⟨rfl, g', fc', f', hfd', ⟨hinj (inj_snoc x hp.inj hx), hheap⟩, fun y => (hmem y).trans (mem_snoc x y), hm1.trans hm3 (fun b e => by cases e; exact hg.elim (fun e => .inl (.inr e)) .inr), hg⟩

set_option maxRecDepth 100000 in
theorem add_any {w : World} {A : Nat} {tA : TypeId} {c0 c1 c2 : Value} {fa : Option Addr} {fc n : Nat} {f : Nat → Int} (h : Fd w A tA c0 c1 c2 fa fc n f) (x : Int) (hn : n ≤ 1000000) (hp : Hp n f) (hx : ¬ Mem n f x) :
    Calls Try.prog 49 #[.pointer (some ⟨A, 3, none⟩), .int .i64 x] w fun e w' => e = .returned (.tuple #[]) ∧
      ∃ g' fc' f', Fd w' A tA c0 c1 c2 (some ⟨g', 0, none⟩) fc' (n + 1) f' ∧ Hp (n + 1) f' ∧ (∀ y, Mem (n + 1) f' y ↔ Mem n f y ∨ y = x) ∧ Mv w w' (Ft A fa) ∧ (fa.map (·.block) = some g' ∨ w.heap.size ≤ g') := by
  go_enter Try.func49, Try.ntmps49
  go_wp2_with fail
  refine (hpush_any h x hn hp hx).mono ?_
  rintro e w1 ⟨rfl, hh⟩
  go_wp2_with fail
  go_end0
  exact ⟨rfl, hh⟩

end Go.Proofs.Ythkdmjbdcnaklaa
