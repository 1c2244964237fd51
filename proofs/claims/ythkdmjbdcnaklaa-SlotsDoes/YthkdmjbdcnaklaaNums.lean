/-
  Walks of the freed numbers' own calls: Len, Less, Swap, Push.
-/
import Derived.Test.YthkdmjbdcnaklaaMv
import Derived.BigRegion
import Derived.Deep.Cut
import Derived.Deep.AppendLies
import Derived.Deep.RegionLaw
namespace Go.Proofs.Ythkdmjbdcnaklaa
open Go.RowKit

theorem mv_drewN (w : World) (n : Nat) (F : Nat → Prop) : Mv w (w.drewN n) F := ⟨rfl, rfl, rfl, Nat.le_refl _, fun _ _ _ => rfl⟩

theorem len_any (fa : Option Addr) (n c : Nat) (w : World) : Calls Try.prog 81 #[.slice fa n c] w fun e w' => e = .returned (.int .i64 n) ∧ w' = w := by
  go_enter Try.func81, Try.ntmps81
  go_wp2_with fail
  go_ret
  exact ⟨rfl, rfl⟩

theorem less_any {g n c : Nat} {f : Nat → Int} {w : World} (h : Row w 3 1 (.slice (some ⟨g, 0, none⟩) n c) n (fun j => .int .i64 (f j))) (i j : Nat) (hi : i < n) (hj : j < n) :
    Calls Try.prog 82 #[.slice (some ⟨g, 0, none⟩) n c, .int .i64 i, .int .i64 j] w fun e w' => e = .returned (.bool (decide (f i < f j))) ∧ Mv w w' (fun _ => False) := by
  have ci := h.cell (j := i) (by omega)
  have cj := h.cell (j := j) (by omega)
  go_enter Try.func82, Try.ntmps82
  go_wp2_with fail
  go_quiet (fail)
  go_wp2_with fail
  go_ret
  exact ⟨rfl, mv_drewN _ _ _⟩

theorem swap_ne {g n c : Nat} {f : Nat → Int} {w : World} (h : Row w 3 1 (.slice (some ⟨g, 0, none⟩) n c) n (fun j => .int .i64 (f j))) (i j : Nat) (hi : i < n) (hj : j < n) (hij : i ≠ j) :
    Calls Try.prog 83 #[.slice (some ⟨g, 0, none⟩) n c, .int .i64 i, .int .i64 j] w fun e w' => e = .returned (.tuple #[]) ∧ Row w' 3 1 (.slice (some ⟨g, 0, none⟩) n c) n (fun k => .int .i64 (swp f i j k)) ∧ Mv w w' (fun k => k = g) := by
  have ci := h.cell (j := i) (by omega)
  have cj := h.cell (j := j) (by omega)
  have fi := h.frozen i
  have fj := h.frozen j
  have ci' : (w.setCell ⟨g, i, none⟩ (.int .i64 (f j))).cell? ⟨g, j, none⟩ = some (.int .i64 (f j)) := by
    rw [(h.set i _).cell (by omega)]; simp [Ne.symm hij]
  have cj' : (w.setCell ⟨g, j, none⟩ (.int .i64 (f i))).cell? ⟨g, i, none⟩ = some (.int .i64 (f i)) := by
    rw [(h.set j _).cell (by omega)]; simp [hij]
  go_enter Try.func83, Try.ntmps83
  go_wp2_with fail
  go_region
  go_wp2_with fail
  go_end0
  refine ⟨rfl, ?_, (((Mv.refl w (fun k => k = g)).setCell (a := ⟨g, i, none⟩) (Or.inl (rfl : g = g)) _).setCell (a := ⟨g, j, none⟩) (Or.inl (rfl : g = g)) _).drew⟩
  refine Row.congr ((h.set i (.int .i64 (f j))).set j (.int .i64 (f i))) (fun k _ => ?_)
  unfold swp
  by_cases k1 : k = i
  · subst k1; rw [if_neg hij, if_pos rfl, if_pos rfl]
  · by_cases k2 : k = j
    · rw [if_pos k2, if_neg k1, if_pos k2]
    · rw [if_neg k2, if_neg k1, if_neg k1, if_neg k2]

theorem swap_eq {g n c : Nat} {f : Nat → Int} {w : World} (h : Row w 3 1 (.slice (some ⟨g, 0, none⟩) n c) n (fun j => .int .i64 (f j))) (i : Nat) (hi : i < n) :
    Calls Try.prog 83 #[.slice (some ⟨g, 0, none⟩) n c, .int .i64 i, .int .i64 i] w fun e w' => e = .returned (.tuple #[]) ∧ Row w' 3 1 (.slice (some ⟨g, 0, none⟩) n c) n (fun k => .int .i64 (swp f i i k)) ∧ Mv w w' (fun k => k = g) := by
  have ci := h.cell (j := i) (by omega)
  have fi := h.frozen i
  have ci' : (w.setCell ⟨g, i, none⟩ (.int .i64 (f i))).cell? ⟨g, i, none⟩ = some (.int .i64 (f i)) := by
    rw [(h.set i _).cell (by omega)]; simp
  go_enter Try.func83, Try.ntmps83
  go_wp2_with fail
  go_region
  go_wp2_with fail
  go_end0
  refine ⟨rfl, ?_, ?_⟩
  · first
      | refine Row.congr ((h.set i (.int .i64 (f i))).set i (.int .i64 (f i))) (fun k _ => ?_)
        unfold swp
        by_cases k1 : k = i
        · subst k1; simp
        · simp [k1]
      | refine Row.congr (h.set i (.int .i64 (f i))) (fun k _ => ?_)
        unfold swp
        by_cases k1 : k = i
        · subst k1; simp
        · simp [k1]
  · exact (((Mv.refl w (fun k => k = g)).setCell (a := ⟨g, i, none⟩) (Or.inl (rfl : g = g)) _).setCell (a := ⟨g, i, none⟩) (Or.inl (rfl : g = g)) _).drew

theorem swap_any {g n c : Nat} {f : Nat → Int} {w : World} (h : Row w 3 1 (.slice (some ⟨g, 0, none⟩) n c) n (fun j => .int .i64 (f j))) (i j : Nat) (hi : i < n) (hj : j < n) :
    Calls Try.prog 83 #[.slice (some ⟨g, 0, none⟩) n c, .int .i64 i, .int .i64 j] w fun e w' => e = .returned (.tuple #[]) ∧ Row w' 3 1 (.slice (some ⟨g, 0, none⟩) n c) n (fun k => .int .i64 (swp f i j k)) ∧ Mv w w' (fun k => k = g) := by
  by_cases hij : i = j
  · subst hij; exact swap_eq h i hi
  · exact swap_ne h i j hi hj hij

theorem Try.info3 : (Try.prog.info? 3).map (fun i => (i.zero, i.size, i.bytes)) = some (some (.int .i64 0), 1, 8) := by kernel_rfl

/-- Behind 'append' of one number to the freed ones. -/
theorem nums_after {w : World} {A : Nat} {tA : TypeId} {c0 c1 c2 : Value} {fa : Option Addr} {fc n : Nat} {f : Nat → Int} (h : Fd w A tA c0 c1 c2 fa fc n f) {x : Int} {g' fc' : Nat} {w' : World}
    (hown : w'.ownsRow 0 3 1 (.slice (some ⟨g', 0, none⟩) (n + 1) fc') (n + 1) ((List.range (n * 1)).map (fun j => .int .i64 (f j)) ++ [.int .i64 x]))
    (hgr : (w.alloc (.cells #[.int .i64 x] 3)).drew.grownBy w' (Value.slice fa n fc).ownBlock) (hlies : (Value.slice fa n fc).ownBlock = some g' ∨ g' = w.heap.size + 1) :
      w'.cell? ⟨A, 3, none⟩ = some (.slice fa n fc) ∧ w'.frozen? ⟨A, 3, none⟩ = false ∧
      Fd (w'.setCell ⟨A, 3, none⟩ (.slice (some ⟨g', 0, none⟩) (n + 1) fc')) A tA c0 c1 c2 (some ⟨g', 0, none⟩) fc' (n + 1) (snocF n f x) ∧
      Mv w (w'.setCell ⟨A, 3, none⟩ (.slice (some ⟨g', 0, none⟩) (n + 1) fc')) (Ft A fa) ∧ (fa.map (·.block) = some g' ∨ w.heap.size ≤ g') := by
  have hrow : Row w' 3 1 (.slice (some ⟨g', 0, none⟩) (n + 1) fc') (n + 1) (fun j => .int .i64 (snocF n f x j)) := by
    refine (Row.snoc (x := fun _ => .int .i64 x) hown rfl (by intro j hj; obtain rfl : j = 0 := by omega
                                                              rfl)).congr (fun j _ => ?_)
    unfold snocF
    simp only [Nat.mul_one]
    split <;> rfl
  have hAlt : A < (w.alloc (.cells #[.int .i64 x] 3)).drew.heap.size := by
    have := h.ltA
    show A < (w.heap.push _).size
    simp; omega
  have hneA : some A ≠ (Value.slice fa n fc).ownBlock := by
    rw [h.ownBlock]
    exact fun e => h.neB A e.symm rfl
  have hA' : w'.heap[A]? = some (.cells #[c0, c1, c2, .slice fa n fc] tA (0, 0)) := by
    rw [hgr.block A hAlt hneA]
    exact (Below.heap_alloc w _ A h.ltA).trans h.own
  have hm : Mv w w' (Ft A fa) := ((Mv.refl w (Ft A fa)).alloc _).drew.grown hgr (fun k hk => .inl (.inr (by rw [h.ownBlock] at hk; exact hk)))
  have hgA : g' ≠ A := by
    rintro rfl
    obtain ⟨c, fz, h1⟩ := hrow.kind g' rfl
    rw [hA'] at h1
    simp at h1
    exact h.ty h1.2.1
  refine ⟨(own_cell hA').1, (own_cell hA').2, ⟨?_, hrow.of_block (fun k hk => ?_), h.ty⟩, hm.setCell (.inl (.inl rfl)) _, ?_⟩
  · rw [heap_setCell_same w' A 3 _ tA _ hA']; rfl
  · exact Below.heap_setCell _ _ _ _ (by simp [Value.ownBlock] at hk; subst hk; exact hgA)
  · rcases hlies with hl | hl
    · left; rwa [h.ownBlock] at hl
    · right; omega

theorem mPush (a : Addr) (w : World) : (method 215 83 (.pointer (some a)) "Push").run Try.prog w = .ok (85, .pointer (some a)) w := by kernel_rfl
theorem mPop (a : Addr) (w : World) : (method 215 83 (.pointer (some a)) "Pop").run Try.prog w = .ok (84, .pointer (some a)) w := by kernel_rfl
theorem mLen (a : Addr) (w : World) (v : Value) (h : w.cell? a = some v) : (method 215 83 (.pointer (some a)) "Len").run Try.prog w = .ok (81, v) w := by
  have e : (method 215 83 (.pointer (some a)) "Len").run Try.prog w = ((load a) >>= fun v => pure (81, v) : Sem (FuncId × Value)).run Try.prog w := by kernel_rfl
  rw [e]
  simp [h]
theorem mLess (a : Addr) (w : World) (v : Value) (h : w.cell? a = some v) : (method 215 83 (.pointer (some a)) "Less").run Try.prog w = .ok (82, v) w := by
  have e : (method 215 83 (.pointer (some a)) "Less").run Try.prog w = ((load a) >>= fun v => pure (82, v) : Sem (FuncId × Value)).run Try.prog w := by kernel_rfl
  rw [e]
  simp [h]
theorem mSwap (a : Addr) (w : World) (v : Value) (h : w.cell? a = some v) : (method 215 83 (.pointer (some a)) "Swap").run Try.prog w = .ok (83, v) w := by
  have e : (method 215 83 (.pointer (some a)) "Swap").run Try.prog w = ((load a) >>= fun v => pure (83, v) : Sem (FuncId × Value)).run Try.prog w := by kernel_rfl
  rw [e]
  simp [h]
theorem assertInt (x : Int) (w : World) : (Instr.typeAssert (.iface 3 (.int .i64 x)) 20 3 false).run Try.prog w = .ok (.int .i64 x) w := by kernel_rfl

theorem one_new (w : World) (x : Int) : ∀ j u, [Value.int .i64 x][j]? = some u → (w.alloc (.cells #[.int .i64 x] 3)).drew.cell? ((⟨w.heap.size, 0, none⟩ : Addr).add j) = some u := by
  intro j u hu
  have hh : (w.alloc (.cells #[.int .i64 x] 3)).drew.heap[w.heap.size]? = some (.cells #[.int .i64 x] 3 (0, 0)) := heap_alloc_new w _
  exact World.news_of_block hh j u (by simpa using hu)

theorem npush_any {w : World} {A : Nat} {tA : TypeId} {c0 c1 c2 : Value} {fa : Option Addr} {fc n : Nat} {f : Nat → Int} (h : Fd w A tA c0 c1 c2 fa fc n f) (x : Int) (hn : n ≤ 1000000) :
    Calls Try.prog 85 #[.pointer (some ⟨A, 3, none⟩), .iface 3 (.int .i64 x)] w fun e w' => e = .returned (.tuple #[]) ∧ ∃ g' fc', Fd w' A tA c0 c1 c2 (some ⟨g', 0, none⟩) fc' (n + 1) (snocF n f x) ∧ Mv w w' (Ft A fa) ∧ (fa.map (·.block) = some g' ∨ w.heap.size ≤ g') := by
  obtain ⟨i0, hi, hz0, hz1, hz2⟩ := info_parts Try.info3
  have h3 := h.cell
  have hta := assertInt x
  have h3a : (w.alloc (.cells #[.int .i64 x] 3)).cell? ⟨A, 3, none⟩ = some (.slice fa n fc) := (World.cell?_of_block (Below.heap_alloc w _ A h.ltA)).trans h3
  have hr0 : Row (w.alloc (.cells #[.int .i64 x] 3)).drew 3 1 (.slice fa n fc) n (fun j => .int .i64 (f j)) := h.row.alloc _
  have hnew := one_new w x
  have hone : ∀ u ∈ [Value.int .i64 x], u.oneCell' = true := by intro u hu; simp at hu; subst hu; rfl
  have hmx : n + 1 ≤ maxLen := by simp only [maxLen]; omega
  have hsz : (w.alloc (.cells #[.int .i64 x] 3)).drew.heap.size = w.heap.size + 1 := by show (w.heap.push _).size = _; simp
  go_enter Try.func85, Try.ntmps85
  go_wp2_with fail
  go_region_law (refine step_append_lies _ rfl (.tmp 7) (.tmp 10) 57 rfl 0 3 i0 (.int .i64 0) 1 8 Try.underlying57 hi hz0 hz1 hz2 rfl (by decide) (.slice fa n fc) n _ (by simp [Act.eval]) hr0 ⟨w.heap.size, 0, none⟩ 1 1 [.int .i64 x] (by simp [Act.eval]) rfl hnew hone (by decide) hmx (by omega) (Nat.zero_le _) (w.heap.size + 1) hsz ?_; intro g' fc' w' hown hgr hlies _; obtain ⟨hc, hf, hFd, hMv, hg⟩ := nums_after h hown hgr hlies)
  all_goals go_wp2_with fail
  all_goals go_end0
  all_goals exact ⟨rfl, g', fc', hFd, hMv, hg⟩

end Go.Proofs.Ythkdmjbdcnaklaa
