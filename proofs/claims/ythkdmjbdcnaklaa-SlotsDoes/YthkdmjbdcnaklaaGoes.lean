/-
  The walk of goes: All tells a row, whole, within itself, and left early.
-/
import Derived.Test.YthkdmjbdcnaklaaLkR
import Derived.Laws.EntriesVeiled
namespace Go.Proofs.Ythkdmjbdcnaklaa
open Go.RowKit Go.Shelf
set_option linter.unusedVariables false
attribute [local go_sem] Oper.semAt_some

/-- The cells of a row of things, as the document's own answer lays them. -/
def thF (l : List Nat) (th : Nat → Int) (j : Nat) : Value := if j % 2 = 0 then .int .i64 (nth l (j / 2)) else .int .i64 (th (nth l (j / 2)).toNat)
theorem thF_cells {W : World} {l : List Nat} {th : Nat → Int} {g c : Nat} (h : Row W 79 2 (.slice (some ⟨g, 0, none⟩) l.length c) l.length (thF l th)) {k : Nat} (hk : k < l.length) :
    W.cell? ⟨g, k * 2, none⟩ = some (.int .i64 (nth l k)) ∧ W.cell? ⟨g, k * 2 + 1, none⟩ = some (.int .i64 (th (nth l k).toNat)) := by
  constructor
  · rw [h.cell (by omega)]; unfold thF; rw [if_pos (by omega), show k * 2 / 2 = k by omega]
  · rw [h.cell (by omega)]; unfold thF; rw [if_neg (by omega), show (k * 2 + 1) / 2 = k by omega]

/-- What holds between two rounds that count in one box. -/
structure IC (W0 : World) (Bk k : Nat) (W : World) : Prop where
  mv : Mv W0 W (fun b => b = Bk)
  cnt : Boxed W Bk 3 (.int .i64 (k : Nat))
theorem ic_own (W0 : World) (Bk : Nat) : OwnFrom W0.heap.size (fun (pre : List Nat) W => pre = List.range pre.length ∧ IC W0 Bk pre.length W) := by
  intro pre W W' row hs hg hr
  obtain ⟨hp, h⟩ := hs
  exact ⟨hp, h.mv.grown hg (fun k e => .inr (hr k e).1), boxed_own Bk 3 (fun (_ : Unit) => _) () W W' row h.cnt hg (fun x e => (hr x e).2)⟩
theorem keeps_one {W W' : World} {Bk : Nat} {v : Value} (m : Mv W W' (fun b => b = Bk)) (hb : Boxed W Bk 3 v) (B : Nat) : KeepsFrom B W W' :=
  keeps_mv m B (fun k e o ho => by subst e; rw [show W.heap[k]? = _ from hb] at ho; cases ho; rfl)
theorem mv_own (W0 : World) : OwnFrom W0.heap.size (fun (pre : List Nat) W => pre = [] ∧ Mv W0 W (fun _ => False)) := by
  intro pre W W' row hs hg hr
  exact ⟨hs.1, hs.2.grown hg (fun k e => .inr (hr k e).1)⟩
theorem range_next {pre : List Nat} {k : Nat} (h : pre = List.range k) : pre ++ [k] = List.range (pre ++ [k]).length ∧ (pre ++ [k]).length = k + 1 := by
  have e2 : pre.length = k := by rw [h]; simp
  refine ⟨?_, by simp [e2]⟩
  rw [List.length_append, e2, List.length_singleton, List.range_succ, ← h]
theorem asked_len {w : World} {p : Pl} {nr : Nat} {room : Int} {q : Nat → List Nat} {th : Nat → Int} {row : Int} {l : List Nat} (h : RepI w p nr room q th) (ha : Asked nr q row l) : l.length ≤ 65536 := by
  rcases ha.ex with ⟨i, rfl, hi, rfl⟩ | ⟨hr, rfl⟩
  · have h1 := h.bound
    have h2 := total_ge q i nr hi
    omega
  · simp

theorem ix_own (W0 : World) (Bz : Nat) (l : List Nat) (c : Code) : OwnFrom W0.heap.size (fun (pre : List Nat) Y => (c = .ret ∧ ∃ x, pre = [x] ∧ Boxed Y Bz 4 (.bool (nth l x == nth l 0))) ∧ Mv W0 Y (fun b => b = Bz)) := by
  intro pre W W' row hs hg hr
  obtain ⟨⟨hc, x, hx, hb⟩, m⟩ := hs
  exact ⟨⟨hc, x, hx, boxed_own Bz 4 (fun (_ : Unit) => _) () W W' row hb hg (fun y e => (hr y e).2)⟩, m.grown hg (fun k e => .inr (hr k e).1)⟩
theorem result42 (tmps : Array Value) (W : World) (a : Addr) (h : tmps[6]?.getD undef = .pointer (some a)) (hc : W.cell? a = some (.bool true)) : (results Try.f42 tmps).run Try.prog W = .ok (.bool true) W := by
  simp [results, go_sem, h, hc]

set_option maxRecDepth 1000000 in
set_option maxHeartbeats 8000000 in
theorem goes_any (w : World) (p : Pl) (nr : Nat) (room : Int) (q : Nat → List Nat) (th : Nat → Int) (row : Int) (l : List Nat) (hR : RepI w p nr room q th) (ha : Asked nr q row l)
    (wv : Option Addr) (wc : Nat) (hw : Row w 79 2 (.slice wv l.length wc) l.length (thF l th)) :
    Calls Try.prog 42 #[.pointer (some ⟨p.A, 0, none⟩), .int .i64 row, .slice wv l.length wc] w fun e w' => e = .returned (.bool true) ∧ Mv w w' (fun _ => False) := by
  have hll := asked_len hR ha
  have hnd := ha.nodup hR
  refine (callsIn_wide (n := 3)).1 (callsIn_of_wp_marks Try.func42 rfl trivial ?_ rfl)
  refine wpIn_wide.2 ?_
  simp only [Try.ntmps42, List.size_toArray, List.length_cons, List.length_nil, Nat.reduceAdd, Nat.reduceSub, Array.replicate_succ, Array.replicate_zero, List.push_toArray, List.append_toArray, List.nil_append, List.cons_append]
  obtain ⟨B0, hB0⟩ : ∃ x, w.heap.size = x := ⟨_, rfl⟩
  have cL := all_any ⟨p.A, 0, none⟩ row ((w.alloc (.cells #[.slice wv l.length wc] 73)).alloc (.cells #[.bool false] 4))
  go_wp2_with fail
  refine cL.mono ?_
  rintro e w1 ⟨rfl, hw1⟩
  have s1 : w1.heap.size = B0 + 4 := by rw [hw1]; simp [hB0]
  have m1 : Mv w w1 (fun _ => False) := by rw [hw1]; exact ((((Mv.refl w _).alloc _).alloc _).alloc _).alloc _
  have x0 : Boxed w1 B0 73 (.slice wv l.length wc) := by rw [hw1, ← hB0]; exact (((Boxed.new w 73 _).alloc _).alloc _).alloc _
  have x1 : Boxed w1 (B0 + 1) 4 (.bool false) := by
    have := ((Boxed.new (w.alloc (.cells #[.slice wv l.length wc] 73)) 4 (.bool false)).alloc (.cells #[.pointer (some ⟨p.A, 0, none⟩)] 24)).alloc (.cells #[.int .i64 row] 3)
    rw [World.size_alloc, hB0] at this
    rw [hw1]; exact this
  have x2 : Boxed w1 (B0 + 2) 24 (.pointer (some ⟨p.A, 0, none⟩)) := by
    have := (Boxed.new ((w.alloc (.cells #[.slice wv l.length wc] 73)).alloc (.cells #[.bool false] 4)) 24 (.pointer (some ⟨p.A, 0, none⟩))).alloc (.cells #[.int .i64 row] 3)
    rw [World.size_alloc, World.size_alloc, hB0] at this
    rw [hw1]; exact this
  have x3 : Boxed w1 (B0 + 3) 3 (.int .i64 row) := by
    have := Boxed.new (((w.alloc (.cells #[.slice wv l.length wc] 73)).alloc (.cells #[.bool false] 4)).alloc (.cells #[.pointer (some ⟨p.A, 0, none⟩)] 24)) 3 (.int .i64 row)
    rw [World.size_alloc, World.size_alloc, World.size_alloc, hB0] at this
    rw [hw1]; exact this
  rw [show ((w.alloc (.cells #[.slice wv l.length wc] 73)).alloc (.cells #[.bool false] 4)).heap.size = B0 + 2 by simp [hB0]]
  clear hw1 cL
  rw [show B0 + 2 + 1 = B0 + 3 from rfl]
  have y4 : Boxed (w1.alloc (.cells #[.nilFunc] 49)) (B0 + 4) 49 .nilFunc := by have := Boxed.new w1 49 .nilFunc; rwa [s1] at this
  have c4 := y4.cell
  have f4 := y4.frozen
  have hcmp : ∀ W : World, (binOp .eql 49 (.func (.func 50) #[] #[.pointer (some ⟨B0 + 2, 0, none⟩), .pointer (some ⟨B0 + 3, 0, none⟩)]) .nilFunc).run Try.prog W = .ok (.bool false) W := fun W => by kernel_rfl
  have x4 : Boxed (w1.alloc (.cells #[.func (.func 50) #[] #[.pointer (some ⟨B0 + 2, 0, none⟩), .pointer (some ⟨B0 + 3, 0, none⟩)]] 49)) (B0 + 4) 49 (.func (.func 50) #[] #[.pointer (some ⟨B0 + 2, 0, none⟩), .pointer (some ⟨B0 + 3, 0, none⟩)]) := by have := Boxed.new w1 49 (.func (.func 50) #[] #[.pointer (some ⟨B0 + 2, 0, none⟩), .pointer (some ⟨B0 + 3, 0, none⟩)]); rwa [s1] at this
  have c4' := x4.cell
  obtain ⟨W0, hW0⟩ : ∃ W, (w1.alloc (.cells #[.func (.func 50) #[] #[.pointer (some ⟨B0 + 2, 0, none⟩), .pointer (some ⟨B0 + 3, 0, none⟩)]] 49)).alloc (.cells #[.int .i64 0] 3) = W := ⟨_, rfl⟩
  have s0 : W0.heap.size = B0 + 6 := by rw [← hW0]; simp [s1]
  have m0 : Mv w W0 (fun _ => False) := by rw [← hW0]; exact (m1.alloc _).alloc _
  have z0 : Boxed W0 B0 73 (.slice wv l.length wc) := by rw [← hW0]; exact (x0.alloc _).alloc _
  have z1 : Boxed W0 (B0 + 1) 4 (.bool false) := by rw [← hW0]; exact (x1.alloc _).alloc _
  have z2 : Boxed W0 (B0 + 2) 24 (.pointer (some ⟨p.A, 0, none⟩)) := by rw [← hW0]; exact (x2.alloc _).alloc _
  have z3 : Boxed W0 (B0 + 3) 3 (.int .i64 row) := by rw [← hW0]; exact (x3.alloc _).alloc _
  have z4 : Boxed W0 (B0 + 4) 49 (.func (.func 50) #[] #[.pointer (some ⟨B0 + 2, 0, none⟩), .pointer (some ⟨B0 + 3, 0, none⟩)]) := by rw [← hW0]; exact x4.alloc _
  have z5 : Boxed W0 (B0 + 5) 3 (.int .i64 0) := by have := Boxed.new (w1.alloc (.cells #[.func (.func 50) #[] #[.pointer (some ⟨B0 + 2, 0, none⟩), .pointer (some ⟨B0 + 3, 0, none⟩)]] 49)) 3 (.int .i64 0); rw [World.size_alloc, s1, hW0] at this; exact this
  have HW0 : Hid (_ = W0) := hW0
  clear x0 x1 x2 x3 hW0
  go_wp2_with fail
  rw [show B0 + 4 + 1 = B0 + 5 from rfl, HW0.out]
  clear HW0 hcmp c4 f4 c4' y4 x4
  have hR0 : RepI W0 p nr room q th := hR.quiet m0
  have hKK : ∀ k, (Foot p k ∨ k = B0 + 2 ∨ k = B0 + 3) → k < B0 + 5 := fun k hk => by
    rcases hk with e | e | e
    · have := hR.lt k e; omega
    · omega
    · omega
  have hrow : ∀ W : World, (∀ b, b < B0 → W.heap[b]? = W0.heap[b]?) → Row W 79 2 (.slice wv l.length wc) l.length (thF l th) := fun W hW =>
    (m0.row hw (fun _ _ e => e)).of_block (fun b hb => hW b (by have := hw.lt b hb; omega))
  refine (wpIn_wide (n := 12)).1 ?_
  refine wpIn_rangeFunc_ownH rfl (by omega) (gf := 50) (lb := #[.pointer (some ⟨B0 + 2, 0, none⟩), .pointer (some ⟨B0 + 3, 0, none⟩)]) rfl trivial (enters_of Try.func50 (by kernel_rfl) rfl)
    (all_stops 11 (by omega) (B0 + 2) (B0 + 3) p nr room q th row l ha W0 hR0 z2.cell z3.cell)
    (fun h k => h.trans k) ?hKb (Below.refl _ _) (fun _ => rfl)
    (fun pre W => pre = List.range pre.length ∧ IC W0 (B0 + 5) pre.length W)
    (fun _ pre _ => ¬ pre <+: List.range l.length)
    (ic_own _ _) (fun c => ownFrom_pure _ _) ⟨rfl, Mv.refl _ _, z5⟩ (fun x a' _ => a' = { tmps := #[.pointer (some ⟨p.A, 0, none⟩), .int .i64 row, .slice wv l.length wc, undef, undef, .pointer (some ⟨B0, 0, none⟩), .pointer (some ⟨B0 + 1, 0, none⟩), .pointer (some ⟨B0 + 4, 0, none⟩), .pointer (some ⟨B0 + 5, 0, none⟩), .int .i64 (nth l x), .int .i64 (th (nth l x).toNat), undef, undef, undef, undef, .pointer (some ⟨p.A, 0, none⟩), .int .i64 row, .func (.func 50) #[] #[.pointer (some ⟨B0 + 2, 0, none⟩), .pointer (some ⟨B0 + 3, 0, none⟩)], .func (.func 50) #[] #[.pointer (some ⟨B0 + 2, 0, none⟩), .pointer (some ⟨B0 + 3, 0, none⟩)], .bool false, .func (.func 50) #[] #[.pointer (some ⟨B0 + 2, 0, none⟩), .pointer (some ⟨B0 + 3, 0, none⟩)], .int .i64 (nth l x), .int .i64 (th (nth l x).toNat), undef, undef, undef, undef, undef, undef, undef, undef, undef, undef, undef, undef, undef, undef, undef, undef, undef, undef, undef, undef, undef, undef, undef, undef, undef, undef, undef, undef, undef, undef, undef, undef, undef, undef, undef, undef, undef, undef, undef, undef, undef, undef, undef, undef, undef, undef, undef, undef, undef, undef, undef, undef, undef, undef, undef, undef, undef, undef, undef, undef, undef, undef, undef, undef, undef, undef, undef, undef, undef, undef, undef, undef, undef, undef, undef, undef, undef, undef], defers := [] }) (fun _ _ _ _ _ _ hs _ _ => hs) ?assign ?body ?done ?stop
  case hKb =>
    intro W b o o' hb _ _ _
    exact ⟨by simp, fun k hk => World.putObj_heap_other (by have := hKK k hk; omega)⟩
  case assign =>
    rintro lo pre x W K hi hK
    unfold encA
    gi_wp2
    exact hK _ _ (KeepsFrom.refl _ _) (Kps.refl _ _) hi rfl
  case body =>
    rintro lo pre x a' W hl ⟨rr, hrr⟩ ⟨hp, hic⟩ hax hlen
    subst hax
    have HP : Hid (pre = List.range pre.length) := hp
    clear hp
    have low : ∀ b, b < B0 + 5 → W.heap[b]? = W0.heap[b]? := fun b hb => hic.mv.block b (by omega) (fun e => by omega)
    have b0 : Boxed W B0 73 (.slice wv l.length wc) := (low _ (by omega)).trans z0
    have b1 : Boxed W (B0 + 1) 4 (.bool false) := (low _ (by omega)).trans z1
    have b4 : Boxed W (B0 + 4) 49 (.func (.func 50) #[] #[.pointer (some ⟨B0 + 2, 0, none⟩), .pointer (some ⟨B0 + 3, 0, none⟩)]) := (low _ (by omega)).trans z4
    have hwW := hrow W (fun b hb => low b (by omega))
    obtain ⟨g, hg⟩ : ∃ g, wv = some ⟨g, 0, none⟩ := by
      obtain ⟨ao, c, e, h1, _⟩ := hw.form
      cases e
      exact h1 (by omega)
    subst hg
    obtain ⟨k, hk⟩ : ∃ k, pre.length = k := ⟨_, rfl⟩
    have HK : Hid (pre = List.range k) := by have := HP.out; rw [hk] at this; exact this
    rw [hk] at hic hlen
    have c0 := b0.cell
    have c1 := b1.cell
    have f1 := b1.frozen
    have c5 := hic.cnt.cell
    have f5 := hic.cnt.frozen
    obtain ⟨d0, d1⟩ := thF_cells hwW hlen
    have hlk : ¬ (l.length : Int) ≤ (k : Int) := by omega
    have hlk2 : (k : Int) < (l.length : Int) := by omega
    by_cases hx : x = k
    · subst hx
      have m1 : Mv W (W.setCell ⟨B0 + 5, 0, none⟩ (.int .i64 ((x : Int) + 1))) (fun b => b = B0 + 5) := (Mv.refl W (fun b => b = B0 + 5)).setCell (a := ⟨B0 + 5, 0, none⟩) (Or.inl (rfl : B0 + 5 = B0 + 5)) _
      have b5 := hic.cnt.set (.int .i64 ((x : Int) + 1))
      have c51 := b5.cell
      have e1 : ((x + 1 : Nat) : Int) = (x : Int) + 1 := by omega
      by_cases h2 : x = 1
      · have h2' : ((x : Int) + 1 == 2) = true := by rw [h2]; rfl
        clear h2
        have hsW := hic.mv.size
        obtain ⟨Bm, hBm⟩ : ∃ b, W.heap.size = b := ⟨_, rfl⟩
        obtain ⟨W2, hW2⟩ : ∃ V, (W.setCell ⟨B0 + 5, 0, none⟩ (.int .i64 ((x : Int) + 1))).alloc (.cells #[.int .i64 0] 3) = V := ⟨_, rfl⟩
        have m2 : Mv W W2 (fun b => b = B0 + 5) := by rw [← hW2]; exact m1.alloc _
        have s2 : W2.heap.size = Bm + 1 := by rw [← hW2]; simp [hBm]
        have a5 : Boxed W2 (B0 + 5) 3 (.int .i64 ((x : Int) + 1)) := by rw [← hW2]; exact b5.alloc _
        have am : Boxed W2 Bm 3 (.int .i64 0) := by
          have := Boxed.new (W.setCell ⟨B0 + 5, 0, none⟩ (.int .i64 ((x : Int) + 1))) 3 (.int .i64 0)
          rw [show (W.setCell ⟨B0 + 5, 0, none⟩ (.int .i64 ((x : Int) + 1))).heap.size = Bm by simp [hBm], hW2] at this
          exact this
        have lowA : ∀ b, b < B0 + 5 → W2.heap[b]? = W0.heap[b]? := fun b hb => (m2.block b (by omega) (fun e => by omega)).trans (low b hb)
        have a4 : Boxed W2 (B0 + 4) 49 (.func (.func 50) #[] #[.pointer (some ⟨B0 + 2, 0, none⟩), .pointer (some ⟨B0 + 3, 0, none⟩)]) := (lowA _ (by omega)).trans z4
        have a4c := a4.cell
        have hrr2 : W2.heap[lo]? = some (.loop rr) := (m2.block lo (Array.getElem?_eq_some_iff.1 hrr).1 (fun e => by omega)).trans hrr
        have hRW : RepI W2 p nr room q th := hR0.kps (fun b hb => lowA b (hKK b (.inl hb)))
        have a2 : Boxed W2 (B0 + 2) 24 (.pointer (some ⟨p.A, 0, none⟩)) := (lowA _ (by omega)).trans z2
        have a3 : Boxed W2 (B0 + 3) 3 (.int .i64 row) := (lowA _ (by omega)).trans z3
        have HW2 : Hid (_ = W2) := hW2
        have b5c : (W.setCell ⟨B0 + 5, 0, none⟩ (.int .i64 ((x : Int) + 1))).cell? ⟨B0 + 4, 0, none⟩ = some (.func (.func 50) #[] #[.pointer (some ⟨B0 + 2, 0, none⟩), .pointer (some ⟨B0 + 3, 0, none⟩)]) := (World.cell?_of_block (m1.block (B0 + 4) (by omega) (fun e => by omega))).trans b4.cell
        have bAc : ((W.setCell ⟨B0 + 5, 0, none⟩ (.int .i64 ((x : Int) + 1))).alloc (.cells #[.int .i64 0] 3)).cell? ⟨B0 + 4, 0, none⟩ = some (.func (.func 50) #[] #[.pointer (some ⟨B0 + 2, 0, none⟩), .pointer (some ⟨B0 + 3, 0, none⟩)]) := by rw [hW2]; exact a4c
        clear hW2
        gi_wp2
        rw [HW2.out]
        refine wpIn_rangeFunc_ownN (l₀ := lo) (r₀ := rr) rfl hrr2 (by omega) (gf := 50) (lb := #[.pointer (some ⟨B0 + 2, 0, none⟩), .pointer (some ⟨B0 + 3, 0, none⟩)]) rfl trivial (enters_of Try.func50 (by kernel_rfl) rfl)
          ((all_stops 9 (by omega) (B0 + 2) (B0 + 3) p nr room q th row l ha W2 hRW a2.cell a3.cell).inRound lo)
          (fun h k => h.trans k) ?hKb2 (Below.refl _ _) (fun _ => rfl)
          (fun pre W => pre = List.range pre.length ∧ IC W2 Bm pre.length W)
          (fun _ pre _ => ¬ pre <+: List.range l.length)
          (ic_own _ _) (fun c => ownFrom_pure _ _) ⟨rfl, Mv.refl _ _, am⟩ (fun y a' _ => ∃ (v23 v24 v25 v26 v27 v28 v29 v30 v31 v32 v33 v34 v35 v36 v37 v38 v39 v40 v41 v42 v43 v44 v45 v46 v47 v48 v49 : Value), a' = { tmps := #[.pointer (some ⟨p.A, 0, none⟩), .int .i64 row, .slice (some ⟨g, 0, none⟩) l.length wc, undef, undef, .pointer (some ⟨B0, 0, none⟩), .pointer (some ⟨B0 + 1, 0, none⟩), .pointer (some ⟨B0 + 4, 0, none⟩), .pointer (some ⟨B0 + 5, 0, none⟩), .int .i64 (nth l x), .int .i64 (th (nth l x).toNat), .pointer (some ⟨Bm, 0, none⟩), .int .i64 (nth l y), .int .i64 (th (nth l y).toNat), undef, .pointer (some ⟨p.A, 0, none⟩), .int .i64 row, .func (.func 50) #[] #[.pointer (some ⟨B0 + 2, 0, none⟩), .pointer (some ⟨B0 + 3, 0, none⟩)], .func (.func 50) #[] #[.pointer (some ⟨B0 + 2, 0, none⟩), .pointer (some ⟨B0 + 3, 0, none⟩)], .bool false, .func (.func 50) #[] #[.pointer (some ⟨B0 + 2, 0, none⟩), .pointer (some ⟨B0 + 3, 0, none⟩)], .int .i64 (nth l x), .int .i64 (th (nth l x).toNat), v23, v24, v25, v26, v27, v28, v29, v30, v31, v32, v33, v34, v35, v36, v37, v38, v39, v40, v41, v42, v43, v44, v45, v46, v47, v48, v49, .int .i64 (nth l y), .int .i64 (th (nth l y).toNat), undef, undef, undef, undef, undef, undef, undef, undef, undef, undef, undef, undef, undef, undef, undef, undef, undef, undef, undef, undef, undef, undef, undef, undef, undef, undef, undef, undef, undef, undef, undef, undef, undef, undef, undef, undef, undef, undef, undef, undef, undef, undef, undef, undef, undef, undef, undef, undef, undef], defers := [] }) (fun _ _ _ _ _ _ hs _ _ => hs) ?assign2 ?body2 ?done2 ?stop2
        case hKb2 =>
          intro Y b o o' hb _ _ _
          exact ⟨by simp, fun k hk => World.putObj_heap_other (by have := hKK k hk; omega)⟩
        case assign2 =>
          rintro lo2 pre2 y Y K hi hK
          unfold encA
          gi_wp2
          exact hK _ _ (KeepsFrom.refl _ _) (Kps.refl _ _) hi ⟨_, _, _, _, _, _, _, _, _, _, _, _, _, _, _, _, _, _, _, _, _, _, _, _, _, _, _, rfl⟩
        case body2 =>
          rintro lo2 pre2 y a' Y hl2 _ ⟨hp2, hic2⟩ hax hlen2
          obtain ⟨v23, hax⟩ := hax
          obtain ⟨v24, hax⟩ := hax
          obtain ⟨v25, hax⟩ := hax
          obtain ⟨v26, hax⟩ := hax
          obtain ⟨v27, hax⟩ := hax
          obtain ⟨v28, hax⟩ := hax
          obtain ⟨v29, hax⟩ := hax
          obtain ⟨v30, hax⟩ := hax
          obtain ⟨v31, hax⟩ := hax
          obtain ⟨v32, hax⟩ := hax
          obtain ⟨v33, hax⟩ := hax
          obtain ⟨v34, hax⟩ := hax
          obtain ⟨v35, hax⟩ := hax
          obtain ⟨v36, hax⟩ := hax
          obtain ⟨v37, hax⟩ := hax
          obtain ⟨v38, hax⟩ := hax
          obtain ⟨v39, hax⟩ := hax
          obtain ⟨v40, hax⟩ := hax
          obtain ⟨v41, hax⟩ := hax
          obtain ⟨v42, hax⟩ := hax
          obtain ⟨v43, hax⟩ := hax
          obtain ⟨v44, hax⟩ := hax
          obtain ⟨v45, hax⟩ := hax
          obtain ⟨v46, hax⟩ := hax
          obtain ⟨v47, hax⟩ := hax
          obtain ⟨v48, hax⟩ := hax
          obtain ⟨v49, hax⟩ := hax
          subst hax
          have HP2 : Hid (pre2 = List.range pre2.length) := hp2
          clear hp2
          have lowY : ∀ b, b < B0 + 5 → Y.heap[b]? = W0.heap[b]? := fun b hb => (hic2.mv.block b (by omega) (fun e => by omega)).trans (lowA b hb)
          have t0 : Boxed Y B0 73 (.slice (some ⟨g, 0, none⟩) l.length wc) := (lowY _ (by omega)).trans z0
          have t1 : Boxed Y (B0 + 1) 4 (.bool false) := (lowY _ (by omega)).trans z1
          have hwY := hrow Y (fun b hb => lowY b (by omega))
          obtain ⟨j, hj⟩ : ∃ j, pre2.length = j := ⟨_, rfl⟩
          have HK2 : Hid (pre2 = List.range j) := by have := HP2.out; rw [hj] at this; exact this
          rw [hj] at hic2 hlen2
          have ct0 := t0.cell
          have ct1 := t1.cell
          have ft1 := t1.frozen
          have cm := hic2.cnt.cell
          have fm := hic2.cnt.frozen
          obtain ⟨g0, g1⟩ := thF_cells hwY hlen2
          have hlj : ¬ (l.length : Int) ≤ (j : Int) := by omega
          have hlj2 : (j : Int) < (l.length : Int) := by omega
          by_cases hy : y = j
          · subst hy
            have mm : Mv Y (Y.setCell ⟨Bm, 0, none⟩ (.int .i64 ((y : Int) + 1))) (fun b => b = Bm) := (Mv.refl Y (fun b => b = Bm)).setCell (a := ⟨Bm, 0, none⟩) (Or.inl (rfl : Bm = Bm)) _
            have bm := hic2.cnt.set (.int .i64 ((y : Int) + 1))
            have hszY := hic2.mv.size
            have HE : Hid (KeepsFrom W2.heap.size Y (Y.setCell ⟨Bm, 0, none⟩ (.int .i64 ((y : Int) + 1))) ∧ Kps (fun k => Foot p k ∨ k = B0 + 2 ∨ k = B0 + 3) Y (Y.setCell ⟨Bm, 0, none⟩ (.int .i64 ((y : Int) + 1))) ∧ IC W2 Bm (y + 1) (Y.setCell ⟨Bm, 0, none⟩ (.int .i64 ((y : Int) + 1)))) := by
              refine ⟨(KeepsOthers.setCell _ _ _).from _, ⟨mm.size, fun b hb => mm.block b (by have := hKK b hb; omega) (fun e => by have := hKK b hb; omega)⟩, hic2.mv.trans mm (fun b e => .inl e), ?_⟩
              have e2 : ((y + 1 : Nat) : Int) = (y : Int) + 1 := by omega
              rw [e2]; exact bm
            clear mm bm hic2 lowY hwY t0 t1
            gi_wp2
            obtain ⟨e1, e2, e3⟩ := HE.out
            exact ⟨by first | exact e1 | (rw [← s2]; exact e1), e2, (range_next HK2.out).1, by rw [(range_next HK2.out).2]; exact e3⟩
          · have hne := nth_ne hnd hlen2 hy
            have hb : (nth l y != nth l j) = true := bne_iff_ne.2 hne
            gi_wp2
            exact ⟨(KeepsOthers.setCell _ _ _).from _, not_prefix (by rw [hj]; exact hy)⟩
        case done2 =>
          rintro ys Y rfl ⟨_, hic2⟩
          rw [List.length_range] at hic2
          have lowY : ∀ b, b < B0 + 5 → Y.heap[b]? = W0.heap[b]? := fun b hb => (hic2.mv.block b (by omega) (fun e => by omega)).trans (lowA b hb)
          have t0 : Boxed Y B0 73 (.slice (some ⟨g, 0, none⟩) l.length wc) := (lowY _ (by omega)).trans z0
          have ct0 := t0.cell
          have cm := hic2.cnt.cell
          have HE : Hid (KeepsFrom W0.heap.size W Y ∧ Kps (fun k => Foot p k ∨ k = B0 + 2 ∨ k = B0 + 3) W Y ∧ IC W0 (B0 + 5) (x + 1) Y) := by
            have hszY := hic2.mv.size
            have mY : Mv W Y (fun b => b = B0 + 5) := m2.trans hic2.mv (fun b e => .inr (by omega))
            refine ⟨keeps_one mY hic.cnt _, ⟨mY.size, fun b hb => mY.block b (by have := hKK b hb; omega) (fun e => by have := hKK b hb; omega)⟩, hic.mv.trans mY (fun b e => .inl e), ?_⟩
            have e2 : ((x + 1 : Nat) : Int) = (x : Int) + 1 := by omega
            rw [e2]
            exact (hic2.mv.block _ (by omega) (fun e => by omega)).trans a5
          clear hic2 lowY
          gi_wp2
          obtain ⟨e1, e2, e3⟩ := HE.out
          exact ⟨by first | exact e1 | (rw [← s0]; exact e1), e2, (range_next HK.out).1, by rw [(range_next HK.out).2]; exact e3⟩
        case stop2 =>
          intro c pre2 Y h1 h2
          exact absurd h1 h2
      · have h2' : ((x : Int) + 1 == 2) = false := beq_false_of_ne (by omega)
        have HE : Hid (KeepsFrom W0.heap.size W (W.setCell ⟨B0 + 5, 0, none⟩ (.int .i64 ((x : Int) + 1))) ∧ Kps (fun k => Foot p k ∨ k = B0 + 2 ∨ k = B0 + 3) W (W.setCell ⟨B0 + 5, 0, none⟩ (.int .i64 ((x : Int) + 1))) ∧ IC W0 (B0 + 5) (x + 1) (W.setCell ⟨B0 + 5, 0, none⟩ (.int .i64 ((x : Int) + 1)))) := by
          have hsz := hic.mv.size
          refine ⟨(KeepsOthers.setCell _ _ _).from _, ⟨m1.size, fun b hb => m1.block b (by have := hKK b hb; omega) (fun e => by have := hKK b hb; omega)⟩, hic.mv.trans m1 (fun b e => .inl e), ?_⟩
          rw [e1]; exact b5
        clear m1 b5 hic low hwW b0 b1 b4 e1
        gi_wp2
        obtain ⟨e1, e2, e3⟩ := HE.out
        exact ⟨by rw [← s0]; exact e1, e2, (range_next HK.out).1, by rw [(range_next HK.out).2]; exact e3⟩
    · have hne := nth_ne hnd hlen hx
      have hb : (nth l x != nth l k) = true := bne_iff_ne.2 hne
      gi_wp2
      exact ⟨(KeepsOthers.setCell _ _ _).from _, not_prefix (by rw [hk]; exact hx)⟩
  case done =>
    rintro D xs W hD rfl ⟨_, hic⟩ hK
    rw [List.length_range] at hic
    have hsW := hic.mv.size
    have low : ∀ b, b < B0 + 5 → W.heap[b]? = W0.heap[b]? := fun b hb => hic.mv.block b (by omega) (fun e => by omega)
    have b0 : Boxed W B0 73 (.slice wv l.length wc) := (low _ (by omega)).trans z0
    have b1 : Boxed W (B0 + 1) 4 (.bool false) := (low _ (by omega)).trans z1
    have b2 : Boxed W (B0 + 2) 24 (.pointer (some ⟨p.A, 0, none⟩)) := (low _ (by omega)).trans z2
    have b3 : Boxed W (B0 + 3) 3 (.int .i64 row) := (low _ (by omega)).trans z3
    have b4 : Boxed W (B0 + 4) 49 (.func (.func 50) #[] #[.pointer (some ⟨B0 + 2, 0, none⟩), .pointer (some ⟨B0 + 3, 0, none⟩)]) := (low _ (by omega)).trans z4
    have hwW := hrow W (fun b hb => low b (by omega))
    have hRW : RepI W p nr room q th := hR0.kps (fun b hb => low b (hKK b (.inl hb)))
    have c0 := b0.cell
    have c4 := b4.cell
    have c5 := hic.cnt.cell
    have mW : Mv w W (fun _ => False) := m0.trans hic.mv (fun b e => .inr (by omega))
    have hDlt := (Array.getElem?_eq_some_iff.1 hK).1
    have HD : Hid (W.heap[D]? = some (.deferred (some []))) := hK
    clear hK hic
    have hend : ∀ (D2 : Nat) (Y : World) (tm : Array Value), W.heap.size ≤ D2 → Y.heap[D2]? = some (.deferred (some [])) → Mv W Y (fun b => b = B0 + 1) → Boxed Y (B0 + 1) 4 (.bool true) → tm[6]?.getD undef = .pointer (some ⟨B0 + 1, 0, none⟩) →
        LeavesInM Fence.wide 3 Try.prog Try.f42 tm (fun e w' => e = Ending.returned (Value.bool true) ∧ Mv w w' (fun _ => False)) ([D2, D].map mark) .returning Y := by
      intro D2 Y tm hD2 hK2 mY bz htm
      refine leaves_marks (v := .bool true) [D2, D] Y ?_ ?_ ?_
      · simp; omega
      · intro D' hD'
        simp at hD'
        rcases hD' with rfl | rfl
        · exact hK2
        · exact (mY.block _ hDlt (fun e => by omega)).trans HD.out
      · intro W' m
        have bz' : Boxed W' (B0 + 1) 4 (.bool true) := (m.block _ bz.lt (fun e => by simp at e; omega)).trans bz
        refine ⟨result42 _ _ _ htm bz'.cell, rfl, (mW.trans mY (fun b e => .inr (by omega))).trans m (fun b e => .inr (by simp at e; omega))⟩
    go_wp2_with fail
    refine (wpIn_wide (n := 12)).1 ?_
    refine wpIn_rangeFunc_ownH rfl (by omega) (gf := 50) (lb := #[.pointer (some ⟨B0 + 2, 0, none⟩), .pointer (some ⟨B0 + 3, 0, none⟩)]) rfl trivial (enters_of Try.func50 (by kernel_rfl) rfl)
      (all_stops 11 (by omega) (B0 + 2) (B0 + 3) p nr room q th row l ha W hRW b2.cell b3.cell)
      (fun h k => h.trans k) ?hKb3 (Below.refl _ _) (fun _ => rfl)
      (fun pre Y => pre = [] ∧ Mv W Y (fun _ => False))
      (fun c pre Y => (c = .ret ∧ ∃ x, pre = [x] ∧ Boxed Y (B0 + 1) 4 (.bool (nth l x == nth l 0))) ∧ Mv W Y (fun b => b = B0 + 1))
      (mv_own _) (fun c => ix_own W (B0 + 1) l c) ⟨rfl, Mv.refl _ _⟩ (fun x a' _ => ∃ (v80 v81 v82 v83 v84 : Value), a' = { tmps := #[.pointer (some ⟨p.A, 0, none⟩), .int .i64 row, .slice wv l.length wc, undef, undef, .pointer (some ⟨B0, 0, none⟩), .pointer (some ⟨B0 + 1, 0, none⟩), .pointer (some ⟨B0 + 4, 0, none⟩), .pointer (some ⟨B0 + 5, 0, none⟩), undef, undef, undef, undef, undef, .int .i64 (nth l x), .pointer (some ⟨p.A, 0, none⟩), .int .i64 row, .func (.func 50) #[] #[.pointer (some ⟨B0 + 2, 0, none⟩), .pointer (some ⟨B0 + 3, 0, none⟩)], .func (.func 50) #[] #[.pointer (some ⟨B0 + 2, 0, none⟩), .pointer (some ⟨B0 + 3, 0, none⟩)], .bool false, .func (.func 50) #[] #[.pointer (some ⟨B0 + 2, 0, none⟩), .pointer (some ⟨B0 + 3, 0, none⟩)], undef, undef, undef, undef, undef, undef, undef, undef, undef, undef, undef, undef, undef, undef, undef, undef, undef, undef, undef, undef, undef, undef, undef, undef, undef, undef, undef, undef, undef, undef, undef, undef, undef, undef, undef, undef, undef, undef, undef, undef, undef, undef, undef, undef, undef, undef, undef, undef, undef, undef, undef, undef, undef, undef, undef, undef, undef, undef, undef, v80, v81, v82, v83, v84, .int .i64 (nth l x), .int .i64 (th (nth l x).toNat), undef, undef, undef, undef, undef, undef, undef, undef, undef, undef, undef, undef, undef, undef], defers := [] }) (fun _ _ _ _ _ _ hs _ _ => hs) ?assign3 ?body3 ?done3 ?stop3
    case hKb3 =>
      intro Y b o o' hb _ _ _
      exact ⟨by simp, fun k hk => World.putObj_heap_other (by have := hKK k hk; omega)⟩
    case assign3 =>
      rintro lo pre x Y K hi hK
      unfold encA
      gi_wp2
      exact hK _ _ (KeepsFrom.refl _ _) (Kps.refl _ _) hi ⟨_, _, _, _, _, rfl⟩
    case body3 =>
      rintro lo pre x a' Y hl _ ⟨rfl, mY⟩ hax hlen
      obtain ⟨v80, hax⟩ := hax
      obtain ⟨v81, hax⟩ := hax
      obtain ⟨v82, hax⟩ := hax
      obtain ⟨v83, hax⟩ := hax
      obtain ⟨v84, hax⟩ := hax
      subst hax
      have t0 : Boxed Y B0 73 (.slice wv l.length wc) := (mY.block _ (by omega) (fun e => e)).trans b0
      have t1 : Boxed Y (B0 + 1) 4 (.bool false) := (mY.block _ (by omega) (fun e => e)).trans b1
      have hwY := mY.row hwW (fun _ _ e => e)
      obtain ⟨g, hg⟩ : ∃ g, wv = some ⟨g, 0, none⟩ := by
        obtain ⟨ao, c, e, h1, _⟩ := hw.form
        cases e
        exact h1 (by simpa using hlen)
      subst hg
      have hl0 : 0 < l.length := by simpa using hlen
      have ct0 := t0.cell
      have ct1 := t1.cell
      have ft1 := t1.frozen
      obtain ⟨g0, g1⟩ := thF_cells hwY hl0
      rw [Nat.zero_mul] at g0
      have hlz : (0 : Int) < (l.length : Int) := by omega
      gi_wp2
      exact ⟨(KeepsOthers.setCell _ _ _).from _, ⟨rfl, x, rfl, t1.set _⟩, ((mY.mono (F' := fun b => b = B0 + 1) (fun _ e => e.elim)).setCell (a := ⟨B0 + 1, 0, none⟩) (Or.inl (rfl : B0 + 1 = B0 + 1)) _)⟩
    case done3 =>
      rintro D2 xs Y hD2 rfl ⟨hnil, mY⟩ hK2
      have hl0 : l.length = 0 := by have := congrArg List.length hnil; simpa using this
      have t0 : Boxed Y B0 73 (.slice wv l.length wc) := (mY.block _ (by omega) (fun e => e)).trans b0
      have t1 : Boxed Y (B0 + 1) 4 (.bool false) := (mY.block _ (by omega) (fun e => e)).trans b1
      have ct0 := t0.cell
      have ct1 := t1.cell
      have ft1 := t1.frozen
      rw [hl0] at ct0
      have HK2 : Hid (Y.heap[D2]? = some (.deferred (some []))) := hK2
      clear hK2 hnil
      go_wp2_with fail
      refine hend D2 _ _ hD2 ?_ ((mY.mono (F' := fun b => b = B0 + 1) (fun _ e => e.elim)).setCell (a := ⟨B0 + 1, 0, none⟩) (Or.inl (rfl : B0 + 1 = B0 + 1)) _) (t1.set _) rfl
      rw [Below.heap_setCell _ _ _ _ (by show D2 ≠ B0 + 1; omega)]
      exact HK2.out
    case stop3 =>
      rintro D2 c pre Y hD2 hpre ⟨⟨rfl, x, rfl, bz⟩, mY⟩ hK2
      have hx0 : x = 0 := by
        obtain ⟨r, hr⟩ := hpre
        cases hlc : l.length with
        | zero => rw [hlc] at hr; simp at hr
        | succ m => rw [hlc, List.range_succ_eq_map] at hr; simp at hr; exact hr.1
      subst hx0
      rw [show (nth l 0 == nth l 0) = true from beq_self_eq_true _] at bz
      gi_wp2
      exact hend D2 Y _ hD2 hK2 mY bz rfl
  case stop =>
    intro D c pre W _ h1 h2 _
    exact absurd h1 h2
end Go.Proofs.Ythkdmjbdcnaklaa
