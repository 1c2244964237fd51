/-
  What a text's tokens' numbers are; Expr.
-/
import Derived.Test.YtkfabnchhjfjjabGreatDoorRw1
namespace Go.Proofs.YtkfabnchhjfjjabGreatDoor
open Go.RowKit
theorem nbTy_rg : ∀ l : List UInt8, 0 ≤ nbTy l ∧ nbTy l ≤ 4
  | [] => by simp [nbTy]
  | c :: _ => by
    unfold nbTy
    repeat' split
    all_goals omega
theorem lx_rg {l : List UInt8} {k : Int} {n : Nat} {ty v : Int} (h : lx l = some (k, n, ty, v)) : 0 ≤ ty ∧ ty ≤ 4 ∧ 0 ≤ v ∧ v ≤ 9223372036854775807 := by
  unfold lx at h
  split at h
  · split at h
    · cases h
    · cases h; simp
  · split at h
    · split at h
      · cases h
      · split at h
        · cases h
        · rename_i hn
          split at h
          · cases h
          · cases h
            have := nbTy_rg (l.drop ‹Nat›)
            refine ⟨?_, ?_, by omega, by omega⟩
            · exact (nbTy_rg _).1
            · exact (nbTy_rg _).2
    · split at h
      · cases h
      · cases h; simp
theorem one_rg {s : ByteArray} {f : Nat} (hs : s.size ≤ 4096) (hf : f ≤ s.size) (h : oneE s f = 0) : RgT (oneT s f) := by
  obtain ⟨q0, q1, q2, _⟩ := one_fine s f hf h
  have hT : 0 ≤ (oneT s f).ty ∧ (oneT s f).ty ≤ 4 ∧ 0 ≤ (oneT s f).n ∧ (oneT s f).n ≤ 9223372036854775807 := by
    by_cases hp : oneP s f = s.size
    · unfold oneT
      rw [if_pos hp]
      simp
    · obtain ⟨e1, e2⟩ := one_lx s f hf hp
      rw [e2] at h
      rw [e1]
      unfold lxE at h
      unfold tkOf
      cases hx : lx (rest s (oneP s f)) with
      | none => rw [hx] at h; simp at h; split at h <;> first | omega | (split at h <;> omega)
      | some q =>
        obtain ⟨k, n, ty, v⟩ := q
        exact lx_rg hx
  exact ⟨by omega, by omega, by omega, by omega, by omega, by rw [q0]; omega, by rw [q0]; omega⟩
theorem beg_rg {s : ByteArray} (hs : s.size ≤ 4096) : ∀ (d f : Nat), s.size - f ≤ d → f ≤ s.size → ∀ t ∈ (begO s f).1, RgT t := by
  intro d
  induction d with
  | zero =>
    intro f h1 h2 t ht
    by_cases h : oneE s f = 0
    · by_cases hk : (oneT s f).k = 0
      · rw [beg_end h hk] at ht
        obtain rfl := List.mem_singleton.1 ht
        exact one_rg hs h2 h
      · obtain ⟨a1, a2, _, _⟩ := beg_more h2 h hk
        omega
    · rw [beg_bad h] at ht
      simp at ht
  | succ d ih =>
    intro f h1 h2 t ht
    by_cases h : oneE s f = 0
    · by_cases hk : (oneT s f).k = 0
      · rw [beg_end h hk] at ht
        obtain rfl := List.mem_singleton.1 ht
        exact one_rg hs h2 h
      · obtain ⟨a1, a2, _, a4⟩ := beg_more h2 h hk
        rw [a4] at ht
        rcases List.mem_cons.1 ht with rfl | ht
        · exact one_rg hs h2 h
        · exact ih _ (by omega) a2 t ht
    · rw [beg_bad h] at ht
      simp at ht
theorem rdT_rg (s : ByteArray) : ∀ t ∈ rdT s, RgT t := by
  intro t ht
  unfold rdT at ht
  by_cases hs : s.size > 4096
  · obtain ⟨h1, _, h3⟩ := tks_long hs
    rw [if_neg (by rw [h1]; decide)] at ht
    unfold allL at ht
    rw [if_pos hs] at ht
    simp at ht
  · have hb := beg_rg (s := s) (by omega) s.size 0 (by omega) (by omega)
    by_cases h0 : tksE s = 0
    · rw [if_pos h0] at ht
      unfold tksL at ht
      rw [if_pos h0] at ht
      exact hb t ht
    · rw [if_neg h0] at ht
      unfold allL at ht
      rw [if_neg hs] at ht
      unfold allF at ht
      split at ht
      · exact hb t (List.dropLast_subset _ ht)
      · exact hb t ht
theorem ErrAt.mv {w w' : World} {s call : ByteArray} {f : Ft} {F B : Nat} {cs : Array Value} {fr : Nat × Nat} (h : ErrAt w s call f F) (hB : w.heap[B]? = some (.cells cs 52 fr)) (k : ∀ j, j ≠ B → w'.heap[j]? = w.heap[j]?) : ErrAt w' s call f F := by
  have ne : ∀ {j : Nat} {c : Array Value}, w.heap[j]? = some (.cells c 77 (0, 0)) → j ≠ B := fun h e => by rw [e, hB] at h; cases h
  cases f with
  | tok no p => exact (k _ (ne h)).trans h
  | lex =>
    obtain ⟨fa, fe, h1, h2⟩ := h
    refine ⟨fa, fe, (k _ (ne h1)).trans h1, h2.1, fun e => ⟨(h2.2 e).1, ?_⟩⟩
    obtain ⟨F', e1, e2⟩ := (h2.2 e).2
    exact ⟨F', e1, (k _ (ne e2)).trans e2⟩
set_option maxRecDepth 100000 in
set_option maxHeartbeats 4000000 in
/-- Expr of a text. -/
theorem exprS_any (s : ByteArray) (hs : s.size ≤ 4194304) (w : World) (ht : Tab w) :
    Calls Tryz.prog 10 #[.string s] w (OutW s ⟨#[69, 120, 112, 114]⟩ w (gWhole s)) := by
  have b0 := below_new w (.cells #[.int .u8 0, .int .u8 0, .int .u8 0, .int .i64 0, .int .u8 0, .string ⟨#[]⟩, .slice none 0 0, .int .i64 0] 52)
  have cW := wholeN_any ⟨#[69, 120, 112, 114]⟩ s hs _ (ht.on b0) (rdT_rg s)
  have n0 := heap_new w (.cells #[.int .u8 0, .int .u8 0, .int .u8 0, .int .i64 0, .int .u8 0, .string ⟨#[]⟩, .slice none 0 0, .int .i64 0] 52)
  have s0 := size_alloc w (.cells #[.int .u8 0, .int .u8 0, .int .u8 0, .int .i64 0, .int .u8 0, .string ⟨#[]⟩, .slice none 0 0, .int .i64 0] 52)
  have H0 : Hid (Below w.heap.size w (w.alloc (.cells #[.int .u8 0, .int .u8 0, .int .u8 0, .int .i64 0, .int .u8 0, .string ⟨#[]⟩, .slice none 0 0, .int .i64 0] 52)) ∧ (w.alloc (.cells #[.int .u8 0, .int .u8 0, .int .u8 0, .int .i64 0, .int .u8 0, .string ⟨#[]⟩, .slice none 0 0, .int .i64 0] 52)).heap[w.heap.size]? = some (.cells #[.int .u8 0, .int .u8 0, .int .u8 0, .int .i64 0, .int .u8 0, .string ⟨#[]⟩, .slice none 0 0, .int .i64 0] 52 (0, 0)) ∧ (w.alloc (.cells #[.int .u8 0, .int .u8 0, .int .u8 0, .int .i64 0, .int .u8 0, .string ⟨#[]⟩, .slice none 0 0, .int .i64 0] 52)).heap.size = w.heap.size + 1) := ⟨b0, n0, s0⟩
  clear b0 n0 s0 ht
  obtain ⟨O, eO⟩ : ∃ O, gWhole s = O := ⟨_, rfl⟩
  rw [eO] at cW ⊢
  clear eO
  cases O with
  | error f =>
    go_enter Tryz.func10, Tryz.ntmps10
    go_wp2_with fail
    refine cW.mono ?_
    rintro e w1 ⟨⟨F, rfl, hE, hF⟩, hb⟩
    obtain ⟨g1, g2, g3⟩ := H0.out
    have hZ := (hb.block _ (by omega)).trans g2
    obtain ⟨Y, eY, hY1, hY2, hY3, hY4⟩ := fin8 hZ (.int .u8 0) (.int .u8 0) (.int .u8 0) (.int .i64 0) (.int .u8 0) (.string ⟨#[]⟩) (.slice none 0 0) (.int .i64 0)
    have HY : Hid (Y.heap[w.heap.size]? = some (.cells #[.int .u8 0, .int .u8 0, .int .u8 0, .int .i64 0, .int .u8 0, .string ⟨#[]⟩, .slice none 0 0, .int .i64 0] 52 (0, 0)) ∧ ErrAt Y s ⟨#[69, 120, 112, 114]⟩ f F ∧ w.heap.size ≤ F ∧ Below w.heap.size w Y) := ⟨hY1, hE.mv hZ hY3, by omega, (hY4 _ (fun _ => False) (Mv.ofBelow (below2 g1 hb)) (Nat.le_refl _)).toBelow⟩
    have HEY : Hid (_ = Y) := eY
    have z0 : w1.cell? ⟨w.heap.size, 0, none⟩ = some (.int .u8 0) := cell_of hZ 0
    have q0 : w1.frozen? ⟨w.heap.size, 0, none⟩ = false := frozen_of hZ 0
    have z1 : w1.cell? ⟨w.heap.size, 1, none⟩ = some (.int .u8 0) := cell_of hZ 1
    have q1 : w1.frozen? ⟨w.heap.size, 1, none⟩ = false := frozen_of hZ 1
    have z2 : w1.cell? ⟨w.heap.size, 2, none⟩ = some (.int .u8 0) := cell_of hZ 2
    have q2 : w1.frozen? ⟨w.heap.size, 2, none⟩ = false := frozen_of hZ 2
    have z3 : w1.cell? ⟨w.heap.size, 3, none⟩ = some (.int .i64 0) := cell_of hZ 3
    have q3 : w1.frozen? ⟨w.heap.size, 3, none⟩ = false := frozen_of hZ 3
    have z4 : w1.cell? ⟨w.heap.size, 4, none⟩ = some (.int .u8 0) := cell_of hZ 4
    have q4 : w1.frozen? ⟨w.heap.size, 4, none⟩ = false := frozen_of hZ 4
    have z5 : w1.cell? ⟨w.heap.size, 5, none⟩ = some (.string ⟨#[]⟩) := cell_of hZ 5
    have q5 : w1.frozen? ⟨w.heap.size, 5, none⟩ = false := frozen_of hZ 5
    have z6 : w1.cell? ⟨w.heap.size, 6, none⟩ = some (.slice none 0 0) := cell_of hZ 6
    have q6 : w1.frozen? ⟨w.heap.size, 6, none⟩ = false := frozen_of hZ 6
    have z7 : w1.cell? ⟨w.heap.size, 7, none⟩ = some (.int .i64 0) := cell_of hZ 7
    have q7 : w1.frozen? ⟨w.heap.size, 7, none⟩ = false := frozen_of hZ 7
    clear cW hE hF hb g1 g2 g3 hZ eY hY1 hY2 hY3 hY4 H0
    go_wp2_with fail
    rw [HEY.out]
    exact bodyPost_ret (results_two (p := 2) (u := 3) (ty := 52) rfl _ _ w.heap.size 52 #[.int .u8 0, .int .u8 0, .int .u8 0, .int .i64 0, .int .u8 0, .string ⟨#[]⟩, .slice none 0 0, .int .i64 0] (0, 0) _ rfl HY.out.1 Tryz.underlying52 rfl (by kernel_rfl)) rfl ⟨⟨F, rfl, HY.out.2.1, HY.out.2.2.1⟩, HY.out.2.2.2⟩
  | ok t =>
    go_enter Tryz.func10, Tryz.ntmps10
    go_wp2_with fail
    refine cW.mono ?_
    rintro e w1 ⟨⟨m, rfl, rfl, hl, hk⟩, hb⟩
    obtain ⟨⟨k2, o2, ty2, n2, f2, x2, p2⟩, am2, cm2, ks2⟩ := m
    obtain ⟨g1, g2, g3⟩ := H0.out
    have hZ := (hb.block _ (by omega)).trans g2
    obtain ⟨Y, eY, hY1, hY2, hY3, hY4⟩ := fin8 hZ (.int .u8 k2) (.int .u8 o2) (.int .u8 ty2) (.int .i64 n2) (.int .u8 f2) (.string x2) (.slice am2 ks2.length cm2) (.int .i64 p2)
    have HY : Hid (Y.heap[w.heap.size]? = some (.cells (Nd.mk ⟨k2, o2, ty2, n2, f2, x2, p2⟩ am2 cm2 ks2).vals 52 (0, 0)) ∧ Lies Y (.mk ⟨k2, o2, ty2, n2, f2, x2, p2⟩ am2 cm2 ks2) ∧ Bkn (fun k => w.heap.size ≤ k ∧ k < Y.heap.size) (.mk ⟨k2, o2, ty2, n2, f2, x2, p2⟩ am2 cm2 ks2) ∧ Below w.heap.size w Y) := ⟨hY1, hl.bkn hk fun j hj => hY3 j (by omega), hk.mono fun j hj => ⟨by omega, by omega⟩, (hY4 _ (fun _ => False) (Mv.ofBelow (below2 g1 hb)) (Nat.le_refl _)).toBelow⟩
    have HEY : Hid (_ = Y) := eY
    have z0 : w1.cell? ⟨w.heap.size, 0, none⟩ = some (.int .u8 0) := cell_of hZ 0
    have q0 : w1.frozen? ⟨w.heap.size, 0, none⟩ = false := frozen_of hZ 0
    have z1 : w1.cell? ⟨w.heap.size, 1, none⟩ = some (.int .u8 0) := cell_of hZ 1
    have q1 : w1.frozen? ⟨w.heap.size, 1, none⟩ = false := frozen_of hZ 1
    have z2 : w1.cell? ⟨w.heap.size, 2, none⟩ = some (.int .u8 0) := cell_of hZ 2
    have q2 : w1.frozen? ⟨w.heap.size, 2, none⟩ = false := frozen_of hZ 2
    have z3 : w1.cell? ⟨w.heap.size, 3, none⟩ = some (.int .i64 0) := cell_of hZ 3
    have q3 : w1.frozen? ⟨w.heap.size, 3, none⟩ = false := frozen_of hZ 3
    have z4 : w1.cell? ⟨w.heap.size, 4, none⟩ = some (.int .u8 0) := cell_of hZ 4
    have q4 : w1.frozen? ⟨w.heap.size, 4, none⟩ = false := frozen_of hZ 4
    have z5 : w1.cell? ⟨w.heap.size, 5, none⟩ = some (.string ⟨#[]⟩) := cell_of hZ 5
    have q5 : w1.frozen? ⟨w.heap.size, 5, none⟩ = false := frozen_of hZ 5
    have z6 : w1.cell? ⟨w.heap.size, 6, none⟩ = some (.slice none 0 0) := cell_of hZ 6
    have q6 : w1.frozen? ⟨w.heap.size, 6, none⟩ = false := frozen_of hZ 6
    have z7 : w1.cell? ⟨w.heap.size, 7, none⟩ = some (.int .i64 0) := cell_of hZ 7
    have q7 : w1.frozen? ⟨w.heap.size, 7, none⟩ = false := frozen_of hZ 7
    clear cW hl hk hb g1 g2 g3 hZ eY hY1 hY2 hY3 hY4 H0
    simp only [Nd.vals, Nd.h, Nd.a, Nd.c, Nd.ks, hdA]
    go_wp2_with fail
    rw [HEY.out]
    exact bodyPost_ret (results_two (p := 2) (u := 3) (ty := 52) rfl _ _ w.heap.size 52 (Nd.mk ⟨k2, o2, ty2, n2, f2, x2, p2⟩ am2 cm2 ks2).vals (0, 0) _ rfl HY.out.1 Tryz.underlying52 rfl (by kernel_rfl)) rfl ⟨⟨_, rfl, rfl, HY.out.2.1, HY.out.2.2.1⟩, HY.out.2.2.2⟩
end Go.Proofs.YtkfabnchhjfjjabGreatDoor
