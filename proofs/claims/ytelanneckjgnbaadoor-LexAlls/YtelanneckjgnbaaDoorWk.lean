/-
  The chapter's examples, ahead of each statement.
-/
import Derived.Test.YtelanneckjgnbaaDoorPk
import Derived.Test.YtelanneckjgnbaaDoorPl
import Derived.Test.YtelanneckjgnbaaDoorLxs
namespace Go.Proofs.YtelanneckjgnbaaDoor
open Go.RowKit

def ex1 : ByteArray := ⟨#[98, 105, 100, 43, 50, 112, 32, 62, 61, 32, 108, 105, 109, 32, 35, 32, 115, 111]⟩
def ex2 : ByteArray := ⟨#[97, 32, 38, 98]⟩
theorem ex1_0 : oneE ex1 0 = 0 ∧ oneQ ex1 0 = 3 ∧ (oneT ex1 0).k = 1 := by decide +kernel
theorem ex1_3 : oneE ex1 3 = 0 ∧ oneQ ex1 3 = 4 ∧ (oneT ex1 3).k = 4 := by decide +kernel
theorem ex1_4 : oneE ex1 4 = 0 ∧ oneQ ex1 4 = 6 ∧ (oneT ex1 4).k = 3 := by decide +kernel
theorem ex1_6 : oneE ex1 6 = 0 ∧ oneQ ex1 6 = 9 ∧ (oneT ex1 6).k = 4 := by decide +kernel
theorem ex1_9 : oneE ex1 9 = 0 ∧ oneQ ex1 9 = 13 ∧ (oneT ex1 9).k = 2 := by decide +kernel
theorem ex1_13 : oneE ex1 13 = 0 ∧ (oneT ex1 13).k = 0 := by decide +kernel
theorem ex2_0 : oneE ex2 0 = 0 ∧ oneQ ex2 0 = 1 ∧ (oneT ex2 0).k = 2 := by decide +kernel
theorem ex2_1 : oneE ex2 1 = 111 ∧ oneB ex2 1 = 2 := by decide +kernel
theorem beg_on {s : ByteArray} {f q : Nat} (hf : f ≤ s.size) (h : oneE s f = 0) (hk : (oneT s f).k ≠ 0) (hq : oneQ s f = q) : begO s f = (oneT s f :: (begO s q).1, (begO s q).2) := by
  rw [(beg_more hf h hk).2.2.2, hq]
theorem beg_ex1 : begO ex1 0 = ([oneT ex1 0, oneT ex1 3, oneT ex1 4, oneT ex1 6, oneT ex1 9, oneT ex1 13], 0, 0) := by
  rw [beg_on (by decide) ex1_0.1 (by rw [ex1_0.2.2]; decide) ex1_0.2.1, beg_on (by decide) ex1_3.1 (by rw [ex1_3.2.2]; decide) ex1_3.2.1,
    beg_on (by decide) ex1_4.1 (by rw [ex1_4.2.2]; decide) ex1_4.2.1, beg_on (by decide) ex1_6.1 (by rw [ex1_6.2.2]; decide) ex1_6.2.1,
    beg_on (by decide) ex1_9.1 (by rw [ex1_9.2.2]; decide) ex1_9.2.1, beg_end ex1_13.1 ex1_13.2]
theorem beg_ex2 : begO ex2 0 = ([oneT ex2 0], 111, 2) := by
  rw [beg_on (by decide) ex2_0.1 (by rw [ex2_0.2.2]; decide) ex2_0.2.1, beg_bad (by rw [ex2_1.1]; decide), ex2_1.1, ex2_1.2]
theorem tk_ext {t u : Tk} (h1 : t.k = u.k) (h2 : t.x.data.toList = u.x.data.toList) (h3 : t.ty = u.ty) (h4 : t.n = u.n) (h5 : t.p = u.p) : t = u := by
  cases t; cases u
  have h2' := str_eq h2
  simp only at h1 h2' h3 h4 h5
  rw [h1, h3, h4, h5, h2']
theorem ex1_two : oneT ex1 4 = ⟨3, ⟨#[50, 112]⟩, 3, 2, 4⟩ := tk_ext (by decide +kernel) (by decide +kernel) (by decide +kernel) (by decide +kernel) (by decide +kernel)
theorem ex1_end : oneT ex1 13 = ⟨0, ⟨#[]⟩, 0, 0, 18⟩ := tk_ext (by decide +kernel) (by decide +kernel) (by decide +kernel) (by decide +kernel) (by decide +kernel)
def ex3 : ByteArray := ⟨#[97, 98, 32, 99, 100]⟩
theorem ex3_next : nxE ex3 2 = 0 ∧ nxQ ex3 2 = 5 := by decide +kernel
theorem ex3_tok : nxT ex3 2 = ⟨2, ⟨#[99, 100]⟩, 0, 0, 3⟩ := tk_ext (by decide +kernel) (by decide +kernel) (by decide +kernel) (by decide +kernel) (by decide +kernel)
theorem ex_words : isW ⟨#[98, 105, 100]⟩ = true ∧ nameB ⟨#[98, 105, 100, 115]⟩ = true ∧ nameB ⟨#[98, 105, 100]⟩ = false := by decide +kernel
theorem ex1_tks : tksE ex1 = 0 ∧ tksB ex1 = 0 ∧ tksL ex1 = [oneT ex1 0, oneT ex1 3, ⟨3, ⟨#[50, 112]⟩, 3, 2, 4⟩, oneT ex1 6, oneT ex1 9, ⟨0, ⟨#[]⟩, 0, 0, 18⟩] := by
  obtain ⟨a, b, _⟩ := tks_short (s := ex1) (by decide) beg_ex1
  obtain ⟨b1, b2⟩ := b rfl
  exact ⟨a, b1, by rw [b2, ex1_two, ex1_end]⟩
theorem ex2_tks : tksE ex2 = 111 ∧ tksB ex2 = 2 := by
  obtain ⟨a, _, b⟩ := tks_short (s := ex2) (by decide) beg_ex2
  obtain ⟨b1, _⟩ := b (by decide)
  exact ⟨a, b1⟩
theorem RL.lies {W w : World} {v : Value} {L : List Tk} (h : RL W w v L) (hl : 0 < L.length) : ∃ g cap, v = .slice (some ⟨g, 0, Option.none⟩) L.length cap ∧ W.heap.size ≤ g ∧ g < w.heap.size ∧ ∀ j, j < L.length → TkAt w g (0 + j * 5) (lsF L j) := by
  rcases h.row.lies with ⟨_, e⟩ | ⟨g, cap, rfl, hc⟩
  · omega
  · exact ⟨g, cap, rfl, h.nb g rfl, h.row.lt g rfl, hc⟩
theorem TkAt.on {w w' : World} {b o : Nat} {t : Tk} (h : TkAt w b o t) (k : w'.heap[b]? = w.heap[b]?) : TkAt w' b o t :=
  ⟨(World.cell?_of_block k).trans h.c0, (World.cell?_of_block k).trans h.c1, (World.cell?_of_block k).trans h.c2, (World.cell?_of_block k).trans h.c3, (World.cell?_of_block k).trans h.c4⟩
theorem below2 {w w1 w2 : World} (h1 : Below w.heap.size w w1) (h2 : Below w1.heap.size w1 w2) : Below w.heap.size w w2 := h1.trans (h2.mono h1.size)
set_option maxRecDepth 100000 in
set_option maxHeartbeats 4000000 in
theorem works_any (w : World) (ht : Tab w) : Calls Tryd.prog 9 #[] w fun e w' => e = .returned (.bool true) ∧ Below w.heap.size w w' := by
  have c1 : Calls Tryd.prog 10 #[.string ⟨#[98, 105, 100, 43, 50, 112, 32, 62, 61, 32, 108, 105, 109, 32, 35, 32, 115, 111]⟩] w fun e w' => ∃ v, e = .returned (.tuple #[v, .int .i64 0, .int .i64 0]) ∧ RL w w' v [oneT ex1 0, oneT ex1 3, ⟨3, ⟨#[50, 112]⟩, 3, 2, 4⟩, oneT ex1 6, oneT ex1 9, ⟨0, ⟨#[]⟩, 0, 0, 18⟩] := by
    have := tokensp_any ex1 w ht
    rw [ex1_tks.1, ex1_tks.2.1, ex1_tks.2.2] at this
    exact this
  have c2 : ∀ w, Tab w → Calls Tryd.prog 10 #[.string ⟨#[97, 32, 38, 98]⟩] w fun e w' => (∃ v, e = .returned (.tuple #[v, .int .i64 111, .int .i64 2])) ∧ Below w.heap.size w w' := fun w ht => by
    have := tokensp_any ex2 w ht
    rw [ex2_tks.1, ex2_tks.2] at this
    refine this.mono ?_
    rintro e w' ⟨v, rfl, hr⟩
    exact ⟨⟨v, rfl⟩, hr.B⟩
  have c3 : ∀ w, Tab w → Calls Tryd.prog 20 #[.string ⟨#[98, 105, 100]⟩] w fun e w' => e = .returned (.bool true) ∧ w' = w := fun w ht => by
    have := wordP_any ⟨#[98, 105, 100]⟩ w ht
    rwa [ex_words.1] at this
  have c4 : ∀ w, Tab w → Calls Tryd.prog 21 #[.string ⟨#[98, 105, 100, 115]⟩] w fun e w' => e = .returned (.bool true) ∧ Below w.heap.size w w' := fun w ht => by
    have := namep_any ⟨#[98, 105, 100, 115]⟩ (by decide) w ht
    rwa [ex_words.2.1] at this
  have c5 : ∀ w, Tab w → Calls Tryd.prog 21 #[.string ⟨#[98, 105, 100]⟩] w fun e w' => e = .returned (.bool false) ∧ Below w.heap.size w w' := fun w ht => by
    have := namep_any ⟨#[98, 105, 100]⟩ (by decide) w ht
    rwa [ex_words.2.2] at this
  have c6 : ∀ w, Tab w → Calls Tryd.prog 15 #[.string ⟨#[97, 98, 32, 99, 100]⟩, .int .i64 2] w fun e w' => e = .returned (.tuple #[.agg #[.int .u8 2, .string ⟨#[99, 100]⟩, .int .u8 0, .int .i64 0, .int .i64 3], .int .i64 5, .int .i64 0]) ∧ Below w.heap.size w w' := fun w ht => by
    have := nextp_any ex3 2 w ht
    unfold nxV at this
    rw [ex3_next.1, ex3_next.2, ex3_tok] at this
    exact this
  go_enter Tryd.func9, Tryd.ntmps9
  go_wp2_with fail
  refine c1.mono ?_
  rintro _ w1 ⟨v1, rfl, hr1⟩
  obtain ⟨g, cap, rfl, hg1, hg2, hc⟩ := hr1.lies (by decide)
  have hb1 := hr1.B
  have t1 := ht.on hb1
  go_wp2_with fail
  refine (c2 _ t1).mono ?_
  rintro _ w2 ⟨⟨v2, rfl⟩, b2⟩
  have t2 := t1.on b2
  go_wp2_with fail
  refine (c3 _ t2).mono ?_
  rintro _ w3 ⟨rfl, e⟩
  obtain rfl := e.symm
  go_wp2_with fail
  refine (c4 _ t2).mono ?_
  rintro _ w3 ⟨rfl, b3⟩
  have t3 := t2.on b3
  go_wp2_with fail
  refine (c5 _ t3).mono ?_
  rintro _ w4 ⟨rfl, b4⟩
  have t4 := t3.on b4
  go_wp2_with fail
  refine (c6 _ t4).mono ?_
  rintro _ w5 ⟨rfl, b5⟩
  have hB15 : Below w1.heap.size w1 w5 := below2 (below2 (below2 b2 b3) b4) b5
  have hB5 : Below w.heap.size w w5 := below2 hb1 hB15
  have HC : Hid (∀ j, j < 6 → TkAt w5 g (0 + j * 5) (lsF [oneT ex1 0, oneT ex1 3, ⟨3, ⟨#[50, 112]⟩, 3, 2, 4⟩, oneT ex1 6, oneT ex1 9, ⟨0, ⟨#[]⟩, 0, 0, 18⟩] j)) := fun j hj => (hc j hj).on (hB15.block g hg2)
  have hg5 : g < w5.heap.size := Nat.lt_of_lt_of_le hg2 hB15.size
  obtain ⟨V, eV⟩ : ∃ V, (w5.alloc (.cells #[.int .u8 2, .string ⟨#[99, 100]⟩, .int .u8 0, .int .i64 0, .int .i64 3] 49)).alloc (.cells #[.int .u8 3, .string ⟨#[50, 112]⟩, .int .u8 3, .int .i64 2, .int .i64 4] 49) = V := ⟨_, rfl⟩
  have hBV : Below w5.heap.size w5 V := by rw [← eV]; exact below_two _ _ _
  have HY : Hid (TkH V w5.heap.size ⟨2, ⟨#[99, 100]⟩, 0, 0, 3⟩) := by rw [← eV]; exact heap_fst w5 _ _
  have HZ : Hid (TkH V (w5.heap.size + 1) ⟨3, ⟨#[50, 112]⟩, 3, 2, 4⟩) := by
    rw [← eV, ← size_alloc w5 (.cells #[.int .u8 2, .string ⟨#[99, 100]⟩, .int .u8 0, .int .i64 0, .int .i64 3] 49)]; exact heap_new _ _
  obtain ⟨p0, p1, p2, p3, p4⟩ : TkAt V g 10 ⟨3, ⟨#[50, 112]⟩, 3, 2, 4⟩ := (HC.out 2 (by decide)).on (hBV.block g hg5)
  obtain ⟨q0, q1, q2, q3, q4⟩ : TkAt V g 25 ⟨0, ⟨#[]⟩, 0, 0, 18⟩ := (HC.out 5 (by decide)).on (hBV.block g hg5)
  have HB5 : Hid (Below w.heap.size w V) := below2 hB5 hBV
  clear hB15 hB5 b2 b3 b4 b5 t1 t2 t3 t4 hb1 hr1 hc HC hBV c1 c2 c3 c4 c5 c6 ht
  go_wp2_with fail
  clear eV
  obtain ⟨y0, y1, y2, y3, y4⟩ := HY.out.cells
  obtain ⟨z0, z1, z2, z3, z4⟩ := HZ.out.cells
  go_quiet (fail)
  go_wp2_with fail
  go_ret
  exact ⟨rfl, below_drew HB5.out _⟩
end Go.Proofs.YtelanneckjgnbaaDoor
