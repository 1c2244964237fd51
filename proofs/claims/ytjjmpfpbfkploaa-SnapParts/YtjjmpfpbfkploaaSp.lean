/-
  The walk of SnapParts.
-/
import Derived.Test.YtjjmpfpbfkploaaSf
import Derived.Test.YtjjmpfpbfkploaaMand
import Derived.Test.YtjjmpfpbfkploaaApd
namespace Go.Proofs.Ytjjmpfpbfkploaa
open Go.RowKit

theorem Lie.cells {w : World} {ao : Option Addr} {len s : Nat} {f : Nat → Value} (h : Lie w ao len s f) : ∀ ad, ao = some ad → ∀ j, j < len * s → w.cell? (ad.add j) = some (f j) := by
  intro ad had j hj
  have h0 : 0 < len := by
    rcases Nat.eq_zero_or_pos len with h | h
    · subst h; simp at hj
    · exact h
  obtain ⟨b, off, e, _, hc⟩ := h h0
  rw [e] at had
  cases had
  rw [Addr.add_lit]
  exact hc j hj
/-- Two lists, one behind the other, in memory of the call's own. -/
theorem row_both {w : World} {v : Value} {la lb : Nat} {A B : Nat → Fd} {f : Nat → Value} (h : Row w 66 3 v (0 + la + lb) f) (hf : ∀ j, j < (0 + la + lb) * 3 → f j = fdF (joinA la A B) j) (hw : ∀ j, j < la + lb → Wf (joinA la A B j)) :
    ∃ ao c, v = .slice ao (la + lb) c ∧ Fds w ao (la + lb) (joinA la A B) := by
  obtain ⟨ao, c, rfl, h1, _⟩ := h.form
  refine ⟨ao, c, by rw [Nat.zero_add], ?_⟩
  refine Lie.fds (fun h0 => ?_) hw
  obtain ⟨g, rfl⟩ := h1 (by omega)
  refine ⟨g, 0, rfl, h.lt g rfl, fun j hj => ?_⟩
  rw [Nat.zero_add, h.cell (by omega), hf j (by omega)]
theorem both_f (A B : Nat → Fd) (la lb : Nat) (f0 : Nat → Value) : ∀ j, j < (0 + la + lb) * 3 → (fun j => if j < (0 + la) * 3 then (fun j => if j < 0 * 3 then f0 j else fdF A (j - 0 * 3)) j else fdF B (j - (0 + la) * 3)) j = fdF (joinA la A B) j := by
  intro j hj
  simp only [Nat.zero_add, Nat.zero_mul, Nat.not_lt_zero, if_false, Nat.sub_zero]
  by_cases h : j < la * 3
  · rw [if_pos h]
    unfold fdF
    rw [show joinA la A B (j / 3) = A (j / 3) from if_pos (by omega)]
  · rw [if_neg h]
    unfold fdF
    rw [show joinA la A B (j / 3) = B (j / 3 - la) from if_neg (by omega), show (j - la * 3) / 3 = j / 3 - la by omega, show (j - la * 3) % 3 = j % 3 by omega]
theorem foldO_none {s : Sn} {A B : Nat → Fd} {n m : Nat} (h : foldO s A n = none) : foldO s (joinA n A B) (n + m) = none := by
  unfold foldO at *
  cases e : mayB s
  · simp
  · rw [e] at h
    simp only [if_true] at h ⊢
    rw [foldK_join, h]; rfl
theorem foldO_some {s y : Sn} {A B : Nat → Fd} {n m : Nat} (h : foldO s A n = some y) : foldO s (joinA n A B) (n + m) = foldO y B m ∧ May y := by
  unfold foldO at *
  cases e : mayB s
  · rw [e] at h; cases h
  · rw [e] at h
    simp only [if_true] at h ⊢
    have hy := foldK_may (mayB_iff.1 e) n y h
    rw [foldK_join, h, mayB_iff.2 hy]
    exact ⟨rfl, hy⟩
theorem foldO_may {s y : Sn} {A : Nat → Fd} {n : Nat} (h : foldO s A n = some y) : May y := by
  unfold foldO at h
  cases e : mayB s
  · rw [e] at h; cases h
  · rw [e] at h
    exact foldK_may (mayB_iff.1 e) n y h

set_option maxRecDepth 100000 in
set_option maxHeartbeats 4000000 in
theorem parts_long (s : Sn) (a : Option Addr) (la ca : Nat) (b : Option Addr) (lb cb : Nat) (w : World) (hlen : 67108863 < la + lb) (hmax : la + lb ≤ 9223372036854775807) :
    Calls Try.prog 5 #[.agg (snA s), .slice a la ca, .slice b lb cb] w fun e w' => e = .returned (.bool true) ∧ Below w.heap.size w w' := by
  have hS := SnH.new w s 23
  have hB0 := below_new w (.cells (snA s) 23)
  unfold snA at hS hB0 ⊢
  obtain ⟨W, hW⟩ : ∃ W, w.alloc (.cells #[.int .i64 s.bid, .int .i64 s.ask, .int .i64 s.last, .int .i64 s.vol, .int .i64 s.now, .int .i64 s.opn] 23) = W := ⟨_, rfl⟩
  rw [hW] at hS hB0
  have HS : Hid (SnH W w.heap.size 23 s) := hS
  clear hS
  have hl' : (67108863 : Int) < (la : Int) + (lb : Int) := by omega
  go_enter Try.func5, Try.ntmps5
  go_wp2_with fail
  refine (works_any _).mono ?_
  rintro _ v0 ⟨rfl, bb⟩
  go_wp2
  go_ret
  exact ⟨rfl, hB0.trans (bb.mono hB0.size)⟩

set_option maxRecDepth 100000 in
set_option maxHeartbeats 4000000 in
theorem parts_1 (s : Sn) (a : Option Addr) (la ca : Nat) (A : Nat → Fd) (b : Option Addr) (lb cb : Nat) (B : Nat → Fd) (w : World) (hA : Fds w a la A) (hB : Fds w b lb B) (na : a = none → la = 0 ∧ ca = 0) (nb : b = none → lb = 0 ∧ cb = 0) (hlen : la + lb ≤ 67108863) (h2 : foldO s A la = none) :
    Calls Try.prog 5 #[.agg (snA s), .slice a la ca, .slice b lb cb] w fun e w' => e = .returned (.bool true) ∧ Below w.heap.size w w' := by
  have c1 : ∀ ao cc v, Fds v ao (la + lb) (joinA la A B) → Calls Try.prog 16 #[.agg #[.int .i64 s.bid, .int .i64 s.ask, .int .i64 s.last, .int .i64 s.vol, .int .i64 s.now, .int .i64 s.opn], .slice ao (la + lb) cc] v fun e w' => e = .returned (.tuple #[.agg #[.int .i64 0, .int .i64 0, .int .i64 0, .int .i64 0, .int .i64 0, .int .i64 0], .int .u16 0, .int .i64 100]) ∧ Below v.heap.size v w' := fun ao cc v h => by
    have := fold_any s ao (la + lb) cc (joinA la A B) v h (by omega)
    rw [foldO_none h2] at this
    exact this
  have c2 : ∀ v, Fds v a la A → Calls Try.prog 16 #[.agg #[.int .i64 s.bid, .int .i64 s.ask, .int .i64 s.last, .int .i64 s.vol, .int .i64 s.now, .int .i64 s.opn], .slice a la ca] v fun e w' => e = .returned (.tuple #[.agg #[.int .i64 0, .int .i64 0, .int .i64 0, .int .i64 0, .int .i64 0, .int .i64 0], .int .u16 0, .int .i64 100]) ∧ Below v.heap.size v w' := fun v h => by
    have := fold_any s a la ca A v h (by omega)
    rw [h2] at this
    exact this
  clear h2
  have HA := hA.hid
  have HB' := hB.hid
  have HNa : Hid (a = none → la = 0 ∧ ca = 0) := na
  have HNb : Hid (b = none → lb = 0 ∧ cb = 0) := nb
  clear hA hB na nb
  have hS := SnH.new w s 23
  have hB0 := below_new w (.cells (snA s) 23)
  unfold snA at hS hB0 ⊢
  obtain ⟨W, hW⟩ : ∃ W, w.alloc (.cells #[.int .i64 s.bid, .int .i64 s.ask, .int .i64 s.last, .int .i64 s.vol, .int .i64 s.now, .int .i64 s.opn] 23) = W := ⟨_, rfl⟩
  rw [hW] at hS hB0
  have HS : Hid (SnH W w.heap.size 23 s) := hS
  clear hS
  have hl' : ¬ (67108863 : Int) < (la : Int) + (lb : Int) := by omega
  obtain ⟨i0, hi, hz0, hz1, hz2⟩ := info_parts Try.info66
  have hwf : ∀ j, j < la + lb → Wf (joinA la A B j) := fun j hj => by
    unfold joinA
    split
    · obtain ⟨_, _, _, _, hc⟩ := HA.out (by omega); exact (hc j (by assumption)).2
    · obtain ⟨_, _, _, _, hc⟩ := HB'.out (by omega); exact (hc (j - la) (by omega)).2
  have HWf : Hid (∀ j, j < la + lb → Wf (joinA la A B j)) := hwf
  clear hwf
  go_enter Try.func5, Try.ntmps5
  go_wp2_with fail
  refine (works_any _).mono ?_
  rintro _ v0 ⟨rfl, bb⟩
  have hB1 : Below w.heap.size w v0 := hB0.trans (bb.mono hB0.size)
  have HS1 := (HS.out.onto bb).hid
  have hla := (HA.out.on hB1).lie.cells
  have HL1 : Hid (∀ ad, a = some ad → ∀ j, j < la * 3 → v0.cell? (ad.add j) = some (fdF A j)) := hla
  have hmk : Hid True := trivial
  clear hla bb hB0 HS
  go_wp2_with (at_builtin; first
    | (clear hmk; refine wpList_append_row rfl (.tmp 28) (.tmp 29) 25 rfl 66 i0 (.agg #[.int .u8 0, .int .i64 0, .int .i64 0]) 3 24 Try.underlying25 hi hz0 hz1 hz2 rfl (by decide) (.slice none 0 0) 0 (fdF A) rfl (Row.nil _ _ _ _) a la ca (fdF A) rfl HNa.out HL1.out (fdF_one A) (by omega) (by decide) ?_; intro v1 w1 hr1 hg1 hown1; have hk1 : Below v0.heap.size v0 w1 := (Below.refl _ v0).grown hg1 (Nat.le_refl _) (fun k hk => by simp [Value.ownBlock] at hk); have hn1 : ∀ k, v1.ownBlock = some k → v0.heap.size ≤ k := (fun k hk => by rcases hown1 with h | h <;> rw [h] at hk <;> simp [Value.ownBlock] at hk <;> omega); have HR1 : Hid (Row w1 66 3 v1 (0 + la) _) := hr1; have HL2 := (((HB'.out.on hB1).on hk1).lie.cells); have HL3 : Hid (∀ ad, b = some ad → ∀ j, j < lb * 3 → w1.cell? (ad.add j) = some (fdF B j)) := HL2; clear HL2 hr1 hown1 hg1)
    | (refine wpList_append_row rfl (.tmp 31) (.tmp 32) 25 rfl 66 i0 (.agg #[.int .u8 0, .int .i64 0, .int .i64 0]) 3 24 Try.underlying25 hi hz0 hz1 hz2 rfl (by decide) v1 (0 + la) _ rfl HR1.out b lb cb (fdF B) rfl HNb.out HL3.out (fdF_one B) (by omega) (by decide) ?_; intro v2 w2 hr2 hg2 hown2; have hk2 : Below v0.heap.size v0 w2 := hk1.grown hg2 hk1.size (fun k hk => hn1 k hk); obtain ⟨ao, cc, rfl, hF⟩ := row_both hr2 (both_f A B la lb _) HWf.out; have HF := hF.hid; have gS := (HS1.out.on hk2 HS1.out.lt).at; have s0 := gS.c0; have s1 := gS.c1; have s2 := gS.c2; have s3 := gS.c3; have s4 := gS.c4; have s5 := gS.c5; clear gS hr2 hg2 hown2 hF))
  refine (c1 _ _ _ HF.out).mono ?_
  rintro _ x1 ⟨rfl, b1⟩
  have HSx := ((HS1.out.on hk2 HS1.out.lt).onto b1).hid
  have hBx : Below w.heap.size w x1 := hB1.trans ((hk2.mono hB1.size).trans (b1.mono (Nat.le_trans hB1.size hk2.size)))
  clear s0 s1 s2 s3 s4 s5 HF HS1 b1 hk1 hk2 hn1 HR1 HL1 HL3 c1 HWf hi hz0 hz1 hz2 hW
  have nHSx := HSx.out.lt
  have gs := HSx.out.at
  have s0 := gs.c0; have s1 := gs.c1; have s2 := gs.c2; have s3 := gs.c3; have s4 := gs.c4; have s5 := gs.c5
  clear gs
  have HX : Hid (SnH (x1.alloc (.cells #[.int .i64 0, .int .i64 0, .int .i64 0, .int .i64 0, .int .i64 0, .int .i64 0] 23)) x1.heap.size 23 sn0) := SnH.new x1 sn0 23
  have HSa := (HSx.out.onto (below_new x1 (.cells #[.int .i64 0, .int .i64 0, .int .i64 0, .int .i64 0, .int .i64 0, .int .i64 0] 23))).hid
  have hBa : Below w.heap.size w (x1.alloc (.cells #[.int .i64 0, .int .i64 0, .int .i64 0, .int .i64 0, .int .i64 0, .int .i64 0] 23)) := hBx.alloc hBx.size _
  go_wp2_with fail
  refine (c2 _ (HA.out.on hBa)).mono ?_
  rintro _ x2 ⟨rfl, b2⟩
  have HX2 := (HX.out.onto b2).hid
  have HS2 := (HSa.out.onto b2).hid
  have hB2 : Below w.heap.size w x2 := hBa.trans (b2.mono hBa.size)
  clear s0 s1 s2 s3 s4 s5 HX HSa HSx hBa hBx b2 c2 HA
  have nHS2 := HS2.out.lt
  have gs := HS2.out.at
  have s0 := gs.c0; have s1 := gs.c1; have s2 := gs.c2; have s3 := gs.c3; have s4 := gs.c4; have s5 := gs.c5
  clear gs
  have nHX2 := HX2.out.lt
  have gx := HX2.out.at
  have xc0 := gx.c0; have xc1 := gx.c1; have xc2 := gx.c2; have xc3 := gx.c3; have xc4 := gx.c4; have xc5 := gx.c5
  clear gx
  try simp only [sn0] at xc0 xc1 xc2 xc3 xc4 xc5
  clear s0 s1 s2 s3 s4 s5
  go_wp2
  go_ret
  exact ⟨rfl, hB2.alloc hB2.size _⟩
set_option maxRecDepth 100000 in
set_option maxHeartbeats 4000000 in
theorem parts_2 (s : Sn) (a : Option Addr) (la ca : Nat) (A : Nat → Fd) (b : Option Addr) (lb cb : Nat) (B : Nat → Fd) (w : World) (hA : Fds w a la A) (hB : Fds w b lb B) (na : a = none → la = 0 ∧ ca = 0) (nb : b = none → lb = 0 ∧ cb = 0) (hlen : la + lb ≤ 67108863) (y : Sn) (h2 : foldO s A la = some y) (h3 : foldO y B lb = none) :
    Calls Try.prog 5 #[.agg (snA s), .slice a la ca, .slice b lb cb] w fun e w' => e = .returned (.bool true) ∧ Below w.heap.size w w' := by
  have c1 : ∀ ao cc v, Fds v ao (la + lb) (joinA la A B) → Calls Try.prog 16 #[.agg #[.int .i64 s.bid, .int .i64 s.ask, .int .i64 s.last, .int .i64 s.vol, .int .i64 s.now, .int .i64 s.opn], .slice ao (la + lb) cc] v fun e w' => e = .returned (.tuple #[.agg #[.int .i64 0, .int .i64 0, .int .i64 0, .int .i64 0, .int .i64 0, .int .i64 0], .int .u16 0, .int .i64 100]) ∧ Below v.heap.size v w' := fun ao cc v h => by
    have := fold_any s ao (la + lb) cc (joinA la A B) v h (by omega)
    rw [(foldO_some h2).1.trans h3] at this
    exact this
  have c2 : ∀ v, Fds v a la A → Calls Try.prog 16 #[.agg #[.int .i64 s.bid, .int .i64 s.ask, .int .i64 s.last, .int .i64 s.vol, .int .i64 s.now, .int .i64 s.opn], .slice a la ca] v fun e w' => e = .returned (.tuple #[.agg #[.int .i64 y.bid, .int .i64 y.ask, .int .i64 y.last, .int .i64 y.vol, .int .i64 y.now, .int .i64 y.opn], .int .u16 (diffN s y), .int .i64 0]) ∧ Below v.heap.size v w' := fun v h => by
    have := fold_any s a la ca A v h (by omega)
    rw [h2] at this
    exact this
  have c3 : ∀ v, Fds v b lb B → Calls Try.prog 16 #[.agg #[.int .i64 y.bid, .int .i64 y.ask, .int .i64 y.last, .int .i64 y.vol, .int .i64 y.now, .int .i64 y.opn], .slice b lb cb] v fun e w' => e = .returned (.tuple #[.agg #[.int .i64 0, .int .i64 0, .int .i64 0, .int .i64 0, .int .i64 0, .int .i64 0], .int .u16 0, .int .i64 100]) ∧ Below v.heap.size v w' := fun v h => by
    have := fold_any y b lb cb B v h (by omega)
    rw [h3] at this
    exact this
  have c4 : ∀ v, Calls Try.prog 13 #[.agg #[.int .i64 s.bid, .int .i64 s.ask, .int .i64 s.last, .int .i64 s.vol, .int .i64 s.now, .int .i64 s.opn], .agg #[.int .i64 0, .int .i64 0, .int .i64 0, .int .i64 0, .int .i64 0, .int .i64 0]] v fun e w' => e = .returned (.int .u16 (diffN s sn0)) ∧ Below v.heap.size v w' := fun v => diff_any s sn0 v
  have c5 : ∀ v, Calls Try.prog 7 #[.agg #[.int .i64 0, .int .i64 0, .int .i64 0, .int .i64 0, .int .i64 0, .int .i64 0]] v fun e w' => e = .returned (.int .i64 0) ∧ Below v.heap.size v w' := fun v => by
    have := check_any sn0 v
    rw [show chkN sn0 = 0 from rfl] at this
    exact this
  obtain ⟨D1, e1⟩ : ∃ d, diffN s sn0 = d := ⟨_, rfl⟩
  obtain ⟨D2, e2⟩ : ∃ d, diffN s y = d := ⟨_, rfl⟩
  rw [e1] at c4
  rw [e2] at c2
  clear e1 e2
  clear h2 h3
  have HA := hA.hid
  have HB' := hB.hid
  have HNa : Hid (a = none → la = 0 ∧ ca = 0) := na
  have HNb : Hid (b = none → lb = 0 ∧ cb = 0) := nb
  clear hA hB na nb
  have hS := SnH.new w s 23
  have hB0 := below_new w (.cells (snA s) 23)
  unfold snA at hS hB0 ⊢
  obtain ⟨W, hW⟩ : ∃ W, w.alloc (.cells #[.int .i64 s.bid, .int .i64 s.ask, .int .i64 s.last, .int .i64 s.vol, .int .i64 s.now, .int .i64 s.opn] 23) = W := ⟨_, rfl⟩
  rw [hW] at hS hB0
  have HS : Hid (SnH W w.heap.size 23 s) := hS
  clear hS
  have hl' : ¬ (67108863 : Int) < (la : Int) + (lb : Int) := by omega
  obtain ⟨i0, hi, hz0, hz1, hz2⟩ := info_parts Try.info66
  have hwf : ∀ j, j < la + lb → Wf (joinA la A B j) := fun j hj => by
    unfold joinA
    split
    · obtain ⟨_, _, _, _, hc⟩ := HA.out (by omega); exact (hc j (by assumption)).2
    · obtain ⟨_, _, _, _, hc⟩ := HB'.out (by omega); exact (hc (j - la) (by omega)).2
  have HWf : Hid (∀ j, j < la + lb → Wf (joinA la A B j)) := hwf
  clear hwf
  go_enter Try.func5, Try.ntmps5
  go_wp2_with fail
  refine (works_any _).mono ?_
  rintro _ v0 ⟨rfl, bb⟩
  have hB1 : Below w.heap.size w v0 := hB0.trans (bb.mono hB0.size)
  have HS1 := (HS.out.onto bb).hid
  have hla := (HA.out.on hB1).lie.cells
  have HL1 : Hid (∀ ad, a = some ad → ∀ j, j < la * 3 → v0.cell? (ad.add j) = some (fdF A j)) := hla
  have hmk : Hid True := trivial
  clear hla bb hB0 HS
  go_wp2_with (at_builtin; first
    | (clear hmk; refine wpList_append_row rfl (.tmp 28) (.tmp 29) 25 rfl 66 i0 (.agg #[.int .u8 0, .int .i64 0, .int .i64 0]) 3 24 Try.underlying25 hi hz0 hz1 hz2 rfl (by decide) (.slice none 0 0) 0 (fdF A) rfl (Row.nil _ _ _ _) a la ca (fdF A) rfl HNa.out HL1.out (fdF_one A) (by omega) (by decide) ?_; intro v1 w1 hr1 hg1 hown1; have hk1 : Below v0.heap.size v0 w1 := (Below.refl _ v0).grown hg1 (Nat.le_refl _) (fun k hk => by simp [Value.ownBlock] at hk); have hn1 : ∀ k, v1.ownBlock = some k → v0.heap.size ≤ k := (fun k hk => by rcases hown1 with h | h <;> rw [h] at hk <;> simp [Value.ownBlock] at hk <;> omega); have HR1 : Hid (Row w1 66 3 v1 (0 + la) _) := hr1; have HL2 := (((HB'.out.on hB1).on hk1).lie.cells); have HL3 : Hid (∀ ad, b = some ad → ∀ j, j < lb * 3 → w1.cell? (ad.add j) = some (fdF B j)) := HL2; clear HL2 hr1 hown1 hg1)
    | (refine wpList_append_row rfl (.tmp 31) (.tmp 32) 25 rfl 66 i0 (.agg #[.int .u8 0, .int .i64 0, .int .i64 0]) 3 24 Try.underlying25 hi hz0 hz1 hz2 rfl (by decide) v1 (0 + la) _ rfl HR1.out b lb cb (fdF B) rfl HNb.out HL3.out (fdF_one B) (by omega) (by decide) ?_; intro v2 w2 hr2 hg2 hown2; have hk2 : Below v0.heap.size v0 w2 := hk1.grown hg2 hk1.size (fun k hk => hn1 k hk); obtain ⟨ao, cc, rfl, hF⟩ := row_both hr2 (both_f A B la lb _) HWf.out; have HF := hF.hid; have gS := (HS1.out.on hk2 HS1.out.lt).at; have s0 := gS.c0; have s1 := gS.c1; have s2 := gS.c2; have s3 := gS.c3; have s4 := gS.c4; have s5 := gS.c5; clear gS hr2 hg2 hown2 hF))
  refine (c1 _ _ _ HF.out).mono ?_
  rintro _ x1 ⟨rfl, b1⟩
  have HSx := ((HS1.out.on hk2 HS1.out.lt).onto b1).hid
  have hBx : Below w.heap.size w x1 := hB1.trans ((hk2.mono hB1.size).trans (b1.mono (Nat.le_trans hB1.size hk2.size)))
  clear s0 s1 s2 s3 s4 s5 HF HS1 b1 hk1 hk2 hn1 HR1 HL1 HL3 c1 HWf hi hz0 hz1 hz2 hW
  have nHSx := HSx.out.lt
  have gs := HSx.out.at
  have s0 := gs.c0; have s1 := gs.c1; have s2 := gs.c2; have s3 := gs.c3; have s4 := gs.c4; have s5 := gs.c5
  clear gs
  have HX : Hid (SnH (x1.alloc (.cells #[.int .i64 0, .int .i64 0, .int .i64 0, .int .i64 0, .int .i64 0, .int .i64 0] 23)) x1.heap.size 23 sn0) := SnH.new x1 sn0 23
  have HSa := (HSx.out.onto (below_new x1 (.cells #[.int .i64 0, .int .i64 0, .int .i64 0, .int .i64 0, .int .i64 0, .int .i64 0] 23))).hid
  have hBa : Below w.heap.size w (x1.alloc (.cells #[.int .i64 0, .int .i64 0, .int .i64 0, .int .i64 0, .int .i64 0, .int .i64 0] 23)) := hBx.alloc hBx.size _
  go_wp2_with fail
  refine (c2 _ (HA.out.on hBa)).mono ?_
  rintro _ x2 ⟨rfl, b2⟩
  have HX2 := (HX.out.onto b2).hid
  have HS2 := (HSa.out.onto b2).hid
  have hB2 : Below w.heap.size w x2 := hBa.trans (b2.mono hBa.size)
  clear s0 s1 s2 s3 s4 s5 HX HSa HSx hBa hBx b2 c2 HA
  have nHS2 := HS2.out.lt
  have gs := HS2.out.at
  have s0 := gs.c0; have s1 := gs.c1; have s2 := gs.c2; have s3 := gs.c3; have s4 := gs.c4; have s5 := gs.c5
  clear gs
  have nHX2 := HX2.out.lt
  have gx := HX2.out.at
  have xc0 := gx.c0; have xc1 := gx.c1; have xc2 := gx.c2; have xc3 := gx.c3; have xc4 := gx.c4; have xc5 := gx.c5
  clear gx
  try simp only [sn0] at xc0 xc1 xc2 xc3 xc4 xc5
  have HY : Hid (SnH (x2.alloc (.cells #[.int .i64 y.bid, .int .i64 y.ask, .int .i64 y.last, .int .i64 y.vol, .int .i64 y.now, .int .i64 y.opn] 23)) x2.heap.size 23 y) := SnH.new x2 y 23
  have bn := below_new x2 (.cells #[.int .i64 y.bid, .int .i64 y.ask, .int .i64 y.last, .int .i64 y.vol, .int .i64 y.now, .int .i64 y.opn] 23)
  have HSa := (HS2.out.onto bn).hid
  have HXa := (HX2.out.onto bn).hid
  have hBa : Below w.heap.size w (x2.alloc (.cells #[.int .i64 y.bid, .int .i64 y.ask, .int .i64 y.last, .int .i64 y.vol, .int .i64 y.now, .int .i64 y.opn] 23)) := hB2.alloc hB2.size _
  go_wp2_with fail
  refine (c3 _ (HB'.out.on hBa)).mono ?_
  rintro _ x3 ⟨rfl, b3⟩
  have HX3 := (HXa.out.onto b3).hid
  have HS3 := (HSa.out.onto b3).hid
  have hB3 : Below w.heap.size w x3 := hBa.trans (b3.mono hBa.size)
  clear s0 s1 s2 s3 s4 s5 xc0 xc1 xc2 xc3 xc4 xc5 HX2 HS2 HSa HXa hBa hB2 b3 c3 HB' bn HY
  have nHS3 := HS3.out.lt
  have gs := HS3.out.at
  have s0 := gs.c0; have s1 := gs.c1; have s2 := gs.c2; have s3 := gs.c3; have s4 := gs.c4; have s5 := gs.c5
  clear gs
  have nHX3 := HX3.out.lt
  have gx := HX3.out.at
  have xc0 := gx.c0; have xc1 := gx.c1; have xc2 := gx.c2; have xc3 := gx.c3; have xc4 := gx.c4; have xc5 := gx.c5
  clear gx
  try simp only [sn0] at xc0 xc1 xc2 xc3 xc4 xc5
  have HZ : Hid (SnH (x3.alloc (.cells #[.int .i64 0, .int .i64 0, .int .i64 0, .int .i64 0, .int .i64 0, .int .i64 0] 23)) x3.heap.size 23 sn0) := SnH.new x3 sn0 23
  have bn := below_new x3 (.cells #[.int .i64 0, .int .i64 0, .int .i64 0, .int .i64 0, .int .i64 0, .int .i64 0] 23)
  have HXb := (HX3.out.onto bn).hid
  have hBb : Below w.heap.size w (x3.alloc (.cells #[.int .i64 0, .int .i64 0, .int .i64 0, .int .i64 0, .int .i64 0, .int .i64 0] 23)) := hB3.alloc hB3.size _
  go_wp2_with fail
  refine (c4 _).mono ?_
  rintro _ x4 ⟨rfl, b4⟩
  have HX4 := (HXb.out.onto b4).hid
  have HZ4 := (HZ.out.onto b4).hid
  have hB4 : Below w.heap.size w x4 := hBb.trans (b4.mono hBb.size)
  clear s0 s1 s2 s3 s4 s5 xc0 xc1 xc2 xc3 xc4 xc5 HX3 HS3 HXb HZ bn b4 hBb hB3 c4
  have nHX4 := HX4.out.lt
  have gx := HX4.out.at
  have xc0 := gx.c0; have xc1 := gx.c1; have xc2 := gx.c2; have xc3 := gx.c3; have xc4 := gx.c4; have xc5 := gx.c5
  clear gx
  try simp only [sn0] at xc0 xc1 xc2 xc3 xc4 xc5
  have nHZ4 := HZ4.out.lt
  have gz := HZ4.out.at
  have z0 := gz.c0; have z1 := gz.c1; have z2 := gz.c2; have z3 := gz.c3; have z4 := gz.c4; have z5 := gz.c5
  clear gz
  try simp only [sn0] at z0 z1 z2 z3 z4 z5
  go_wp2_with fail
  refine (c5 _).mono ?_
  rintro _ x5 ⟨rfl, b5⟩
  have HX5 := (HX4.out.onto b5).hid
  have HZ5 := (HZ4.out.onto b5).hid
  have hB5 : Below w.heap.size w x5 := hB4.trans (b5.mono hB4.size)
  clear xc0 xc1 xc2 xc3 xc4 xc5 z0 z1 z2 z3 z4 z5 HX4 HZ4 b5 hB4 c5
  have nHX5 := HX5.out.lt
  have gx := HX5.out.at
  have xc0 := gx.c0; have xc1 := gx.c1; have xc2 := gx.c2; have xc3 := gx.c3; have xc4 := gx.c4; have xc5 := gx.c5
  clear gx
  try simp only [sn0] at xc0 xc1 xc2 xc3 xc4 xc5
  have nHZ5 := HZ5.out.lt
  have gz := HZ5.out.at
  have z0 := gz.c0; have z1 := gz.c1; have z2 := gz.c2; have z3 := gz.c3; have z4 := gz.c4; have z5 := gz.c5
  clear gz
  try simp only [sn0] at z0 z1 z2 z3 z4 z5
  go_wp2
  go_ret
  exact ⟨rfl, hB5⟩
set_option maxRecDepth 100000 in
set_option maxHeartbeats 4000000 in
theorem parts_3 (s : Sn) (a : Option Addr) (la ca : Nat) (A : Nat → Fd) (b : Option Addr) (lb cb : Nat) (B : Nat → Fd) (w : World) (hA : Fds w a la A) (hB : Fds w b lb B) (na : a = none → la = 0 ∧ ca = 0) (nb : b = none → lb = 0 ∧ cb = 0) (hlen : la + lb ≤ 67108863) (y x : Sn) (h2 : foldO s A la = some y) (h3 : foldO y B lb = some x) :
    Calls Try.prog 5 #[.agg (snA s), .slice a la ca, .slice b lb cb] w fun e w' => e = .returned (.bool true) ∧ Below w.heap.size w w' := by
  have c1 : ∀ ao cc v, Fds v ao (la + lb) (joinA la A B) → Calls Try.prog 16 #[.agg #[.int .i64 s.bid, .int .i64 s.ask, .int .i64 s.last, .int .i64 s.vol, .int .i64 s.now, .int .i64 s.opn], .slice ao (la + lb) cc] v fun e w' => e = .returned (.tuple #[.agg #[.int .i64 x.bid, .int .i64 x.ask, .int .i64 x.last, .int .i64 x.vol, .int .i64 x.now, .int .i64 x.opn], .int .u16 (diffN s x), .int .i64 0]) ∧ Below v.heap.size v w' := fun ao cc v h => by
    have := fold_any s ao (la + lb) cc (joinA la A B) v h (by omega)
    rw [(foldO_some h2).1.trans h3] at this
    exact this
  have c2 : ∀ v, Fds v a la A → Calls Try.prog 16 #[.agg #[.int .i64 s.bid, .int .i64 s.ask, .int .i64 s.last, .int .i64 s.vol, .int .i64 s.now, .int .i64 s.opn], .slice a la ca] v fun e w' => e = .returned (.tuple #[.agg #[.int .i64 y.bid, .int .i64 y.ask, .int .i64 y.last, .int .i64 y.vol, .int .i64 y.now, .int .i64 y.opn], .int .u16 (diffN s y), .int .i64 0]) ∧ Below v.heap.size v w' := fun v h => by
    have := fold_any s a la ca A v h (by omega)
    rw [h2] at this
    exact this
  have c3 : ∀ v, Fds v b lb B → Calls Try.prog 16 #[.agg #[.int .i64 y.bid, .int .i64 y.ask, .int .i64 y.last, .int .i64 y.vol, .int .i64 y.now, .int .i64 y.opn], .slice b lb cb] v fun e w' => e = .returned (.tuple #[.agg #[.int .i64 x.bid, .int .i64 x.ask, .int .i64 x.last, .int .i64 x.vol, .int .i64 x.now, .int .i64 x.opn], .int .u16 (diffN y x), .int .i64 0]) ∧ Below v.heap.size v w' := fun v h => by
    have := fold_any y b lb cb B v h (by omega)
    rw [h3] at this
    exact this
  have c4 : ∀ v, Calls Try.prog 13 #[.agg #[.int .i64 s.bid, .int .i64 s.ask, .int .i64 s.last, .int .i64 s.vol, .int .i64 s.now, .int .i64 s.opn], .agg #[.int .i64 x.bid, .int .i64 x.ask, .int .i64 x.last, .int .i64 x.vol, .int .i64 x.now, .int .i64 x.opn]] v fun e w' => e = .returned (.int .u16 (diffN s x)) ∧ Below v.heap.size v w' := fun v => diff_any s x v
  have c5 : ∀ v, Calls Try.prog 7 #[.agg #[.int .i64 x.bid, .int .i64 x.ask, .int .i64 x.last, .int .i64 x.vol, .int .i64 x.now, .int .i64 x.opn]] v fun e w' => e = .returned (.int .i64 0) ∧ Below v.heap.size v w' := fun v => by
    have := check_any x v
    rw [chk_ok (foldO_may h3)] at this
    exact this
  have hq := mask_in s y x
  obtain ⟨D1, e1⟩ : ∃ d, diffN s x = d := ⟨_, rfl⟩
  obtain ⟨D2, e2⟩ : ∃ d, diffN s y = d := ⟨_, rfl⟩
  obtain ⟨D3, e3⟩ : ∃ d, diffN y x = d := ⟨_, rfl⟩
  rw [e1] at c4 hq
  simp only [e1] at c1
  rw [e2] at c2 hq
  rw [e3] at c3 hq
  clear e1 e2 e3
  clear h2 h3
  have HA := hA.hid
  have HB' := hB.hid
  have HNa : Hid (a = none → la = 0 ∧ ca = 0) := na
  have HNb : Hid (b = none → lb = 0 ∧ cb = 0) := nb
  clear hA hB na nb
  have hS := SnH.new w s 23
  have hB0 := below_new w (.cells (snA s) 23)
  unfold snA at hS hB0 ⊢
  obtain ⟨W, hW⟩ : ∃ W, w.alloc (.cells #[.int .i64 s.bid, .int .i64 s.ask, .int .i64 s.last, .int .i64 s.vol, .int .i64 s.now, .int .i64 s.opn] 23) = W := ⟨_, rfl⟩
  rw [hW] at hS hB0
  have HS : Hid (SnH W w.heap.size 23 s) := hS
  clear hS
  have hl' : ¬ (67108863 : Int) < (la : Int) + (lb : Int) := by omega
  obtain ⟨i0, hi, hz0, hz1, hz2⟩ := info_parts Try.info66
  have hwf : ∀ j, j < la + lb → Wf (joinA la A B j) := fun j hj => by
    unfold joinA
    split
    · obtain ⟨_, _, _, _, hc⟩ := HA.out (by omega); exact (hc j (by assumption)).2
    · obtain ⟨_, _, _, _, hc⟩ := HB'.out (by omega); exact (hc (j - la) (by omega)).2
  have HWf : Hid (∀ j, j < la + lb → Wf (joinA la A B j)) := hwf
  clear hwf
  go_enter Try.func5, Try.ntmps5
  go_wp2_with fail
  refine (works_any _).mono ?_
  rintro _ v0 ⟨rfl, bb⟩
  have hB1 : Below w.heap.size w v0 := hB0.trans (bb.mono hB0.size)
  have HS1 := (HS.out.onto bb).hid
  have hla := (HA.out.on hB1).lie.cells
  have HL1 : Hid (∀ ad, a = some ad → ∀ j, j < la * 3 → v0.cell? (ad.add j) = some (fdF A j)) := hla
  have hmk : Hid True := trivial
  clear hla bb hB0 HS
  go_wp2_with (at_builtin; first
    | (clear hmk; refine wpList_append_row rfl (.tmp 28) (.tmp 29) 25 rfl 66 i0 (.agg #[.int .u8 0, .int .i64 0, .int .i64 0]) 3 24 Try.underlying25 hi hz0 hz1 hz2 rfl (by decide) (.slice none 0 0) 0 (fdF A) rfl (Row.nil _ _ _ _) a la ca (fdF A) rfl HNa.out HL1.out (fdF_one A) (by omega) (by decide) ?_; intro v1 w1 hr1 hg1 hown1; have hk1 : Below v0.heap.size v0 w1 := (Below.refl _ v0).grown hg1 (Nat.le_refl _) (fun k hk => by simp [Value.ownBlock] at hk); have hn1 : ∀ k, v1.ownBlock = some k → v0.heap.size ≤ k := (fun k hk => by rcases hown1 with h | h <;> rw [h] at hk <;> simp [Value.ownBlock] at hk <;> omega); have HR1 : Hid (Row w1 66 3 v1 (0 + la) _) := hr1; have HL2 := (((HB'.out.on hB1).on hk1).lie.cells); have HL3 : Hid (∀ ad, b = some ad → ∀ j, j < lb * 3 → w1.cell? (ad.add j) = some (fdF B j)) := HL2; clear HL2 hr1 hown1 hg1)
    | (refine wpList_append_row rfl (.tmp 31) (.tmp 32) 25 rfl 66 i0 (.agg #[.int .u8 0, .int .i64 0, .int .i64 0]) 3 24 Try.underlying25 hi hz0 hz1 hz2 rfl (by decide) v1 (0 + la) _ rfl HR1.out b lb cb (fdF B) rfl HNb.out HL3.out (fdF_one B) (by omega) (by decide) ?_; intro v2 w2 hr2 hg2 hown2; have hk2 : Below v0.heap.size v0 w2 := hk1.grown hg2 hk1.size (fun k hk => hn1 k hk); obtain ⟨ao, cc, rfl, hF⟩ := row_both hr2 (both_f A B la lb _) HWf.out; have HF := hF.hid; have gS := (HS1.out.on hk2 HS1.out.lt).at; have s0 := gS.c0; have s1 := gS.c1; have s2 := gS.c2; have s3 := gS.c3; have s4 := gS.c4; have s5 := gS.c5; clear gS hr2 hg2 hown2 hF))
  refine (c1 _ _ _ HF.out).mono ?_
  rintro _ x1 ⟨rfl, b1⟩
  have HSx := ((HS1.out.on hk2 HS1.out.lt).onto b1).hid
  have hBx : Below w.heap.size w x1 := hB1.trans ((hk2.mono hB1.size).trans (b1.mono (Nat.le_trans hB1.size hk2.size)))
  clear s0 s1 s2 s3 s4 s5 HF HS1 b1 hk1 hk2 hn1 HR1 HL1 HL3 c1 HWf hi hz0 hz1 hz2 hW
  have nHSx := HSx.out.lt
  have gs := HSx.out.at
  have s0 := gs.c0; have s1 := gs.c1; have s2 := gs.c2; have s3 := gs.c3; have s4 := gs.c4; have s5 := gs.c5
  clear gs
  have HX : Hid (SnH (x1.alloc (.cells #[.int .i64 x.bid, .int .i64 x.ask, .int .i64 x.last, .int .i64 x.vol, .int .i64 x.now, .int .i64 x.opn] 23)) x1.heap.size 23 x) := SnH.new x1 x 23
  have HSa := (HSx.out.onto (below_new x1 (.cells #[.int .i64 x.bid, .int .i64 x.ask, .int .i64 x.last, .int .i64 x.vol, .int .i64 x.now, .int .i64 x.opn] 23))).hid
  have hBa : Below w.heap.size w (x1.alloc (.cells #[.int .i64 x.bid, .int .i64 x.ask, .int .i64 x.last, .int .i64 x.vol, .int .i64 x.now, .int .i64 x.opn] 23)) := hBx.alloc hBx.size _
  go_wp2_with fail
  refine (c2 _ (HA.out.on hBa)).mono ?_
  rintro _ x2 ⟨rfl, b2⟩
  have HX2 := (HX.out.onto b2).hid
  have HS2 := (HSa.out.onto b2).hid
  have hB2 : Below w.heap.size w x2 := hBa.trans (b2.mono hBa.size)
  clear s0 s1 s2 s3 s4 s5 HX HSa HSx hBa hBx b2 c2 HA
  have nHS2 := HS2.out.lt
  have gs := HS2.out.at
  have s0 := gs.c0; have s1 := gs.c1; have s2 := gs.c2; have s3 := gs.c3; have s4 := gs.c4; have s5 := gs.c5
  clear gs
  have nHX2 := HX2.out.lt
  have gx := HX2.out.at
  have xc0 := gx.c0; have xc1 := gx.c1; have xc2 := gx.c2; have xc3 := gx.c3; have xc4 := gx.c4; have xc5 := gx.c5
  clear gx
  try simp only [sn0] at xc0 xc1 xc2 xc3 xc4 xc5
  have HY : Hid (SnH (x2.alloc (.cells #[.int .i64 y.bid, .int .i64 y.ask, .int .i64 y.last, .int .i64 y.vol, .int .i64 y.now, .int .i64 y.opn] 23)) x2.heap.size 23 y) := SnH.new x2 y 23
  have bn := below_new x2 (.cells #[.int .i64 y.bid, .int .i64 y.ask, .int .i64 y.last, .int .i64 y.vol, .int .i64 y.now, .int .i64 y.opn] 23)
  have HSa := (HS2.out.onto bn).hid
  have HXa := (HX2.out.onto bn).hid
  have hBa : Below w.heap.size w (x2.alloc (.cells #[.int .i64 y.bid, .int .i64 y.ask, .int .i64 y.last, .int .i64 y.vol, .int .i64 y.now, .int .i64 y.opn] 23)) := hB2.alloc hB2.size _
  go_wp2_with fail
  refine (c3 _ (HB'.out.on hBa)).mono ?_
  rintro _ x3 ⟨rfl, b3⟩
  have HX3 := (HXa.out.onto b3).hid
  have HS3 := (HSa.out.onto b3).hid
  have hB3 : Below w.heap.size w x3 := hBa.trans (b3.mono hBa.size)
  clear s0 s1 s2 s3 s4 s5 xc0 xc1 xc2 xc3 xc4 xc5 HX2 HS2 HSa HXa hBa hB2 b3 c3 HB' bn HY
  have nHS3 := HS3.out.lt
  have gs := HS3.out.at
  have s0 := gs.c0; have s1 := gs.c1; have s2 := gs.c2; have s3 := gs.c3; have s4 := gs.c4; have s5 := gs.c5
  clear gs
  have nHX3 := HX3.out.lt
  have gx := HX3.out.at
  have xc0 := gx.c0; have xc1 := gx.c1; have xc2 := gx.c2; have xc3 := gx.c3; have xc4 := gx.c4; have xc5 := gx.c5
  clear gx
  try simp only [sn0] at xc0 xc1 xc2 xc3 xc4 xc5
  have HZ : Hid (SnH (x3.alloc (.cells #[.int .i64 x.bid, .int .i64 x.ask, .int .i64 x.last, .int .i64 x.vol, .int .i64 x.now, .int .i64 x.opn] 23)) x3.heap.size 23 x) := SnH.new x3 x 23
  have bn := below_new x3 (.cells #[.int .i64 x.bid, .int .i64 x.ask, .int .i64 x.last, .int .i64 x.vol, .int .i64 x.now, .int .i64 x.opn] 23)
  have HXb := (HX3.out.onto bn).hid
  have hBb : Below w.heap.size w (x3.alloc (.cells #[.int .i64 x.bid, .int .i64 x.ask, .int .i64 x.last, .int .i64 x.vol, .int .i64 x.now, .int .i64 x.opn] 23)) := hB3.alloc hB3.size _
  go_wp2_with fail
  refine (c4 _).mono ?_
  rintro _ x4 ⟨rfl, b4⟩
  have HX4 := (HXb.out.onto b4).hid
  have HZ4 := (HZ.out.onto b4).hid
  have hB4 : Below w.heap.size w x4 := hBb.trans (b4.mono hBb.size)
  clear s0 s1 s2 s3 s4 s5 xc0 xc1 xc2 xc3 xc4 xc5 HX3 HS3 HXb HZ bn b4 hBb hB3 c4
  have nHX4 := HX4.out.lt
  have gx := HX4.out.at
  have xc0 := gx.c0; have xc1 := gx.c1; have xc2 := gx.c2; have xc3 := gx.c3; have xc4 := gx.c4; have xc5 := gx.c5
  clear gx
  try simp only [sn0] at xc0 xc1 xc2 xc3 xc4 xc5
  have nHZ4 := HZ4.out.lt
  have gz := HZ4.out.at
  have z0 := gz.c0; have z1 := gz.c1; have z2 := gz.c2; have z3 := gz.c3; have z4 := gz.c4; have z5 := gz.c5
  clear gz
  try simp only [sn0] at z0 z1 z2 z3 z4 z5
  go_wp2_with fail
  refine (c5 _).mono ?_
  rintro _ x5 ⟨rfl, b5⟩
  have HX5 := (HX4.out.onto b5).hid
  have HZ5 := (HZ4.out.onto b5).hid
  have hB5 : Below w.heap.size w x5 := hB4.trans (b5.mono hB4.size)
  clear xc0 xc1 xc2 xc3 xc4 xc5 z0 z1 z2 z3 z4 z5 HX4 HZ4 b5 hB4 c5
  have nHX5 := HX5.out.lt
  have gx := HX5.out.at
  have xc0 := gx.c0; have xc1 := gx.c1; have xc2 := gx.c2; have xc3 := gx.c3; have xc4 := gx.c4; have xc5 := gx.c5
  clear gx
  try simp only [sn0] at xc0 xc1 xc2 xc3 xc4 xc5
  have nHZ5 := HZ5.out.lt
  have gz := HZ5.out.at
  have z0 := gz.c0; have z1 := gz.c1; have z2 := gz.c2; have z3 := gz.c3; have z4 := gz.c4; have z5 := gz.c5
  clear gz
  try simp only [sn0] at z0 z1 z2 z3 z4 z5
  go_wp2
  go_ret
  exact ⟨rfl, hB5⟩

theorem parts_all (s : Sn) (a : Option Addr) (la ca : Nat) (A : Nat → Fd) (b : Option Addr) (lb cb : Nat) (B : Nat → Fd) (w : World) (hA : Fds w a la A) (hB : Fds w b lb B) (na : a = none → la = 0 ∧ ca = 0) (nb : b = none → lb = 0 ∧ cb = 0) (hmax : la + lb ≤ 9223372036854775807) :
    Calls Try.prog 5 #[.agg (snA s), .slice a la ca, .slice b lb cb] w fun e w' => e = .returned (.bool true) ∧ Below w.heap.size w w' := by
  by_cases h : 67108863 < la + lb
  · exact parts_long s a la ca b lb cb w h hmax
  · cases h2 : foldO s A la with
    | none => exact parts_1 s a la ca A b lb cb B w hA hB na nb (by omega) h2
    | some y =>
      cases h3 : foldO y B lb with
      | none => exact parts_2 s a la ca A b lb cb B w hA hB na nb (by omega) y h2 h3
      | some x => exact parts_3 s a la ca A b lb cb B w hA hB na nb (by omega) y x h2 h3
end Go.Proofs.Ytjjmpfpbfkploaa
