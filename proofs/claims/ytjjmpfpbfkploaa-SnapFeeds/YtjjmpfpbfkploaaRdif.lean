/-
  The walk of the document's Diff.
-/
import Derived.Test.YtjjmpfpbfkploaaMsk
import Derived.Deep.RegionWith
namespace Go.Proofs.Ytjjmpfpbfkploaa
open Go.RowKit

theorem below_dw {w w1 : World} (h : Below w.drew.heap.size w.drew w1) : Below w.heap.size w w1 := ⟨h.os, h.tape, h.output, h.size, h.block⟩
theorem below_dn {w w1 : World} {n : Nat} (h : Below (w.drewN n).heap.size (w.drewN n) w1) : Below w.heap.size w w1 := ⟨h.os, h.tape, h.output, h.size, h.block⟩
/-- Two snapshots that lie in blocks of their own. -/
structure G2 (w v : World) (b1 : Nat) (s : Sn) (b2 : Nat) (t : Sn) : Prop where
  S : SnAt v b1 s
  T : SnAt v b2 t
  h1 : b1 < v.heap.size
  h2 : b2 < v.heap.size
  B : Below w.heap.size w v
theorem G2.step {w v v' : World} {b1 b2 : Nat} {s t : Sn} (h : G2 w v b1 s b2 t) (k : Below v.heap.size v v') : G2 w v' b1 s b2 t :=
  ⟨h.S.on k h.h1, h.T.on k h.h2, Nat.lt_of_lt_of_le h.h1 k.size, Nat.lt_of_lt_of_le h.h2 k.size, h.B.trans (k.mono h.B.size)⟩
theorem G2.drew {w v : World} {b1 b2 : Nat} {s t : Sn} (h : G2 w v b1 s b2 t) : G2 w v.drew b1 s b2 t := ⟨⟨h.S.c0, h.S.c1, h.S.c2, h.S.c3, h.S.c4, h.S.c5⟩, ⟨h.T.c0, h.T.c1, h.T.c2, h.T.c3, h.T.c4, h.T.c5⟩, h.h1, h.h2, h.B.drew⟩
theorem G2.drewN {w v : World} {b1 b2 : Nat} {s t : Sn} (h : G2 w v b1 s b2 t) (n : Nat) : G2 w (v.drewN n) b1 s b2 t := ⟨⟨h.S.c0, h.S.c1, h.S.c2, h.S.c3, h.S.c4, h.S.c5⟩, ⟨h.T.c0, h.T.c1, h.T.c2, h.T.c3, h.T.c4, h.T.c5⟩, h.h1, h.h2, below_drew h.B n⟩
theorem G2.hid {w v : World} {b1 b2 : Nat} {s t : Sn} (h : G2 w v b1 s b2 t) : Hid (G2 w v b1 s b2 t) := h

set_option maxRecDepth 100000 in
set_option maxHeartbeats 4000000 in
theorem rdiff_any (s t : Sn) (w : World) : Calls Try.prog 14 #[.agg (snA s), .agg (snA t)] w fun e w' => e = .returned (.int .u16 (diffN s t)) ∧ Below w.heap.size w w' := by
  have hG : G2 w ((w.alloc (.cells (snA s) 23)).alloc (.cells (snA t) 23)) w.heap.size s (w.heap.size + 1) t := ⟨(SnAt.new w s 23).on (below_new (w.alloc (.cells (snA s) 23)) (.cells (snA t) 23)) (by rw [size_alloc]; omega), (by have := SnAt.new (w.alloc (.cells (snA s) 23)) t 23; rwa [size_alloc] at this), by rw [size_alloc, size_alloc]; omega, by rw [size_alloc, size_alloc]; omega, below_two _ _ _⟩
  unfold snA at *
  obtain ⟨W, hW⟩ : ∃ W, (w.alloc (.cells #[.int .i64 s.bid, .int .i64 s.ask, .int .i64 s.last, .int .i64 s.vol, .int .i64 s.now, .int .i64 s.opn] 23)).alloc (.cells #[.int .i64 t.bid, .int .i64 t.ask, .int .i64 t.last, .int .i64 t.vol, .int .i64 t.now, .int .i64 t.opn] 23) = W := ⟨_, rfl⟩
  rw [hW] at hG
  go_enter Try.func14, Try.ntmps14
  go_wp2_with fail
  go_loopw [5, 6] (fun m i wr => ∃ k : Nat, 1 ≤ k ∧ k ≤ 7 ∧ i = .int .u8 k ∧ m = .int .u16 (diffK s t k) ∧ G2 w wr w.heap.size s (w.heap.size + 1) t) (fun _ i _ => 7 - (intOf i).toNat)
  case atStart => exact ⟨1, by omega, by omega, rfl, rfl, hG⟩
  case round =>
    obtain ⟨k, hk1, hk, rfl, rfl, hg⟩ := hrel
    clear hG
    have HG := hg.hid
    have s0 := hg.S.c0; have s1 := hg.S.c1; have s2 := hg.S.c2; have s3 := hg.S.c3; have s4 := hg.S.c4; have s5 := hg.S.c5
    have t0 := hg.T.c0; have t1 := hg.T.c1; have t2 := hg.T.c2; have t3 := hg.T.c3; have t4 := hg.T.c4; have t5 := hg.T.c5
    clear hg
    by_cases h7 : k = 7
    · subst h7
      have hd := diffK_all s t
      clear s0 s1 s2 s3 s4 s5 t0 t1 t2 t3 t4 t5
      go_wp2
      go_ret
      exact ⟨by first | rfl | exact retM hd, HG.out.B⟩
    · have hlt : (k : Int) < 7 := by omega
      have hk3 : (k : Int) ≤ 6 := by omega
      obtain ⟨l0, l1⟩ := diffK_lt s t k
      have hp : 2 ^ k ≤ 2 ^ 6 := Nat.pow_le_pow_right (by omega) (by omega)
      have hstep : Hid (diffK s t (k + 1) = diffK s t k + bitN (getN s k) (getN t k) ((2 ^ k : Nat) : Int)) := rfl
      obtain ⟨D, hD⟩ : ∃ D, diffK s t k = D := ⟨_, rfl⟩
      obtain ⟨P, hP⟩ : ∃ P, 2 ^ k = P := ⟨_, rfl⟩
      have hQ : Hid (2 ^ k = P) := hP
      rw [hD, hP] at hstep
      rw [hD]
      rw [hD, hP] at l1
      rw [hD] at l0
      rw [hP] at hp
      clear hD hP
      obtain ⟨a, ha⟩ : ∃ a, getN s k = a := ⟨_, rfl⟩
      obtain ⟨b, hb⟩ : ∃ b, getN t k = b := ⟨_, rfl⟩
      have cS : ∀ v, Calls Try.prog 10 #[.agg #[.int .i64 s.bid, .int .i64 s.ask, .int .i64 s.last, .int .i64 s.vol, .int .i64 s.now, .int .i64 s.opn], .int .u8 k] v fun e w' => e = .returned (.int .i64 a) ∧ Below v.heap.size v w' := fun v => ha ▸ rget_any s k v
      have cT : ∀ v, Calls Try.prog 10 #[.agg #[.int .i64 t.bid, .int .i64 t.ask, .int .i64 t.last, .int .i64 t.vol, .int .i64 t.now, .int .i64 t.opn], .int .u8 k] v fun e w' => e = .returned (.int .i64 b) ∧ Below v.heap.size v w' := fun v => hb ▸ rget_any t k v
      rw [ha, hb] at hstep
      have hkk : Hid (1 ≤ k ∧ k ≤ 6) := ⟨hk1, by omega⟩
      have hl : Hid (0 ≤ D ∧ D < (P : Int)) := ⟨l0, l1⟩
      clear ha hb hk1 hk l0 l1 hp
      go_wp2_with fail
      have mk : Hid True := trivial
      go_region_with (go_at_call 10; first
        | (clear mk; refine (cS _).mono ?_; rintro e w1 ⟨rfl, hb1⟩; (first | have HG := (HG.out.step hb1).hid | have HG := (HG.out.step (below_dw hb1)).hid | have HG := (HG.out.step (below_dn hb1)).hid); have t0 := HG.out.T.c0; have t1 := HG.out.T.c1; have t2 := HG.out.T.c2; have t3 := HG.out.T.c3; have t4 := HG.out.T.c4; have t5 := HG.out.T.c5)
        | (refine (cT _).mono ?_; rintro e w1 ⟨rfl, hb1⟩; (first | have HG := (HG.out.step hb1).hid | have HG := (HG.out.step (below_dw hb1)).hid | have HG := (HG.out.step (below_dn hb1)).hid); have s0 := HG.out.S.c0; have s1 := HG.out.S.c1; have s2 := HG.out.S.c2; have s3 := HG.out.S.c3; have s4 := HG.out.S.c4; have s5 := HG.out.S.c5))
      all_goals
        have hk' : k = 1 ∨ k = 2 ∨ k = 3 ∨ k = 4 ∨ k = 5 ∨ k = 6 := by have := hkk.out; omega
        obtain ⟨l0, l1⟩ := hl.out
        have hq := hQ.out
        clear hl hQ hkk s0 s1 s2 s3 s4 s5 t0 t1 t2 t3 t4 t5 cS cT hlt hk3 h7
        by_cases he : a = b
        · have hs : Hid (diffK s t (k + 1) = D) := by show _ = _; rw [hstep.out, bitN_eq _ he, Int.add_zero]
          have he' : (a == b) = true := by simp [he]
          clear he hstep
          rcases hk' with rfl | rfl | rfl | rfl | rfl | rfl
          all_goals
            go_wp2
            exact ⟨⟨_, by decide, by decide, rfl, mI hs.out.symm, by first | exact HG.out | exact HG.out.drew | exact HG.out.drewN _⟩, by simp [intOf]⟩
        · have hs : Hid (diffK s t (k + 1) = D + (P : Int)) := by show _ = _; rw [hstep.out, bitN_ne _ he]
          have he' : (a == b) = false := beq_false_of_ne he
          clear he hstep
          rcases hk' with rfl | rfl | rfl | rfl | rfl | rfl
          all_goals
            simp at hq
            subst hq
            go_wp2
            exact ⟨⟨_, by decide, by decide, rfl, mI hs.out.symm, by first | exact HG.out | exact HG.out.drew | exact HG.out.drewN _⟩, by simp [intOf]⟩
end Go.Proofs.Ytjjmpfpbfkploaa
