/-
  The walk of SnapFolds.
-/
import Derived.Test.YtjjmpfpbfkploaaWorks
import Derived.Test.YtjjmpfpbfkploaaRfold
import Derived.Test.YtjjmpfpbfkploaaRchk
namespace Go.Proofs.Ytjjmpfpbfkploaa
open Go.RowKit

theorem Fds.hid {w : World} {ao : Option Addr} {len : Nat} {A : Nat → Fd} (h : Fds w ao len A) : Hid (Fds w ao len A) := h
/-- Two slices of the same feeds are the same. -/
theorem sameF_fds {w : World} {a1 a2 : Option Addr} {len c1 c2 : Nat} {A : Nat → Fd} (h1 : Fds w a1 len A) (h2 : Fds w a2 len A) (hmax : len ≤ 1099511627776) :
    Calls Try.prog 23 #[.slice a1 len c1, .slice a2 len c2] w fun e w' => e = .returned (.bool true) ∧ ∃ n, w' = w.drewN n := by
  by_cases h0 : len = 0
  · subst h0
    exact sameF_none a1 a2 c1 c2 w
  · obtain ⟨b1, o1, rfl, _, k1⟩ := h1 (by omega)
    obtain ⟨b2, o2, rfl, _, k2⟩ := h2 (by omega)
    exact sameF_any b1 o1 c1 b2 o2 c2 len A w hmax (fun j hj => (k1 j hj).1) (fun j hj => (k2 j hj).1)

set_option maxRecDepth 100000 in
set_option maxHeartbeats 4000000 in
theorem folds_long (s t : Sn) (f : Int) (ao : Option Addr) (len cap : Nat) (w : World) (hlen : 67108863 < len) (hmax : len ≤ 9223372036854775807) :
    Calls Try.prog 3 #[.agg (snA s), .agg (snA t), .int .u8 f, .slice ao len cap] w fun e w' => e = .returned (.bool true) ∧ Below w.heap.size w w' := by
  have hG : G2 w ((w.alloc (.cells (snA s) 23)).alloc (.cells (snA t) 23)) w.heap.size s (w.heap.size + 1) t := ⟨(SnAt.new w s 23).on (below_new (w.alloc (.cells (snA s) 23)) (.cells (snA t) 23)) (by rw [size_alloc]; omega), (by have := SnAt.new (w.alloc (.cells (snA s) 23)) t 23; rwa [size_alloc] at this), by rw [size_alloc, size_alloc]; omega, by rw [size_alloc, size_alloc]; omega, below_two _ _ _⟩
  unfold snA at hG ⊢
  obtain ⟨W, hW⟩ : ∃ W, (w.alloc (.cells #[.int .i64 s.bid, .int .i64 s.ask, .int .i64 s.last, .int .i64 s.vol, .int .i64 s.now, .int .i64 s.opn] 23)).alloc (.cells #[.int .i64 t.bid, .int .i64 t.ask, .int .i64 t.last, .int .i64 t.vol, .int .i64 t.now, .int .i64 t.opn] 23) = W := ⟨_, rfl⟩
  rw [hW] at hG
  have HG := hG.hid
  clear hG
  have s0 := HG.out.S.c0; have s1 := HG.out.S.c1; have s2 := HG.out.S.c2; have s3 := HG.out.S.c3; have s4 := HG.out.S.c4; have s5 := HG.out.S.c5
  have t0 := HG.out.T.c0; have t1 := HG.out.T.c1; have t2 := HG.out.T.c2; have t3 := HG.out.T.c3; have t4 := HG.out.T.c4; have t5 := HG.out.T.c5
  have hl' : (67108863 : Int) < (len : Int) := by omega
  go_enter Try.func3, Try.ntmps3
  go_wp2_with fail
  refine (works_any _).mono ?_
  rintro _ v0 ⟨rfl, bb⟩
  replace HG := (HG.out.step bb).hid
  clear s0 s1 s2 s3 s4 s5 t0 t1 t2 t3 t4 t5
  go_wp2
  go_ret
  exact ⟨rfl, HG.out.B⟩

set_option maxRecDepth 100000 in
set_option maxHeartbeats 4000000 in
theorem folds_short (s t : Sn) (f : Int) (f0 : 0 ≤ f) (f1 : f ≤ 255) (ao : Option Addr) (len cap : Nat) (A : Nat → Fd) (w : World) (hA : Fds w ao len A) (hn : ao = none → len = 0 ∧ cap = 0) (hlen : len ≤ 67108863) :
    Calls Try.prog 3 #[.agg (snA s), .agg (snA t), .int .u8 f, .slice ao len cap] w fun e w' => e = .returned (.bool true) ∧ Below w.heap.size w w' := by
  have HA := hA.hid
  have HN : Hid (ao = none → len = 0 ∧ cap = 0) := hn
  clear hA hn
  have hG : G2 w ((w.alloc (.cells (snA s) 23)).alloc (.cells (snA t) 23)) w.heap.size s (w.heap.size + 1) t := ⟨(SnAt.new w s 23).on (below_new (w.alloc (.cells (snA s) 23)) (.cells (snA t) 23)) (by rw [size_alloc]; omega), (by have := SnAt.new (w.alloc (.cells (snA s) 23)) t 23; rwa [size_alloc] at this), by rw [size_alloc, size_alloc]; omega, by rw [size_alloc, size_alloc]; omega, below_two _ _ _⟩
  unfold snA at hG ⊢
  obtain ⟨W, hW⟩ : ∃ W, (w.alloc (.cells #[.int .i64 s.bid, .int .i64 s.ask, .int .i64 s.last, .int .i64 s.vol, .int .i64 s.now, .int .i64 s.opn] 23)).alloc (.cells #[.int .i64 t.bid, .int .i64 t.ask, .int .i64 t.last, .int .i64 t.vol, .int .i64 t.now, .int .i64 t.opn] 23) = W := ⟨_, rfl⟩
  rw [hW] at hG
  have HG := hG.hid
  clear hG
  have s0 := HG.out.S.c0; have s1 := HG.out.S.c1; have s2 := HG.out.S.c2; have s3 := HG.out.S.c3; have s4 := HG.out.S.c4; have s5 := HG.out.S.c5
  have t0 := HG.out.T.c0; have t1 := HG.out.T.c1; have t2 := HG.out.T.c2; have t3 := HG.out.T.c3; have t4 := HG.out.T.c4; have t5 := HG.out.T.c5
  have hl' : ¬ (67108863 : Int) < (len : Int) := by omega
  have c1 := fun v => check_any s v
  have c2 := fun v => rcheck_any s v
  have c3 := fun v => get_any s f f0 f1 v
  have c4 := fun v => rget_any s f v
  have c5 := fun v => name_any f f0 f1 v
  have c6 := fun v => rname_any f v
  have c7 := fun v => diff_any s t v
  have c8 := fun v => rdiff_any s t v
  unfold snA at c1 c2 c3 c4 c7 c8
  obtain ⟨k1, e1⟩ : ∃ x, chkN s = x := ⟨_, rfl⟩
  obtain ⟨k2, e2⟩ : ∃ x, getN s f = x := ⟨_, rfl⟩
  obtain ⟨k3, e3⟩ : ∃ x, nameS f = x := ⟨_, rfl⟩
  obtain ⟨k4, e4⟩ : ∃ x, diffN s t = x := ⟨_, rfl⟩
  rw [e1] at c1 c2
  rw [e2] at c3 c4
  rw [e3] at c5 c6
  rw [e4] at c7 c8
  clear e1 e2 e3 e4 f0 f1
  go_enter Try.func3, Try.ntmps3
  go_wp2_with fail
  refine (works_any _).mono ?_
  rintro _ v0 ⟨rfl, bb⟩
  replace HG := (HG.out.step bb).hid
  clear s0 s1 s2 s3 s4 s5 t0 t1 t2 t3 t4 t5
  have s0 := HG.out.S.c0; have s1 := HG.out.S.c1; have s2 := HG.out.S.c2; have s3 := HG.out.S.c3; have s4 := HG.out.S.c4; have s5 := HG.out.S.c5
  have t0 := HG.out.T.c0; have t1 := HG.out.T.c1; have t2 := HG.out.T.c2; have t3 := HG.out.T.c3; have t4 := HG.out.T.c4; have t5 := HG.out.T.c5
  clear bb
  go_wp2_with fail
  refine (c1 _).mono ?_
  rintro _ v1 ⟨rfl, bb⟩
  replace HG := (HG.out.step bb).hid
  clear s0 s1 s2 s3 s4 s5 t0 t1 t2 t3 t4 t5
  have s0 := HG.out.S.c0; have s1 := HG.out.S.c1; have s2 := HG.out.S.c2; have s3 := HG.out.S.c3; have s4 := HG.out.S.c4; have s5 := HG.out.S.c5
  have t0 := HG.out.T.c0; have t1 := HG.out.T.c1; have t2 := HG.out.T.c2; have t3 := HG.out.T.c3; have t4 := HG.out.T.c4; have t5 := HG.out.T.c5
  clear bb c1
  go_wp2_with fail
  refine (c2 _).mono ?_
  rintro _ v2 ⟨rfl, bb⟩
  replace HG := (HG.out.step bb).hid
  clear s0 s1 s2 s3 s4 s5 t0 t1 t2 t3 t4 t5
  have s0 := HG.out.S.c0; have s1 := HG.out.S.c1; have s2 := HG.out.S.c2; have s3 := HG.out.S.c3; have s4 := HG.out.S.c4; have s5 := HG.out.S.c5
  have t0 := HG.out.T.c0; have t1 := HG.out.T.c1; have t2 := HG.out.T.c2; have t3 := HG.out.T.c3; have t4 := HG.out.T.c4; have t5 := HG.out.T.c5
  clear bb c2
  go_wp2_with fail
  refine (c3 _).mono ?_
  rintro _ v3 ⟨rfl, bb⟩
  replace HG := (HG.out.step bb).hid
  clear s0 s1 s2 s3 s4 s5 t0 t1 t2 t3 t4 t5
  have s0 := HG.out.S.c0; have s1 := HG.out.S.c1; have s2 := HG.out.S.c2; have s3 := HG.out.S.c3; have s4 := HG.out.S.c4; have s5 := HG.out.S.c5
  have t0 := HG.out.T.c0; have t1 := HG.out.T.c1; have t2 := HG.out.T.c2; have t3 := HG.out.T.c3; have t4 := HG.out.T.c4; have t5 := HG.out.T.c5
  clear bb c3
  go_wp2_with fail
  refine (c4 _).mono ?_
  rintro _ v4 ⟨rfl, bb⟩
  replace HG := (HG.out.step bb).hid
  clear s0 s1 s2 s3 s4 s5 t0 t1 t2 t3 t4 t5
  have s0 := HG.out.S.c0; have s1 := HG.out.S.c1; have s2 := HG.out.S.c2; have s3 := HG.out.S.c3; have s4 := HG.out.S.c4; have s5 := HG.out.S.c5
  have t0 := HG.out.T.c0; have t1 := HG.out.T.c1; have t2 := HG.out.T.c2; have t3 := HG.out.T.c3; have t4 := HG.out.T.c4; have t5 := HG.out.T.c5
  clear bb c4
  go_wp2_with fail
  refine (c5 _).mono ?_
  rintro _ v5 ⟨rfl, bb⟩
  replace HG := (HG.out.step bb).hid
  clear s0 s1 s2 s3 s4 s5 t0 t1 t2 t3 t4 t5
  have s0 := HG.out.S.c0; have s1 := HG.out.S.c1; have s2 := HG.out.S.c2; have s3 := HG.out.S.c3; have s4 := HG.out.S.c4; have s5 := HG.out.S.c5
  have t0 := HG.out.T.c0; have t1 := HG.out.T.c1; have t2 := HG.out.T.c2; have t3 := HG.out.T.c3; have t4 := HG.out.T.c4; have t5 := HG.out.T.c5
  clear bb c5
  go_wp2_with fail
  refine (c6 _).mono ?_
  rintro _ v6 ⟨rfl, rfl⟩
  clear c6
  go_wp2_with fail
  refine (c7 _).mono ?_
  rintro _ v7 ⟨rfl, bb⟩
  replace HG := (HG.out.step bb).hid
  clear s0 s1 s2 s3 s4 s5 t0 t1 t2 t3 t4 t5
  have s0 := HG.out.S.c0; have s1 := HG.out.S.c1; have s2 := HG.out.S.c2; have s3 := HG.out.S.c3; have s4 := HG.out.S.c4; have s5 := HG.out.S.c5
  have t0 := HG.out.T.c0; have t1 := HG.out.T.c1; have t2 := HG.out.T.c2; have t3 := HG.out.T.c3; have t4 := HG.out.T.c4; have t5 := HG.out.T.c5
  clear bb c7
  go_wp2_with fail
  refine (c8 _).mono ?_
  rintro _ v8 ⟨rfl, bb⟩
  replace HG := (HG.out.step bb).hid
  clear s0 s1 s2 s3 s4 s5 t0 t1 t2 t3 t4 t5
  have s0 := HG.out.S.c0; have s1 := HG.out.S.c1; have s2 := HG.out.S.c2; have s3 := HG.out.S.c3; have s4 := HG.out.S.c4; have s5 := HG.out.S.c5
  have t0 := HG.out.T.c0; have t1 := HG.out.T.c1; have t2 := HG.out.T.c2; have t3 := HG.out.T.c3; have t4 := HG.out.T.c4; have t5 := HG.out.T.c5
  clear bb c8
  go_wp2_with fail
  have hl := (HA.out.on HG.out.B)
  refine (lentF_at ao len cap (fdF A) _ hl.lie (fdF_one A) HN.out (by omega)).mono ?_
  rintro _ v9 ⟨rfl, hsz, hlie, hmk, bb⟩
  obtain ⟨B, eB⟩ : ∃ B, v8.heap.size = B := ⟨_, rfl⟩
  rw [eB] at hlie hmk hsz ⊢
  have hwf : ∀ j, j < len → Wf (A j) := fun j hj => by obtain ⟨b, off, _, _, hc⟩ := HA.out (by omega); exact (hc j hj).2
  have hown := (hlie.fds hwf).hid
  have HM : Hid (_) := hmk
  have HZ : Hid (B < v9.heap.size) := hsz
  replace HG := (HG.out.step bb).hid
  clear s0 s1 s2 s3 s4 s5 t0 t1 t2 t3 t4 t5
  have s0 := HG.out.S.c0; have s1 := HG.out.S.c1; have s2 := HG.out.S.c2; have s3 := HG.out.S.c3; have s4 := HG.out.S.c4; have s5 := HG.out.S.c5
  have t0 := HG.out.T.c0; have t1 := HG.out.T.c1; have t2 := HG.out.T.c2; have t3 := HG.out.T.c3; have t4 := HG.out.T.c4; have t5 := HG.out.T.c5
  clear bb hl hlie hmk hsz eB
  obtain ⟨o, eo⟩ : ∃ o, foldO s A len = o := ⟨_, rfl⟩
  have c9 := fun v h => fold_any s (some ⟨B, 0, none⟩) len (len + 2) A v h (by omega)
  have d9 := fun v h => rfold_any s ao len cap A v h (by omega)
  rw [eo] at c9 d9
  unfold foldV at c9 d9
  obtain ⟨p, ep⟩ : ∃ p, outS o = p := ⟨_, rfl⟩
  obtain ⟨m, em⟩ : ∃ m, outM s o = m := ⟨_, rfl⟩
  obtain ⟨r, er⟩ : ∃ r, outE o = r := ⟨_, rfl⟩
  rw [ep, em, er] at c9 d9
  unfold snA at c9 d9
  clear eo ep em er
  go_wp2_with fail
  refine (c9 _ hown.out).mono ?_
  rintro _ v10 ⟨rfl, bb⟩
  replace HG := (HG.out.step bb).hid
  clear s0 s1 s2 s3 s4 s5 t0 t1 t2 t3 t4 t5
  have s0 := HG.out.S.c0; have s1 := HG.out.S.c1; have s2 := HG.out.S.c2; have s3 := HG.out.S.c3; have s4 := HG.out.S.c4; have s5 := HG.out.S.c5
  have t0 := HG.out.T.c0; have t1 := HG.out.T.c1; have t2 := HG.out.T.c2; have t3 := HG.out.T.c3; have t4 := HG.out.T.c4; have t5 := HG.out.T.c5
  have bn := below_new v10 (.cells (snA p) 23)
  have hk : Below v9.heap.size v9 (v10.alloc (.cells (snA p) 23)) := bb.trans (bn.mono bb.size)
  have hP := SnH.new v10 p 23
  clear c9 bb
  go_wp2_with fail
  unfold snA at bn hk hP
  obtain ⟨V, eV⟩ : ∃ V, v10.alloc (.cells #[.int .i64 p.bid, .int .i64 p.ask, .int .i64 p.last, .int .i64 p.vol, .int .i64 p.now, .int .i64 p.opn] 23) = V := ⟨_, rfl⟩
  obtain ⟨Pb, ePb⟩ : ∃ Pb, v10.heap.size = Pb := ⟨_, rfl⟩
  have bn' := bn
  rw [eV] at bn' hk hP ⊢
  rw [ePb] at hP ⊢
  replace HG := (HG.out.step bn').hid
  clear s0 s1 s2 s3 s4 s5 t0 t1 t2 t3 t4 t5
  have s0 := HG.out.S.c0; have s1 := HG.out.S.c1; have s2 := HG.out.S.c2; have s3 := HG.out.S.c3; have s4 := HG.out.S.c4; have s5 := HG.out.S.c5
  have t0 := HG.out.T.c0; have t1 := HG.out.T.c1; have t2 := HG.out.T.c2; have t3 := HG.out.T.c3; have t4 := HG.out.T.c4; have t5 := HG.out.T.c5
  have hownV := hown.out.on hk
  have hlV := HA.out.on HG.out.B
  obtain ⟨m0, m1, m2, m3, m4, m5⟩ := HM.out
  refine (wholeF_any B ao cap len _ (by omega) (sameF_fds hownV hlV (by omega)) ⟨(hk.cell HZ.out).trans m0, (hk.cell HZ.out).trans m1, (hk.cell HZ.out).trans m2, (hk.cell HZ.out).trans m3, (hk.cell HZ.out).trans m4, (hk.cell HZ.out).trans m5⟩).mono ?_
  rintro _ v11 ⟨rfl, n11, e11⟩
  have hD : Below V.heap.size V v11 := by rw [e11]; exact below_drew (Below.refl _ _) n11
  replace HG := (HG.out.step hD).hid
  clear s0 s1 s2 s3 s4 s5 t0 t1 t2 t3 t4 t5
  have s0 := HG.out.S.c0; have s1 := HG.out.S.c1; have s2 := HG.out.S.c2; have s3 := HG.out.S.c3; have s4 := HG.out.S.c4; have s5 := HG.out.S.c5
  have t0 := HG.out.T.c0; have t1 := HG.out.T.c1; have t2 := HG.out.T.c2; have t3 := HG.out.T.c3; have t4 := HG.out.T.c4; have t5 := HG.out.T.c5
  have HP : Hid (SnH v11 Pb 23 p) := SnH.onto hP hD
  have hl11 := (HA.out.on HG.out.B).hid
  clear hownV hlV m0 m1 m2 m3 m4 m5 hk hP bn bn' eV ePb e11 hD HM HZ hown hwf
  go_wp2_with fail
  refine (d9 _ hl11.out).mono ?_
  rintro _ v12 ⟨rfl, bb⟩
  have HP2 := (HP.out.onto bb)
  have q := HP2.at
  have q0 := q.c0; have q1 := q.c1; have q2 := q.c2; have q3 := q.c3; have q4 := q.c4; have q5 := q.c5
  have hlt := HP2.lt
  have hne : Pb ≠ v12.heap.size := by omega
  replace HG := (HG.out.step bb).hid
  clear s0 s1 s2 s3 s4 s5 t0 t1 t2 t3 t4 t5
  have s0 := HG.out.S.c0; have s1 := HG.out.S.c1; have s2 := HG.out.S.c2; have s3 := HG.out.S.c3; have s4 := HG.out.S.c4; have s5 := HG.out.S.c5
  have t0 := HG.out.T.c0; have t1 := HG.out.T.c1; have t2 := HG.out.T.c2; have t3 := HG.out.T.c3; have t4 := HG.out.T.c4; have t5 := HG.out.T.c5
  clear bb d9 HP hl11 q HP2
  go_wp2
  go_ret
  exact ⟨rfl, HG.out.B.alloc HG.out.B.size _⟩

theorem folds_all (s t : Sn) (f : Int) (f0 : 0 ≤ f) (f1 : f ≤ 255) (ao : Option Addr) (len cap : Nat) (A : Nat → Fd) (w : World) (hA : Fds w ao len A) (hn : ao = none → len = 0 ∧ cap = 0) (hmax : len ≤ 9223372036854775807) :
    Calls Try.prog 3 #[.agg (snA s), .agg (snA t), .int .u8 f, .slice ao len cap] w fun e w' => e = .returned (.bool true) ∧ Below w.heap.size w w' := by
  by_cases h : 67108863 < len
  · exact folds_long s t f ao len cap w h hmax
  · exact folds_short s t f f0 f1 ao len cap A w hA hn (by omega)
end Go.Proofs.Ytjjmpfpbfkploaa
