/-
  The walk of the statements' head: what the chapter's examples fix.
-/
import Derived.Test.YtjjmpfpbfkploaaFold
import Derived.Test.YtjjmpfpbfkploaaFds
import Derived.Test.YtjjmpfpbfkploaaGet
import Derived.Test.YtjjmpfpbfkploaaDif
namespace Go.Proofs.Ytjjmpfpbfkploaa
open Go.RowKit

theorem fds1 (w : World) (B : Nat) (hB : w.heap.size = B) (x : Fd) (hx : Wf x) : Fds (w.alloc (.cells #[.int .u8 x.k, .int .i64 x.a, .int .i64 x.b] 66)) (some ⟨B, 0, none⟩) 1 (lsF [x]) := by
  subst hB
  intro _
  refine ⟨w.heap.size, 0, rfl, by rw [size_alloc]; omega, fun j hj => ?_⟩
  match j, hj with
  | 0, _ => exact ⟨⟨(cell_alloc ..).trans rfl, (cell_alloc ..).trans rfl, (cell_alloc ..).trans rfl⟩, hx⟩
theorem fds2 (w : World) (B : Nat) (hB : w.heap.size = B) (x y : Fd) (hx : Wf x) (hy : Wf y) : Fds (w.alloc (.cells #[.int .u8 x.k, .int .i64 x.a, .int .i64 x.b, .int .u8 y.k, .int .i64 y.a, .int .i64 y.b] 66)) (some ⟨B, 0, none⟩) 2 (lsF [x, y]) := by
  subst hB
  intro _
  refine ⟨w.heap.size, 0, rfl, by rw [size_alloc]; omega, fun j hj => ?_⟩
  match j, hj with
  | 0, _ => exact ⟨⟨(cell_alloc ..).trans rfl, (cell_alloc ..).trans rfl, (cell_alloc ..).trans rfl⟩, hx⟩
  | 1, _ => exact ⟨⟨(cell_alloc ..).trans rfl, (cell_alloc ..).trans rfl, (cell_alloc ..).trans rfl⟩, hy⟩
theorem fds3 (w : World) (B : Nat) (hB : w.heap.size = B) (x y z : Fd) (hx : Wf x) (hy : Wf y) (hz : Wf z) : Fds (w.alloc (.cells #[.int .u8 x.k, .int .i64 x.a, .int .i64 x.b, .int .u8 y.k, .int .i64 y.a, .int .i64 y.b, .int .u8 z.k, .int .i64 z.a, .int .i64 z.b] 66)) (some ⟨B, 0, none⟩) 3 (lsF [x, y, z]) := by
  subst hB
  intro _
  refine ⟨w.heap.size, 0, rfl, by rw [size_alloc]; omega, fun j hj => ?_⟩
  match j, hj with
  | 0, _ => exact ⟨⟨(cell_alloc ..).trans rfl, (cell_alloc ..).trans rfl, (cell_alloc ..).trans rfl⟩, hx⟩
  | 1, _ => exact ⟨⟨(cell_alloc ..).trans rfl, (cell_alloc ..).trans rfl, (cell_alloc ..).trans rfl⟩, hy⟩
  | 2, _ => exact ⟨⟨(cell_alloc ..).trans rfl, (cell_alloc ..).trans rfl, (cell_alloc ..).trans rfl⟩, hz⟩

def exS : Sn := ⟨10, 0, 10, 5, 3, 0⟩
def exE : Ev := ⟨2, 1, 0, 1, 2, 0, 10, 5, 0⟩
theorem evs1 (w : World) (B : Nat) (hB : w.heap.size = B) : Evs (w.alloc (.cells #[.int .u8 2, .int .i64 1, .int .i64 0, .int .i64 1, .int .i64 2, .int .u8 0, .int .i64 10, .int .i64 5, .int .i64 0] 70)) (some ⟨B, 0, none⟩) 1 (fun _ => exE) := by
  subst hB
  intro _
  refine ⟨w.heap.size, 0, rfl, by rw [size_alloc]; omega, fun j hj => ?_⟩
  match j, hj with
  | 0, _ => exact (cell_alloc ..).trans rfl
  | 1, _ => exact (cell_alloc ..).trans rfl
  | 2, _ => exact (cell_alloc ..).trans rfl
  | 3, _ => exact (cell_alloc ..).trans rfl
  | 4, _ => exact (cell_alloc ..).trans rfl
  | 5, _ => exact (cell_alloc ..).trans rfl
  | 6, _ => exact (cell_alloc ..).trans rfl
  | 7, _ => exact (cell_alloc ..).trans rfl
  | 8, _ => exact (cell_alloc ..).trans rfl

theorem ex1 : foldV sn0 (foldO sn0 (lsF [⟨1, 10, 0⟩, ⟨3, 10, 5⟩, ⟨4, 3, 0⟩]) 3) = .tuple #[.agg #[.int .i64 10, .int .i64 0, .int .i64 10, .int .i64 5, .int .i64 3, .int .i64 0], .int .u16 58, .int .i64 0] := by rfl
theorem ex2 : foldV sn0 (foldO sn0 (lsF [⟨1, 10, 0⟩, ⟨1, 0, 0⟩]) 2) = .tuple #[.agg #[.int .i64 0, .int .i64 0, .int .i64 0, .int .i64 0, .int .i64 0, .int .i64 0], .int .u16 0, .int .i64 0] := by rfl
theorem ex3 : foldV sn0 (foldO sn0 (lsF [⟨5, -1, 0⟩]) 1) = .tuple #[.agg #[.int .i64 0, .int .i64 0, .int .i64 0, .int .i64 0, .int .i64 0, .int .i64 0], .int .u16 0, .int .i64 100] := by rfl
theorem ex4 : feedsL ⟨0, 0, 0, 0⟩ ⟨9, 0, 0, 0⟩ 2 (fun _ => exE) 1 = [⟨3, 10, 5⟩, ⟨5, -5, 0⟩, ⟨1, 9, 0⟩] := by rfl
theorem wf_of {k a b : Int} (h : 0 ≤ k ∧ k ≤ 255 ∧ -9223372036854775808 ≤ a ∧ a ≤ 9223372036854775807) : Wf ⟨k, a, b⟩ := ⟨h.1, h.2.1, h.2.2.1, h.2.2.2⟩
/-- A list of the call's own, looked at thing by thing. -/
theorem RL.fds {W w : World} {v : Value} {L : List Fd} (h : RL W w v L) : ∃ ao c, v = .slice ao L.length c ∧ (0 < L.length → ∃ g, ao = some ⟨g, 0, none⟩ ∧ g < w.heap.size ∧ ∀ j, j < L.length → FdAt w g (0 + j * 3) (lsF L j)) ∧ (ao = none → L.length = 0 ∧ c = 0) := by
  obtain ⟨ao, c, rfl, h1, h2⟩ := h.row.form
  refine ⟨ao, c, rfl, fun h0 => ?_, fun e => ?_⟩
  · obtain ⟨g, rfl⟩ := h1 h0
    refine ⟨g, rfl, h.row.lt g rfl, fun j hj => ⟨?_, ?_, ?_⟩⟩
    · rw [Nat.zero_add, h.row.cell (by omega), fdF0]
    · rw [Nat.zero_add, h.row.cell (by omega), fdF1]
    · rw [Nat.zero_add, h.row.cell (by omega), fdF2]
  · rcases h2 with ⟨_, h3, h4⟩ | ⟨g, h3⟩
    · exact ⟨h3, h4⟩
    · rw [h3] at e; cases e

set_option maxRecDepth 100000 in
set_option maxHeartbeats 4000000 in
theorem works_any (w : World) : Calls Try.prog 6 #[] w fun e w' => e = .returned (.bool true) ∧ Below w.heap.size w w' := by
  go_enter Try.func6, Try.ntmps6
  go_wp2_with fail
  refine (fold_any sn0 _ 3 _ (lsF [⟨1, 10, 0⟩, ⟨3, 10, 5⟩, ⟨4, 3, 0⟩]) _ (fds3 w _ rfl ⟨1, 10, 0⟩ ⟨3, 10, 5⟩ ⟨4, 3, 0⟩ (wf_of (by decide)) (wf_of (by decide)) (wf_of (by decide))) (by decide)).mono ?_
  rintro _ v1 ⟨rfl, b1⟩
  rw [ex1]
  have hB1 : Below w.heap.size w v1 := (below_new w _).trans (b1.mono (by rw [size_alloc]; omega))
  have hX := SnH.new v1 exS 23
  have hB : Below w.heap.size w (v1.alloc (.cells (snA exS) 23)) := hB1.alloc hB1.size _
  have HX := hX.hid
  have HB1 : Hid (Below w.heap.size w (v1.alloc (.cells (snA exS) 23))) := hB
  clear hX hB hB1 b1
  go_wp2_with fail
  refine (fold_any sn0 _ 2 _ (lsF [⟨1, 10, 0⟩, ⟨1, 0, 0⟩]) _ (fds2 _ _ (size_alloc _ _) ⟨1, 10, 0⟩ ⟨1, 0, 0⟩ (wf_of (by decide)) (wf_of (by decide))) (by decide)).mono ?_
  rintro _ v2 ⟨rfl, b2⟩
  rw [ex2]
  have h2 : HB (v1.alloc (.cells (snA exS) 23)) v2 := HB.call b2 (HB.alloc (HB.refl _) _)
  obtain ⟨X, eX⟩ : ∃ X, v1.alloc (.cells (snA exS) 23) = X := ⟨_, rfl⟩
  obtain ⟨S, eS⟩ : ∃ S, v1.heap.size = S := ⟨_, rfl⟩
  rw [eX] at HX HB1 h2
  rw [eS] at HX ⊢
  clear eX eS
  clear b2
  go_wp2_with fail
  refine (fold_any sn0 _ 1 _ (lsF [⟨5, -1, 0⟩]) _ (fds1 _ _ (size_alloc _ _) ⟨5, -1, 0⟩ (wf_of (by decide))) (by decide)).mono ?_
  rintro _ v3 ⟨rfl, b3⟩
  rw [ex3]
  have h3 : HB X v3 := by (repeat (first | with_reducible assumption | with_reducible exact HB.refl _ | with_reducible apply HB.drew | with_reducible apply HB.alloc | with_reducible refine HB.set ?_ ?_ | with_reducible refine HB.call (by with_reducible assumption) ?_))
  clear b3 h2
  go_wp2_with fail
  refine (feeds_any ⟨0, 0, 0, 0⟩ ⟨9, 0, 0, 0⟩ 2 _ 1 _ (fun _ => exE) _ (evs1 _ _ (size_alloc _ _)) (by decide)).mono ?_
  rintro _ v4 ⟨u, rfl, hr⟩
  rw [ex4] at hr
  have b4 := hr.B
  have h4 : HB X v4 := by (repeat (first | with_reducible assumption | with_reducible exact HB.refl _ | with_reducible apply HB.drew | with_reducible apply HB.alloc | with_reducible refine HB.set ?_ ?_ | with_reducible refine HB.call (by with_reducible assumption) ?_))
  obtain ⟨ao, cp, rfl, hq, _⟩ := hr.fds
  obtain ⟨g, rfl, hg, hc⟩ := hq (by decide)
  clear b4 h3
  go_wp2_with fail
  have bn := below_new v4 (.cells #[.int .u8 3, .int .i64 10, .int .i64 5, .int .u8 5, .int .i64 (-5), .int .i64 0, .int .u8 1, .int .i64 9, .int .i64 0] 66)
  obtain ⟨b', off', eb, _, hd⟩ := fds3 v4 _ rfl ⟨3, 10, 5⟩ ⟨5, -5, 0⟩ ⟨1, 9, 0⟩ (wf_of (by decide)) (wf_of (by decide)) (wf_of (by decide)) (by decide)
  cases eb
  refine (sameF_any g 0 _ v4.heap.size 0 _ 3 (lsF [⟨3, 10, 5⟩, ⟨5, -5, 0⟩, ⟨1, 9, 0⟩]) _ (by decide) (fun j hj => (hc j hj).on bn hg) (fun j hj => (hd j hj).1)).mono ?_
  rintro _ v5 ⟨rfl, n5, e5⟩
  have h5 : HB X v5 := by rw [e5]; exact below_drew (Below.alloc h4 h4.size _) n5
  clear e5 h4 hr hd hc hq bn
  have g : SnAt v5 S exS := (HX.out.onto h5).at
  have s0 : v5.cell? ⟨S, 0, none⟩ = some (.int .i64 10) := g.c0
  have s1 : v5.cell? ⟨S, 1, none⟩ = some (.int .i64 0) := g.c1
  have s2 : v5.cell? ⟨S, 2, none⟩ = some (.int .i64 10) := g.c2
  have s3 : v5.cell? ⟨S, 3, none⟩ = some (.int .i64 5) := g.c3
  have s4 : v5.cell? ⟨S, 4, none⟩ = some (.int .i64 3) := g.c4
  have s5 : v5.cell? ⟨S, 5, none⟩ = some (.int .i64 0) := g.c5
  clear g
  go_wp2_with fail
  refine (check_any exS _).mono ?_
  rintro _ v6 ⟨rfl, b6⟩
  rw [show chkN exS = 0 by rfl]
  replace h5 : HB X v6 := HB.call b6 h5
  clear b6 s0 s1 s2 s3 s4 s5
  have g : SnAt v6 S exS := (HX.out.onto h5).at
  have s0 : v6.cell? ⟨S, 0, none⟩ = some (.int .i64 10) := g.c0
  have s1 : v6.cell? ⟨S, 1, none⟩ = some (.int .i64 0) := g.c1
  have s2 : v6.cell? ⟨S, 2, none⟩ = some (.int .i64 10) := g.c2
  have s3 : v6.cell? ⟨S, 3, none⟩ = some (.int .i64 5) := g.c3
  have s4 : v6.cell? ⟨S, 4, none⟩ = some (.int .i64 3) := g.c4
  have s5 : v6.cell? ⟨S, 5, none⟩ = some (.int .i64 0) := g.c5
  clear g
  go_wp2_with fail
  refine (get_any exS 4 (by decide) (by decide) _).mono ?_
  rintro _ v7 ⟨rfl, b7⟩
  rw [show getN exS 4 = 5 by rfl]
  replace h5 : HB X v7 := HB.call b7 h5
  clear b7 s0 s1 s2 s3 s4 s5
  have g : SnAt v7 S exS := (HX.out.onto h5).at
  have s0 : v7.cell? ⟨S, 0, none⟩ = some (.int .i64 10) := g.c0
  have s1 : v7.cell? ⟨S, 1, none⟩ = some (.int .i64 0) := g.c1
  have s2 : v7.cell? ⟨S, 2, none⟩ = some (.int .i64 10) := g.c2
  have s3 : v7.cell? ⟨S, 3, none⟩ = some (.int .i64 5) := g.c3
  have s4 : v7.cell? ⟨S, 4, none⟩ = some (.int .i64 3) := g.c4
  have s5 : v7.cell? ⟨S, 5, none⟩ = some (.int .i64 0) := g.c5
  clear g
  go_wp2_with fail
  refine (name_any 5 (by decide) (by decide) _).mono ?_
  rintro _ v8 ⟨rfl, b8⟩
  rw [show nameS 5 = ⟨#[110, 111, 119]⟩ by rfl]
  replace h5 : HB X v8 := HB.call b8 h5
  clear b8 s0 s1 s2 s3 s4 s5
  have g : SnAt v8 S exS := (HX.out.onto h5).at
  have s0 : v8.cell? ⟨S, 0, none⟩ = some (.int .i64 10) := g.c0
  have s1 : v8.cell? ⟨S, 1, none⟩ = some (.int .i64 0) := g.c1
  have s2 : v8.cell? ⟨S, 2, none⟩ = some (.int .i64 10) := g.c2
  have s3 : v8.cell? ⟨S, 3, none⟩ = some (.int .i64 5) := g.c3
  have s4 : v8.cell? ⟨S, 4, none⟩ = some (.int .i64 3) := g.c4
  have s5 : v8.cell? ⟨S, 5, none⟩ = some (.int .i64 0) := g.c5
  clear g
  go_wp2_with fail
  refine (diff_any exS sn0 _).mono ?_
  rintro _ v9 ⟨rfl, b9⟩
  rw [show diffN exS sn0 = 58 by rfl]
  replace h5 : HB X v9 := HB.call b9 h5
  clear b9 s0 s1 s2 s3 s4 s5
  have g : SnAt v9 S exS := (HX.out.onto h5).at
  have s0 : v9.cell? ⟨S, 0, none⟩ = some (.int .i64 10) := g.c0
  have s1 : v9.cell? ⟨S, 1, none⟩ = some (.int .i64 0) := g.c1
  have s2 : v9.cell? ⟨S, 2, none⟩ = some (.int .i64 10) := g.c2
  have s3 : v9.cell? ⟨S, 3, none⟩ = some (.int .i64 5) := g.c3
  have s4 : v9.cell? ⟨S, 4, none⟩ = some (.int .i64 3) := g.c4
  have s5 : v9.cell? ⟨S, 5, none⟩ = some (.int .i64 0) := g.c5
  clear g
  go_wp2
  go_ret
  exact ⟨rfl, HB1.out.trans (Below.mono h5 HB1.out.size)⟩
end Go.Proofs.Ytjjmpfpbfkploaa
