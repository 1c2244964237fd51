/-
  Walks of numbers, of the methods and of deed.
-/
import Derived.Test.YtjjmpfpbfkploaaAdd
import Derived.Laws.Rows
import Derived.BigRegion
import Derived.Deep.QuietTactic
import Derived.BigQuiet
namespace Go.Proofs.Ytjjmpfpbfkploaa
open Go.RowKit

def nuA (s : Sn) : Array Value := #[.int .i64 0, .int .i64 s.bid, .int .i64 s.ask, .int .i64 s.last, .int .i64 s.vol, .int .i64 s.now, .int .i64 s.opn]

theorem results_two {P : Program} {fn : Func} {p u : Tmp} {ty : TypeId} (h : fn.results = #[.cell p ty, .tmp u]) (tmps : Array Value) (w : World) (g : Nat) (t : TypeId) (cs : Array Value) (fr : Nat × Nat) (d : TypeDesc)
    (hp : tmps.getD p undef = .pointer (some ⟨g, 0, none⟩)) (hg : w.heap[g]? = some (.cells cs t fr))
    (hu : P.underlying ty = some d) (hd : (match d with | .struct _ | .array _ _ => true | _ => false) = true) (hi : (P.info? ty).map (·.size) = some cs.size) :
    (results fn tmps).run P w = .ok (.tuple #[.agg cs, tmps.getD u undef]) w := by
  have hp' : tmps[p]?.getD undef = .pointer (some ⟨g, 0, none⟩) := by simpa using hp
  simp [results, h, hp', asAddr, run_loadVar_row w g t ty cs fr d hg hu hd hi]
theorem results_three {P : Program} {fn : Func} {p u v : Tmp} {ty : TypeId} (h : fn.results = #[.cell p ty, .tmp u, .tmp v]) (tmps : Array Value) (w : World) (g : Nat) (t : TypeId) (cs : Array Value) (fr : Nat × Nat) (d : TypeDesc)
    (hp : tmps.getD p undef = .pointer (some ⟨g, 0, none⟩)) (hg : w.heap[g]? = some (.cells cs t fr))
    (hu : P.underlying ty = some d) (hd : (match d with | .struct _ | .array _ _ => true | _ => false) = true) (hi : (P.info? ty).map (·.size) = some cs.size) :
    (results fn tmps).run P w = .ok (.tuple #[.agg cs, tmps.getD u undef, tmps.getD v undef]) w := by
  have hp' : tmps[p]?.getD undef = .pointer (some ⟨g, 0, none⟩) := by simpa using hp
  simp [results, h, hp', asAddr, run_loadVar_row w g t ty cs fr d hg hu hd hi]

theorem numbers_any (s : Sn) (w : World) : Calls Try.prog 26 #[.agg (snA s)] w fun e w' => e = .returned (.agg (nuA s)) ∧ Below w.heap.size w w' := by
  have hR := SnAt.new w s 23
  have hB := below_new w (.cells (snA s) 23)
  have hZ := size_alloc w (.cells (snA s) 23)
  unfold snA at *
  obtain ⟨W, hW⟩ : ∃ W, w.alloc (.cells #[.int .i64 s.bid, .int .i64 s.ask, .int .i64 s.last, .int .i64 s.vol, .int .i64 s.now, .int .i64 s.opn] 23) = W := ⟨_, rfl⟩
  rw [hW] at hR hB hZ
  obtain ⟨c0, c1, c2, c3, c4, c5⟩ := hR
  go_enter Try.func26, Try.ntmps26
  go_wp2
  refine bodyPost_ret (results_cell_row rfl _ _ (w.heap.size + 1) 71 (nuA s) (0, 0) _ rfl (hZ ▸ heap_new W _) Try.underlying71 rfl (by kernel_rfl)) rfl ⟨rfl, hB.alloc (by omega) _⟩

/-- What a feed's method hands back. -/
def Stepped (s : Sn) (x : Fd) (e : Ending) : Prop := ∃ v ok, e = .returned (.tuple #[.agg (snA v), .bool ok]) ∧ (ok = true → stepO s x = some v) ∧ (ok = false → stepO s x = none)

theorem stepped {s : Sn} {x : Fd} (v : Sn) (ok : Bool) (h1 : ok = true → stepO s x = some v) (h2 : ok = false → stepO s x = none) : Stepped s x (.returned (.tuple #[.agg (snA v), .bool ok])) := ⟨v, ok, rfl, h1, h2⟩
theorem heap_two (w : World) (X : Obj) (o : Obj) : ((w.alloc X).alloc o).heap[w.heap.size + 1]? = some o := by
  have := heap_new (w.alloc X) o
  rwa [size_alloc] at this
theorem below_two (w : World) (X Y : Obj) : Below w.heap.size w ((w.alloc X).alloc Y) := (below_new w X).alloc (by rw [size_alloc]; omega) Y
theorem heap_drew {w : World} {k : Nat} {o : Option Obj} (h : w.heap[k]? = o) : w.drew.heap[k]? = o := h
theorem below_drew {B : Nat} {w w' : World} (h : Below B w w') (n : Nat) : Below B w (w'.drewN n) := ⟨h.os, h.tape, h.output, h.size, h.block⟩

theorem refuse_any (s : Sn) (x : Fd) (hx : x.k < 1 ∨ 5 < x.k) (w : World) : Calls Try.prog 48 #[.agg (snA s), .int .i64 x.a, .int .i64 x.b] w fun e w' => Stepped s x e ∧ Below w.heap.size w w' := by
  have key : stepO s x = none := by
    unfold stepO
    rw [if_neg (by omega), if_neg (by omega), if_neg (by omega), if_neg (by omega), if_neg (by omega)]
  unfold snA at *
  go_enter Try.func48, Try.ntmps48
  go_wp2
  refine bodyPost_ret (results_two (p := 6) (u := 7) (ty := 74) rfl _ _ (w.heap.size + 1) 74 _ (0, 0) _ rfl (heap_two _ _ _) Try.underlying74 rfl (by kernel_rfl)) rfl ⟨stepped s false (fun h => by cases h) (fun _ => key), below_two _ _ _⟩

theorem bid_any (s : Sn) (a b : Int) (w : World) : Calls Try.prog 43 #[.agg (snA s), .int .i64 a, .int .i64 b] w fun e w' => Stepped s ⟨1, a, b⟩ e ∧ Below w.heap.size w w' := by
  have key : stepO s ⟨1, a, b⟩ = if 0 ≤ a ∧ a ≤ 1000000000 then some ⟨a, s.ask, s.last, s.vol, s.now, s.opn⟩ else none := by unfold stepO; simp
  unfold snA at *
  go_enter Try.func43, Try.ntmps43
  go_wp2
  all_goals refine bodyPost_ret (results_two (p := 6) (u := 7) (ty := 74) rfl _ _ (w.heap.size + 1) 74 _ (0, 0) _ rfl (heap_two _ _ _) Try.underlying74 rfl (by kernel_rfl)) rfl ⟨stepped ⟨a, s.ask, s.last, s.vol, s.now, s.opn⟩ _ (fun h => ?_) (fun h => ?_), below_two _ _ _⟩
  all_goals rw [key]
  all_goals first
    | (cases h; done)
    | (rw [if_pos (by first | omega | (simp at h; omega))])
    | (rw [if_neg (by first | omega | (simp at h; omega))])

theorem ask_any (s : Sn) (a b : Int) (w : World) : Calls Try.prog 44 #[.agg (snA s), .int .i64 a, .int .i64 b] w fun e w' => Stepped s ⟨2, a, b⟩ e ∧ Below w.heap.size w w' := by
  have key : stepO s ⟨2, a, b⟩ = if 0 ≤ a ∧ a ≤ 1000000000 then some ⟨s.bid, a, s.last, s.vol, s.now, s.opn⟩ else none := by unfold stepO; simp
  unfold snA at *
  go_enter Try.func44, Try.ntmps44
  go_wp2
  all_goals refine bodyPost_ret (results_two (p := 6) (u := 7) (ty := 74) rfl _ _ (w.heap.size + 1) 74 _ (0, 0) _ rfl (heap_two _ _ _) Try.underlying74 rfl (by kernel_rfl)) rfl ⟨stepped ⟨s.bid, a, s.last, s.vol, s.now, s.opn⟩ _ (fun h => ?_) (fun h => ?_), below_two _ _ _⟩
  all_goals rw [key]
  all_goals first
    | (cases h; done)
    | (rw [if_pos (by first | omega | (simp at h; omega))])
    | (rw [if_neg (by first | omega | (simp at h; omega))])

theorem time_any (s : Sn) (a b : Int) (w : World) : Calls Try.prog 46 #[.agg (snA s), .int .i64 a, .int .i64 b] w fun e w' => Stepped s ⟨4, a, b⟩ e ∧ Below w.heap.size w w' := by
  have key : stepO s ⟨4, a, b⟩ = if s.now ≤ a ∧ a ≤ 1000000000000000 then some ⟨s.bid, s.ask, s.last, s.vol, a, s.opn⟩ else none := by unfold stepO; simp
  unfold snA at *
  go_enter Try.func46, Try.ntmps46
  go_wp2
  all_goals refine bodyPost_ret (results_two (p := 6) (u := 7) (ty := 74) rfl _ _ (w.heap.size + 1) 74 _ (0, 0) _ rfl (heap_two _ _ _) Try.underlying74 rfl (by kernel_rfl)) rfl ⟨stepped ⟨s.bid, s.ask, s.last, s.vol, a, s.opn⟩ _ (fun h => ?_) (fun h => ?_), below_two _ _ _⟩
  all_goals rw [key]
  all_goals first
    | (cases h; done)
    | (rw [if_pos (by first | omega | (simp at h; omega))])
    | (rw [if_neg (by first | omega | (simp at h; omega))])


set_option maxHeartbeats 1000000 in
theorem open_any (s : Sn) (a b : Int) (hs : May s) (a1 : -9223372036854775808 ≤ a) (a2 : a ≤ 9223372036854775807) (w : World) : Calls Try.prog 47 #[.agg (snA s), .int .i64 a, .int .i64 b] w fun e w' => Stepped s ⟨5, a, b⟩ e ∧ Below w.heap.size w w' := by
  have key : stepO s ⟨5, a, b⟩ = if 0 ≤ s.opn + a ∧ s.opn + a ≤ 256000000000 then some ⟨s.bid, s.ask, s.last, s.vol, s.now, s.opn + a⟩ else none := by unfold stepO; simp
  have h0 := hs.o0
  have h1 := hs.o1
  unfold snA at *
  cases hf : fitB (s.opn + a)
  · have hn := fitN_false hf
    have key2 : stepO s ⟨5, a, b⟩ = none := by
      rw [key, if_neg]
      intro h
      rw [fitB_true (by omega) (by omega)] at hf
      cases hf
    go_enter Try.func47, Try.ntmps47
    go_wp2_with fail
    refine (add_any s.opn a (by omega) (by omega) a1 a2 _).mono ?_
    rintro e w' ⟨rfl, rfl⟩
    rw [hf, hn]
    go_wp2
    all_goals refine bodyPost_ret (results_two (p := 6) (u := 7) (ty := 74) rfl _ _ (w.heap.size + 1) 74 _ (0, 0) _ rfl (heap_two _ _ _) Try.underlying74 rfl (by kernel_rfl)) rfl ⟨stepped ⟨s.bid, s.ask, s.last, s.vol, s.now, 0⟩ _ (fun h => ?_) (fun h => ?_), below_two _ _ _⟩
    all_goals first | (cases h; done) | exact key2
  · have hn := fitN_true hf
    rw [fitB_iff] at hf
    go_enter Try.func47, Try.ntmps47
    go_wp2_with fail
    refine (add_any s.opn a (by omega) (by omega) a1 a2 _).mono ?_
    rintro e w' ⟨rfl, rfl⟩
    rw [fitB_true hf.1 hf.2, hn]
    go_wp2
    all_goals refine bodyPost_ret (results_two (p := 6) (u := 7) (ty := 74) rfl _ _ (w.heap.size + 1) 74 _ (0, 0) _ rfl (heap_two _ _ _) Try.underlying74 rfl (by kernel_rfl)) rfl ⟨stepped ⟨s.bid, s.ask, s.last, s.vol, s.now, s.opn + a⟩ _ (fun h => ?_) (fun h => ?_), below_two _ _ _⟩
    all_goals rw [key]
    all_goals first
      | (cases h; done)
      | (rw [if_pos (by first | omega | (simp at h; omega))])
      | (rw [if_neg (by first | omega | (simp at h; omega))])

set_option maxHeartbeats 1000000 in
theorem trade_any (s : Sn) (a b : Int) (hs : May s) (w : World) : Calls Try.prog 45 #[.agg (snA s), .int .i64 a, .int .i64 b] w fun e w' => Stepped s ⟨3, a, b⟩ e ∧ Below w.heap.size w w' := by
  have key : stepO s ⟨3, a, b⟩ = if 1 ≤ a ∧ a ≤ 1000000000 ∧ 1 ≤ b ∧ b ≤ 1000000000 ∧ s.vol + b ≤ 1000000000000000 then some ⟨s.bid, s.ask, a, s.vol + b, s.now, s.opn⟩ else none := by unfold stepO; simp
  have h0 := hs.v0
  have h1 := hs.v1
  unfold snA at *
  by_cases hc : 1 ≤ a ∧ a ≤ 1000000000 ∧ 1 ≤ b ∧ b ≤ 1000000000
  · obtain ⟨c1, c2, c3, c4⟩ := hc
    go_enter Try.func45, Try.ntmps45
    go_wp2
    go_region
    go_wp2
    all_goals refine bodyPost_ret (results_two (p := 6) (u := 7) (ty := 74) rfl _ _ (w.heap.size + 1) 74 _ (0, 0) _ rfl (heap_drew (heap_two _ _ _)) Try.underlying74 rfl (by kernel_rfl)) rfl ⟨stepped ⟨s.bid, s.ask, a, s.vol + b, s.now, s.opn⟩ _ (fun h => ?_) (fun h => ?_), (below_two _ _ _).drew⟩
    all_goals rw [key]
    all_goals first
      | (cases h; done)
      | (rw [if_pos (by first | omega | (simp at h; omega))])
      | (rw [if_neg (by first | omega | (simp at h; omega))])
  · have key2 : stepO s ⟨3, a, b⟩ = none := by rw [key, if_neg (by omega)]
    go_enter Try.func45, Try.ntmps45
    go_wp2
    all_goals first
      | (exfalso; omega)
      | (refine bodyPost_ret (results_two (p := 6) (u := 7) (ty := 74) rfl _ _ (w.heap.size + 1) 74 _ (0, 0) _ rfl (heap_two _ _ _) Try.underlying74 rfl (by kernel_rfl)) rfl ⟨stepped s false (fun h => by cases h) (fun h => key2), below_two _ _ _⟩)

end Go.Proofs.Ytjjmpfpbfkploaa
