import Derived.Test.YtighocmdlifheaaDoorM4
import Derived.RangeFuncNested
import Derived.RangeFuncBound
import Derived.RangeFuncCalls
import Derived.RangeFuncLeaves
import Derived.Shelf.Abstract
import Derived.Shelf.RegionOpen
import Derived.OwnWalkIn
import Derived.TacticsInMore
import Derived.LoopNIn
import Derived.LoopIn
import Derived.Test.YtighocmdlifheaaDoorM0
import Derived.Deep.QuietTactic
import Derived.BigQuiet
import Derived.Below
import Derived.WalkKit
import Derived.ProofKit
import Derived.OwnWalk
import Derived.WalkSmall
import Derived.Outline
/-
  walk: all nodes are handed over, a node ahead of its kids.
-/
namespace Go.Proofs.YtighocmdlifheaaDoor
open Go.RowKit Go.Shelf

attribute [local go_sem] Oper.semAt_some

/-- All cells but those of V's blocks are as they were. -/
structure Kc (V : Nat → Prop) (W W' : World) : Prop where
  size : W.heap.size ≤ W'.heap.size
  same : ∀ b cs t fr, ¬ V b → W.heap[b]? = some (.cells cs t fr) → W'.heap[b]? = W.heap[b]?
theorem Kc.refl (V : Nat → Prop) (W : World) : Kc V W W := ⟨Nat.le_refl _, fun _ _ _ _ _ _ => rfl⟩
theorem Kc.trans {V : Nat → Prop} {A B C : World} (h : Kc V A B) (k : Kc V B C) : Kc V A C :=
  ⟨Nat.le_trans h.size k.size, fun b cs t fr hv hc => (k.same b cs t fr hv ((h.same b cs t fr hv hc).trans hc)).trans (h.same b cs t fr hv hc)⟩
theorem Kc.of_below {V : Nat → Prop} {A B : World} (h : Below A.heap.size A B) : Kc V A B :=
  ⟨h.size, fun b _ _ _ _ hc => h.block b (Array.getElem?_eq_some_iff.1 hc).1⟩
theorem Kc.bound {V : Nat → Prop} {w : World} (W : World) (l : Nat) (o o' : Obj) (_ : w.heap.size ≤ l) (h : W.heap[l]? = some o) (hc : o.isCells = false) (_ : o.isWalk = false) : Kc V W (W.putObj l o') := by
  have hg := grownBy_putObj' W l o'
  refine ⟨hg.size, fun b cs t fr _ hb => ?_⟩
  refine hg.block b (Array.getElem?_eq_some_iff.1 hb).1 (fun e => ?_)
  cases e
  rw [h] at hb
  cases hb
  simp [Obj.isCells] at hc
theorem cells_of_cell {w : World} {b o : Nat} {v : Value} (h : w.cell? ⟨b, o, none⟩ = some v) : ∃ cs t fr, w.heap[b]? = some (.cells cs t fr) := by
  unfold World.cell? at h
  cases hb : w.heap[b]? with
  | none => rw [hb] at h; simp at h
  | some x =>
    rw [hb] at h
    cases x <;> first | exact ⟨_, _, _, rfl⟩ | (simp at h)
/-- What lay ahead of V's blocks lies still. -/
theorem Lies.kc {V : Nat → Prop} {w w0 W : World} (hb : Below w.heap.size w w0) (hV : ∀ b, V b → w.heap.size ≤ b) (hk : Kc V w0 W) : ∀ {m : Nd}, Lies w m → Lies W m := by
  intro m h
  induction h with
  | mk h a c ks hr hc hm hq hs ih =>
    refine .mk h a c ks hr hc hm (fun i hi => ?_) ih
    obtain ⟨b, o, e, hat⟩ := hq i hi
    obtain ⟨cs, t, fr, hcs⟩ := cells_of_cell (hat.on hb).c0
    exact ⟨b, o, e, (hat.on hb).blk (hk.same b cs t fr (fun hv => by have := hV b hv; have := hat.lt; omega) hcs)⟩
/-- A node whose kids have no room behind. -/
def cutN (m : Nd) : Nd := .mk m.h m.a m.ks.length m.ks
def encN (N : List Nd) (k : Nat) : Array Value := #[.agg (cutN (N.getD k (.mk ⟨0, 0, 0, 0, 0, ⟨#[]⟩, 0⟩ none 0 []))).vals]
theorem enc_at {N : List Nd} {k : Nat} {m : Nd} {R : List Nd} (h : N.drop k = m :: R) : k < N.length ∧ encN N k = #[.agg (hdA m.h m.a m.ks.length m.ks.length)] ∧ N.drop (k + 1) = R := by
  have hk : k < N.length := by
    have := congrArg List.length h
    rw [List.length_drop, List.length_cons] at this
    omega
  rw [List.drop_eq_getElem_cons hk] at h
  refine ⟨hk, ?_, (List.cons.inj h).2⟩
  unfold encN
  rw [List.getD_eq_getElem?_getD, List.getElem?_eq_getElem hk, Option.getD_some, (List.cons.inj h).1]
  rfl
theorem yield_any {n n' : Nat} {lo : Nat} {args : Array Value} {W : World} {R : Ending → World → Prop} (h : YieldAt Fence.wide n Tryd.prog lo args W R) : YieldAt Fence.wide n' Tryd.prog lo args W R := by
  obtain ⟨fn, tmps, asg, body, hy, hf, hR⟩ := h
  exact ⟨fn, tmps, asg, body, hy, hf, fun c cs _ => hR c cs (room_wide _)⟩
theorem grown_below {A B : World} (h : Below A.heap.size A B) : A.grownBy B none := ⟨h.os, h.tape, h.output, h.size, fun b hb _ => h.block b hb⟩
theorem rng_prefix {k n : Nat} (h : k ≤ n) : List.range k <+: List.range n := by
  obtain ⟨m, rfl⟩ : ∃ m, n = k + m := ⟨n - k, by omega⟩
  rw [List.range_add]
  exact List.prefix_append _ _
set_option maxRecDepth 100000 in
set_option maxHeartbeats 4000000 in
theorem walk_in (lo : Nat) (N : List Nd) (V : Nat → Prop) (w w0 : World) (hb0 : Below w.heap.size w w0) (hV : ∀ b, V b → b < w0.heap.size ∧ w.heap.size ≤ b) (J Jx : List Nat → World → Prop)
    (hg : ∀ pre A B, J pre A → Below A.heap.size A B → J pre B)
    (hY : ∀ pre x W, J pre W → pre.length < N.length → YieldAt Fence.wide 0 Tryd.prog lo (encN N x) W fun e W' =>
      (e = .returned (.bool true) ∧ J (pre ++ [x]) W' ∧ Kc V W W') ∨ (e = .returned (.bool false) ∧ Jx (pre ++ [x]) W')) :
    ∀ (m : Nd), Lies w m → ∀ (k : Nat) (R : List Nd) (W : World), N.drop k = pre m ++ R → J (List.range k) W → Kc V w0 W →
    CallsIn Fence.wide 5 Tryd.prog 44 #[.agg m.vals, .func (.yield lo) #[] #[]] W fun e W' =>
      (e = .returned (.bool true) ∧ J (List.range (k + size m)) W' ∧ Kc V w0 W') ∨ (e = .returned (.bool false) ∧ ∃ pre, pre <+: List.range N.length ∧ Jx pre W') := by
  refine Nd.ind fun h a c ks ih hl k R W hN hJ hK => ?_
  have hN' : N.drop k = .mk h a c ks :: (pres ks ++ R) := by rw [hN]; rfl
  obtain ⟨d1, d2, d3⟩ := enc_at hN'
  have hYk := fun W hW => yield_any (n' := 4) (hY (List.range k) k W hW (by simpa using d1))
  rw [d2] at hYk
  unfold hdA at hYk
  simp only [Nd.h, Nd.a, Nd.ks] at hYk
  have HL := hl.hid
  have hcap : (ks.length : Int) ≤ (c : Int) := by have := hl.cap; simp only [Nd.ks, Nd.c] at this; omega
  show CallsIn Fence.wide 5 Tryd.prog 44 #[.agg #[.int .u8 h.k, .int .u8 h.o, .int .u8 h.t, .int .i64 h.n, .int .u8 h.f, .string h.x, .slice a ks.length c, .int .i64 h.p], .func (.yield lo) #[] #[]] W _
  refine callsIn_of_wp Tryd.func44 rfl trivial ?_ rfl
  simp only [Tryd.ntmps44, List.size_toArray, List.length_cons, List.length_nil, Nat.reduceAdd, Nat.reduceSub, Array.replicate_succ, Array.replicate_zero, List.push_toArray, List.append_toArray, List.nil_append, List.cons_append]
  have hX0 := below_new W (.cells #[.int .u8 h.k, .int .u8 h.o, .int .u8 h.t, .int .i64 h.n, .int .u8 h.f, .string h.x, .slice a ks.length ks.length, .int .i64 h.p] 28)
  have hXb := heap_new W (.cells #[.int .u8 h.k, .int .u8 h.o, .int .u8 h.t, .int .i64 h.n, .int .u8 h.f, .string h.x, .slice a ks.length ks.length, .int .i64 h.p] 28)
  obtain ⟨fn, tmps, asg, body, hy, hRo⟩ := hYk (W.alloc (.cells #[.int .u8 h.k, .int .u8 h.o, .int .u8 h.t, .int .i64 h.n, .int .u8 h.f, .string h.x, .slice a ks.length ks.length, .int .i64 h.p] 28)) (hg _ _ _ hJ hX0)
  have HKX : Hid (Kc V w0 (W.alloc (.cells #[.int .u8 h.k, .int .u8 h.o, .int .u8 h.t, .int .i64 h.n, .int .u8 h.f, .string h.x, .slice a ks.length ks.length, .int .i64 h.p] 28))) := hK.trans (Kc.of_below hX0)
  have hvn : ¬ V W.heap.size := fun hv => by have := (hV _ hv).1; have := hK.size; omega
  gi_wp2_with fail
  refine hRo.mono ?_
  rintro e W3 (⟨rfl, hJ3, hK3⟩ | ⟨rfl, hJx3⟩)
  · have hB3 := (hK3.same W.heap.size _ _ _ hvn hXb).trans hXb
    have c6 : W3.cell? ⟨W.heap.size, 6, none⟩ = some (.slice a ks.length ks.length) := cell_of hB3 6
    have HK3 : Hid (Kc V w0 W3) := HKX.out.trans hK3
    have HJ3 : Hid (J (List.range (k + 1)) W3) := by show J _ _; rw [List.range_succ]; exact hJ3
    have HI : Hid (∀ k ∈ ks, Lies w k → ∀ (q : Nat) (R : List Nd) (W : World), N.drop q = pre k ++ R → J (List.range q) W → Kc V w0 W →
      CallsIn Fence.wide 5 Tryd.prog 44 #[.agg k.vals, .func (.yield lo) #[] #[]] W fun e W' =>
        (e = .returned (.bool true) ∧ J (List.range (q + size k)) W' ∧ Kc V w0 W') ∨ (e = .returned (.bool false) ∧ ∃ pre, pre <+: List.range N.length ∧ Jx pre W')) := ih
    have HD3 : Hid (N.drop (k + 1) = pres ks ++ R) := d3
    have hmxL : (ks.length : Int) ≤ 9223372036854775807 := by have h1 := hl.max; have h2 := hl.cap; simp only [Nd.ks, Nd.c] at h1 h2; omega
    clear hRo hy hYk ih hJ3 hK3 hB3 hXb hX0 hJ hK hN hN' d2 d3 hl
    gi_wp2_with fail
    gi_loopw [6, 24] (fun _ t wr => ∃ i q : Nat, i ≤ ks.length ∧ t = .int .i64 i ∧ J (List.range q) wr ∧ Kc V w0 wr ∧ Hid (N.drop q = pres (ks.drop i) ++ R) ∧ Hid (q + sizes (ks.drop i) = k + 1 + sizes ks)) (fun _ t _ => ks.length - (intOf t).toNat)
    case atStart => exact ⟨0, k + 1, by omega, rfl, HJ3.out, HK3.out, by show _ = _; rw [List.drop_zero]; exact HD3.out, by show _ = _; rw [List.drop_zero]⟩
    case round =>
      obtain ⟨i, q, hi, rfl, hJr, hKr, HD, HQ⟩ := hrel
      have HJr : Hid (J (List.range q) wr) := hJr
      have HKr : Hid (Kc V w0 wr) := hKr
      clear hJr hKr
      by_cases hlt : i < ks.length
      · have hlt' : (i : Int) < (ks.length : Int) := by omega
        have hmx : (i : Int) + 1 ≤ 9223372036854775807 := by omega
        obtain ⟨b, o, e1, hat⟩ := (Lies.kc hb0 (fun b hb => (hV b hb).2) HKr.out HL.out).kid i hlt
        have e2 : a = some ⟨b, o, none⟩ := e1
        clear e1
        have hk1 : NdAt wr b (o + i * 8) ks[i] := hat
        clear hat
        have cI := HI.out ks[i] (nth_mem hlt) (HL.out.sub _ (nth_mem hlt)) q (pres (ks.drop (i + 1)) ++ R)
        have HD2 : Hid (N.drop q = pre ks[i] ++ (pres (ks.drop (i + 1)) ++ R)) := by show _ = _; rw [HD.out, drop_nth hlt, ← List.append_assoc]; rfl
        have HQ2 : Hid (q + size ks[i] + sizes (ks.drop (i + 1)) = k + 1 + sizes ks) := by
          show _ = _
          have := HQ.out
          rw [drop_nth hlt] at this
          simp only [sizes] at this
          omega
        obtain ⟨m, em⟩ : ∃ m, ks[i] = m := ⟨_, rfl⟩
        rw [em] at hk1 cI HD2 HQ2
        subst e2
        obtain ⟨y0, y1, y2, y3, y4, y5, y6, y7⟩ := hk1
        have bk := below_new wr (.cells #[.int .u8 m.h.k, .int .u8 m.h.o, .int .u8 m.h.t, .int .i64 m.h.n, .int .u8 m.h.f, .string m.h.x, .slice m.a m.ks.length m.c, .int .i64 m.h.p] 28)
        have cI := callsIn_wide (n := 4) |>.2 (callsIn_wide.1 (cI (wr.alloc (.cells #[.int .u8 m.h.k, .int .u8 m.h.o, .int .u8 m.h.t, .int .i64 m.h.n, .int .u8 m.h.f, .string m.h.x, .slice m.a m.ks.length m.c, .int .i64 m.h.p] 28)) HD2.out (hg _ _ _ HJr.out bk) (HKr.out.trans (Kc.of_below bk))))
        have cI : CallsIn Fence.wide 4 Tryd.prog 44 #[.agg #[.int .u8 m.h.k, .int .u8 m.h.o, .int .u8 m.h.t, .int .i64 m.h.n, .int .u8 m.h.f, .string m.h.x, .slice m.a m.ks.length m.c, .int .i64 m.h.p], .func (.yield lo) #[] #[]] (wr.alloc (.cells #[.int .u8 m.h.k, .int .u8 m.h.o, .int .u8 m.h.t, .int .i64 m.h.n, .int .u8 m.h.f, .string m.h.x, .slice m.a m.ks.length m.c, .int .i64 m.h.p] 28)) fun e W' =>
          (e = .returned (.bool true) ∧ J (List.range (q + size m)) W' ∧ Kc V w0 W') ∨ (e = .returned (.bool false) ∧ ∃ pre, pre <+: List.range N.length ∧ Jx pre W') := cI
        clear em HD HQ bk
        have HD4 : Hid (N.drop (q + size m) = pres (ks.drop (i + 1)) ++ R) := by
          show _ = _
          rw [← List.drop_drop, HD2.out, ← size_pre m, List.drop_left]
        gi_wp2_with fail
        refine ⟨trivial, ?_⟩
        refine cI.mono ?_
        rintro e W5 (⟨rfl, hJ5, hK5⟩ | ⟨rfl, pr, hp, hx⟩)
        · have HJ5 : Hid (J (List.range (q + size m)) W5) := hJ5
          have HK5 : Hid (Kc V w0 W5) := hK5
          clear cI hJ5 hK5 y0 y1 y2 y3 y4 y5 y6 y7
          gi_wp2
          exact ⟨⟨i + 1, q + size m, hlt, rfl, HJ5.out, HK5.out, HD4.out, HQ2.out⟩, by simp only [intOf]; omega⟩
        · clear cI y0 y1 y2 y3 y4 y5 y6 y7
          gi_wp2
          refine bodyPost_ret (results_tmp rfl _ _ _) rfl ?_
          exact .inr ⟨rfl, pr, hp, hx⟩
      · obtain rfl : i = ks.length := by omega
        have hnot : ¬ (ks.length : Int) < (ks.length : Int) := by omega
        have HE : Hid (q = k + size (.mk h a c ks)) := by
          show _ = _
          have := HQ.out
          rw [List.drop_length] at this
          simp only [sizes, size] at this ⊢
          omega
        clear HQ HD
        gi_wp2_with fail
        refine bodyPost_ret (results_tmp rfl _ _ _) rfl ?_
        exact .inl ⟨rfl, by rw [← HE.out]; exact HJr.out, HKr.out⟩
  · clear hRo hy hYk
    gi_wp2
    refine bodyPost_ret (results_tmp rfl _ _ _) rfl ?_
    exact .inr ⟨rfl, List.range (k + 1), rng_prefix d1, by rw [List.range_succ]; exact hJx3⟩
set_option maxRecDepth 100000 in
theorem all_any (m : Nd) (w : World) : Calls Tryd.prog 17 #[.agg m.vals] w fun e w' => e = .returned (.func (.func 43) #[] #[.pointer (some ⟨w.heap.size, 0, none⟩)]) ∧ w' = w.alloc (.cells m.vals 28) := by
  have hmf : ∀ (fn : Fn) (first cap : Array Value) (w : World), (Instr.makeFunc fn first cap).run Tryd.prog w = .ok (.func fn first cap) w := fun _ _ _ _ => rfl
  unfold Nd.vals hdA
  go_enter Tryd.func17, Tryd.ntmps17
  go_wp2_with fail
  go_ret
  exact ⟨rfl, rfl⟩
set_option maxRecDepth 100000 in
/-- What All hands over, round by round: B the box of what it goes through, V the blocks that a round may change. -/
theorem all_stops (n : Nat) (m : Nd) (V : Nat → Prop) (B : Nat) (w w0 : World) (hl : Lies w m) (hb0 : Below w.heap.size w w0) (hV : ∀ b, V b → b < w0.heap.size ∧ w.heap.size ≤ b) (hB : NdH w0 B m) :
    SeqStopsK Fence.wide n Tryd.prog 43 #[.pointer (some ⟨B, 0, none⟩)] (encN (pre m)) (Kc V) (fun ys => ys = List.range (pre m).length) (fun pr => pr <+: List.range (pre m).length) (pre m).length w0 := by
  intro lo J Jx W hW hJ _ hY h0
  have hg : ∀ pre A B, J pre A → Below A.heap.size A B → J pre B := fun pre A B hA hb => hJ pre A B none hA (grown_below hb) (fun r e => by cases e)
  have hBW : NdH W B m := hB.on hW
  obtain ⟨y0, y1, y2, y3, y4, y5, y6, y7⟩ : W.cell? ⟨B, 0, none⟩ = some (.int .u8 m.h.k) ∧ W.cell? ⟨B, 1, none⟩ = some (.int .u8 m.h.o) ∧ W.cell? ⟨B, 2, none⟩ = some (.int .u8 m.h.t) ∧ W.cell? ⟨B, 3, none⟩ = some (.int .i64 m.h.n) ∧ W.cell? ⟨B, 4, none⟩ = some (.int .u8 m.h.f) ∧ W.cell? ⟨B, 5, none⟩ = some (.string m.h.x) ∧ W.cell? ⟨B, 6, none⟩ = some (.slice m.a m.ks.length m.c) ∧ W.cell? ⟨B, 7, none⟩ = some (.int .i64 m.h.p) :=
    ⟨cell_of hBW 0, cell_of hBW 1, cell_of hBW 2, cell_of hBW 3, cell_of hBW 4, cell_of hBW 5, cell_of hBW 6, cell_of hBW 7⟩
  have cW := callsIn_wide (n := n - 1) |>.2 (callsIn_wide.1 (walk_in lo (pre m) V w w0 hb0 hV J Jx hg (fun pre x W hW hp => yield_any (hY pre x W hW hp)) m hl 0 [] W (by simp) h0 (Kc.of_below hW)))
  have cW : CallsIn Fence.wide (n - 1) Tryd.prog 44 #[.agg #[.int .u8 m.h.k, .int .u8 m.h.o, .int .u8 m.h.t, .int .i64 m.h.n, .int .u8 m.h.f, .string m.h.x, .slice m.a m.ks.length m.c, .int .i64 m.h.p], .func (.yield lo) #[] #[]] W fun e W' =>
      (e = .returned (.bool true) ∧ J (List.range (0 + size m)) W' ∧ Kc V w0 W') ∨ (e = .returned (.bool false) ∧ ∃ pr, pr <+: List.range (pre m).length ∧ Jx pr W') := cW
  have HS : Hid (0 + size m = (pre m).length) := by show _ = _; rw [size_pre]; omega
  clear hY hBW hB hl
  show CallsIn Fence.wide n Tryd.prog 43 #[.func (.yield lo) #[] #[], .pointer (some ⟨B, 0, none⟩)] W _
  refine callsIn_of_wp Tryd.func43 rfl trivial ?_ rfl
  simp only [Tryd.ntmps43, List.size_toArray, List.length_cons, List.length_nil, Nat.reduceAdd, Nat.reduceSub, Array.replicate_succ, Array.replicate_zero, List.push_toArray, List.append_toArray, List.nil_append, List.cons_append]
  gi_wp2_with fail
  refine ⟨trivial, fun h => (by cases h), ?_⟩
  refine cW.mono ?_
  rintro e W5 (⟨rfl, hJ5, hK5⟩ | ⟨rfl, pr, hp, hx⟩)
  · have HJ5 : Hid (J (List.range (0 + size m)) W5) := hJ5
    clear cW hJ5 hK5 y0 y1 y2 y3 y4 y5 y6 y7
    gi_wp2
    go_end0
    exact ⟨⟨_, rfl⟩, .inl ⟨_, rfl, by rw [← HS.out]; exact HJ5.out⟩⟩
  · clear cW y0 y1 y2 y3 y4 y5 y6 y7
    gi_wp2
    go_end0
    exact ⟨⟨_, rfl⟩, .inr ⟨pr, hp, hx⟩⟩
end Go.Proofs.YtighocmdlifheaaDoor

/-
  walk once more: a round may change whatever is of the call's own, but nodes.
-/
namespace Go.Proofs.YtighocmdlifheaaDoor
open Go.RowKit Go.Shelf

attribute [local go_sem] Oper.semAt_some

/-- What lay below B, and all nodes, are as they were. -/
structure Kd (B : Nat) (W W' : World) : Prop where
  size : W.heap.size ≤ W'.heap.size
  same : ∀ b cs t fr, (b < B ∨ t = 28) → W.heap[b]? = some (.cells cs t fr) → W'.heap[b]? = W.heap[b]?
theorem Kd.refl (B : Nat) (W : World) : Kd B W W := ⟨Nat.le_refl _, fun _ _ _ _ _ _ => rfl⟩
theorem Kd.trans {B : Nat} {W1 W2 W3 : World} (h : Kd B W1 W2) (k : Kd B W2 W3) : Kd B W1 W3 :=
  ⟨Nat.le_trans h.size k.size, fun b cs t fr hv hc => (k.same b cs t fr hv ((h.same b cs t fr hv hc).trans hc)).trans (h.same b cs t fr hv hc)⟩
theorem Kd.of_below {B : Nat} {W1 W2 : World} (h : Below W1.heap.size W1 W2) : Kd B W1 W2 :=
  ⟨h.size, fun b _ _ _ _ hc => h.block b (Array.getElem?_eq_some_iff.1 hc).1⟩
theorem Kd.bound {B : Nat} {w : World} (W : World) (l : Nat) (o o' : Obj) (_ : w.heap.size ≤ l) (h : W.heap[l]? = some o) (hc : o.isCells = false) (_ : o.isWalk = false) : Kd B W (W.putObj l o') := by
  have hg := grownBy_putObj' W l o'
  refine ⟨hg.size, fun b cs t fr _ hb => ?_⟩
  refine hg.block b (Array.getElem?_eq_some_iff.1 hb).1 (fun e => ?_)
  cases e
  rw [h] at hb
  cases hb
  simp [Obj.isCells] at hc
theorem Lies.kd {w w0 W : World} (hb : Below w.heap.size w w0) (hk : Kd w.heap.size w0 W) : ∀ {m : Nd}, Lies w m → Lies W m := by
  intro m h
  induction h with
  | mk h a c ks hr hc hm hq hs ih =>
    refine .mk h a c ks hr hc hm (fun i hi => ?_) ih
    obtain ⟨b, o, e, hat⟩ := hq i hi
    obtain ⟨cs, t, fr, hcs⟩ := cells_of_cell (hat.on hb).c0
    exact ⟨b, o, e, (hat.on hb).blk (hk.same b cs t fr (.inl hat.lt) hcs)⟩
set_option maxRecDepth 100000 in
set_option maxHeartbeats 4000000 in
theorem walk_in2 (lo : Nat) (N : List Nd) (w w0 : World) (hb0 : Below w.heap.size w w0) (J Jx : List Nat → World → Prop)
    (hg : ∀ pre A B, J pre A → Below A.heap.size A B → J pre B)
    (hY : ∀ pre x W, J pre W → pre.length < N.length → YieldAt Fence.wide 0 Tryd.prog lo (encN N x) W fun e W' =>
      (e = .returned (.bool true) ∧ J (pre ++ [x]) W' ∧ Kd w.heap.size W W') ∨ (e = .returned (.bool false) ∧ Jx (pre ++ [x]) W')) :
    ∀ (m : Nd), Lies w m → ∀ (k : Nat) (R : List Nd) (W : World), N.drop k = pre m ++ R → J (List.range k) W → Kd w.heap.size w0 W →
    CallsIn Fence.wide 5 Tryd.prog 44 #[.agg m.vals, .func (.yield lo) #[] #[]] W fun e W' =>
      (e = .returned (.bool true) ∧ J (List.range (k + size m)) W' ∧ Kd w.heap.size w0 W') ∨ (e = .returned (.bool false) ∧ ∃ pre, pre <+: List.range N.length ∧ Jx pre W') := by
  refine Nd.ind fun h a c ks ih hl k R W hN hJ hK => ?_
  have hN' : N.drop k = .mk h a c ks :: (pres ks ++ R) := by rw [hN]; rfl
  obtain ⟨d1, d2, d3⟩ := enc_at hN'
  have hYk := fun W hW => yield_any (n' := 4) (hY (List.range k) k W hW (by simpa using d1))
  rw [d2] at hYk
  unfold hdA at hYk
  simp only [Nd.h, Nd.a, Nd.ks] at hYk
  have HL := hl.hid
  have hcap : (ks.length : Int) ≤ (c : Int) := by have := hl.cap; simp only [Nd.ks, Nd.c] at this; omega
  show CallsIn Fence.wide 5 Tryd.prog 44 #[.agg #[.int .u8 h.k, .int .u8 h.o, .int .u8 h.t, .int .i64 h.n, .int .u8 h.f, .string h.x, .slice a ks.length c, .int .i64 h.p], .func (.yield lo) #[] #[]] W _
  refine callsIn_of_wp Tryd.func44 rfl trivial ?_ rfl
  simp only [Tryd.ntmps44, List.size_toArray, List.length_cons, List.length_nil, Nat.reduceAdd, Nat.reduceSub, Array.replicate_succ, Array.replicate_zero, List.push_toArray, List.append_toArray, List.nil_append, List.cons_append]
  have hX0 := below_new W (.cells #[.int .u8 h.k, .int .u8 h.o, .int .u8 h.t, .int .i64 h.n, .int .u8 h.f, .string h.x, .slice a ks.length ks.length, .int .i64 h.p] 28)
  have hXb := heap_new W (.cells #[.int .u8 h.k, .int .u8 h.o, .int .u8 h.t, .int .i64 h.n, .int .u8 h.f, .string h.x, .slice a ks.length ks.length, .int .i64 h.p] 28)
  obtain ⟨fn, tmps, asg, body, hy, hRo⟩ := hYk (W.alloc (.cells #[.int .u8 h.k, .int .u8 h.o, .int .u8 h.t, .int .i64 h.n, .int .u8 h.f, .string h.x, .slice a ks.length ks.length, .int .i64 h.p] 28)) (hg _ _ _ hJ hX0)
  have HKX : Hid (Kd w.heap.size w0 (W.alloc (.cells #[.int .u8 h.k, .int .u8 h.o, .int .u8 h.t, .int .i64 h.n, .int .u8 h.f, .string h.x, .slice a ks.length ks.length, .int .i64 h.p] 28))) := hK.trans (Kd.of_below hX0)
  gi_wp2_with fail
  refine hRo.mono ?_
  rintro e W3 (⟨rfl, hJ3, hK3⟩ | ⟨rfl, hJx3⟩)
  · have hB3 := (hK3.same W.heap.size _ _ _ (.inr rfl) hXb).trans hXb
    have c6 : W3.cell? ⟨W.heap.size, 6, none⟩ = some (.slice a ks.length ks.length) := cell_of hB3 6
    have HK3 : Hid (Kd w.heap.size w0 W3) := HKX.out.trans hK3
    have HJ3 : Hid (J (List.range (k + 1)) W3) := by show J _ _; rw [List.range_succ]; exact hJ3
    have HI : Hid (∀ k ∈ ks, Lies w k → ∀ (q : Nat) (R : List Nd) (W : World), N.drop q = pre k ++ R → J (List.range q) W → Kd w.heap.size w0 W →
      CallsIn Fence.wide 5 Tryd.prog 44 #[.agg k.vals, .func (.yield lo) #[] #[]] W fun e W' =>
        (e = .returned (.bool true) ∧ J (List.range (q + size k)) W' ∧ Kd w.heap.size w0 W') ∨ (e = .returned (.bool false) ∧ ∃ pre, pre <+: List.range N.length ∧ Jx pre W')) := ih
    have HD3 : Hid (N.drop (k + 1) = pres ks ++ R) := d3
    have hmxL : (ks.length : Int) ≤ 9223372036854775807 := by have h1 := hl.max; have h2 := hl.cap; simp only [Nd.ks, Nd.c] at h1 h2; omega
    clear hRo hy hYk ih hJ3 hK3 hB3 hXb hX0 hJ hK hN hN' d2 d3 hl
    gi_wp2_with fail
    gi_loopw [6, 24] (fun _ t wr => ∃ i q : Nat, i ≤ ks.length ∧ t = .int .i64 i ∧ J (List.range q) wr ∧ Kd w.heap.size w0 wr ∧ Hid (N.drop q = pres (ks.drop i) ++ R) ∧ Hid (q + sizes (ks.drop i) = k + 1 + sizes ks)) (fun _ t _ => ks.length - (intOf t).toNat)
    case atStart => exact ⟨0, k + 1, by omega, rfl, HJ3.out, HK3.out, by show _ = _; rw [List.drop_zero]; exact HD3.out, by show _ = _; rw [List.drop_zero]⟩
    case round =>
      obtain ⟨i, q, hi, rfl, hJr, hKr, HD, HQ⟩ := hrel
      have HJr : Hid (J (List.range q) wr) := hJr
      have HKr : Hid (Kd w.heap.size w0 wr) := hKr
      clear hJr hKr
      by_cases hlt : i < ks.length
      · have hlt' : (i : Int) < (ks.length : Int) := by omega
        have hmx : (i : Int) + 1 ≤ 9223372036854775807 := by omega
        obtain ⟨b, o, e1, hat⟩ := (Lies.kd hb0 HKr.out HL.out).kid i hlt
        have e2 : a = some ⟨b, o, none⟩ := e1
        clear e1
        have hk1 : NdAt wr b (o + i * 8) ks[i] := hat
        clear hat
        have cI := HI.out ks[i] (nth_mem hlt) (HL.out.sub _ (nth_mem hlt)) q (pres (ks.drop (i + 1)) ++ R)
        have HD2 : Hid (N.drop q = pre ks[i] ++ (pres (ks.drop (i + 1)) ++ R)) := by show _ = _; rw [HD.out, drop_nth hlt, ← List.append_assoc]; rfl
        have HQ2 : Hid (q + size ks[i] + sizes (ks.drop (i + 1)) = k + 1 + sizes ks) := by
          show _ = _
          have := HQ.out
          rw [drop_nth hlt] at this
          simp only [sizes] at this
          omega
        obtain ⟨m, em⟩ : ∃ m, ks[i] = m := ⟨_, rfl⟩
        rw [em] at hk1 cI HD2 HQ2
        subst e2
        obtain ⟨y0, y1, y2, y3, y4, y5, y6, y7⟩ := hk1
        have bk := below_new wr (.cells #[.int .u8 m.h.k, .int .u8 m.h.o, .int .u8 m.h.t, .int .i64 m.h.n, .int .u8 m.h.f, .string m.h.x, .slice m.a m.ks.length m.c, .int .i64 m.h.p] 28)
        have cI := callsIn_wide (n := 4) |>.2 (callsIn_wide.1 (cI (wr.alloc (.cells #[.int .u8 m.h.k, .int .u8 m.h.o, .int .u8 m.h.t, .int .i64 m.h.n, .int .u8 m.h.f, .string m.h.x, .slice m.a m.ks.length m.c, .int .i64 m.h.p] 28)) HD2.out (hg _ _ _ HJr.out bk) (HKr.out.trans (Kd.of_below bk))))
        have cI : CallsIn Fence.wide 4 Tryd.prog 44 #[.agg #[.int .u8 m.h.k, .int .u8 m.h.o, .int .u8 m.h.t, .int .i64 m.h.n, .int .u8 m.h.f, .string m.h.x, .slice m.a m.ks.length m.c, .int .i64 m.h.p], .func (.yield lo) #[] #[]] (wr.alloc (.cells #[.int .u8 m.h.k, .int .u8 m.h.o, .int .u8 m.h.t, .int .i64 m.h.n, .int .u8 m.h.f, .string m.h.x, .slice m.a m.ks.length m.c, .int .i64 m.h.p] 28)) fun e W' =>
          (e = .returned (.bool true) ∧ J (List.range (q + size m)) W' ∧ Kd w.heap.size w0 W') ∨ (e = .returned (.bool false) ∧ ∃ pre, pre <+: List.range N.length ∧ Jx pre W') := cI
        clear em HD HQ bk
        have HD4 : Hid (N.drop (q + size m) = pres (ks.drop (i + 1)) ++ R) := by
          show _ = _
          rw [← List.drop_drop, HD2.out, ← size_pre m, List.drop_left]
        gi_wp2_with fail
        refine ⟨trivial, ?_⟩
        refine cI.mono ?_
        rintro e W5 (⟨rfl, hJ5, hK5⟩ | ⟨rfl, pr, hp, hx⟩)
        · have HJ5 : Hid (J (List.range (q + size m)) W5) := hJ5
          have HK5 : Hid (Kd w.heap.size w0 W5) := hK5
          clear cI hJ5 hK5 y0 y1 y2 y3 y4 y5 y6 y7
          gi_wp2
          exact ⟨⟨i + 1, q + size m, hlt, rfl, HJ5.out, HK5.out, HD4.out, HQ2.out⟩, by simp only [intOf]; omega⟩
        · clear cI y0 y1 y2 y3 y4 y5 y6 y7
          gi_wp2
          refine bodyPost_ret (results_tmp rfl _ _ _) rfl ?_
          exact .inr ⟨rfl, pr, hp, hx⟩
      · obtain rfl : i = ks.length := by omega
        have hnot : ¬ (ks.length : Int) < (ks.length : Int) := by omega
        have HE : Hid (q = k + size (.mk h a c ks)) := by
          show _ = _
          have := HQ.out
          rw [List.drop_length] at this
          simp only [sizes, size] at this ⊢
          omega
        clear HQ HD
        gi_wp2_with fail
        refine bodyPost_ret (results_tmp rfl _ _ _) rfl ?_
        exact .inl ⟨rfl, by rw [← HE.out]; exact HJr.out, HKr.out⟩
  · clear hRo hy hYk
    gi_wp2
    refine bodyPost_ret (results_tmp rfl _ _ _) rfl ?_
    exact .inr ⟨rfl, List.range (k + 1), rng_prefix d1, by rw [List.range_succ]; exact hJx3⟩
set_option maxRecDepth 100000 in
/-- What All hands over, round by round: B the box of what it goes through, V the blocks that a round may change. -/
theorem all_stops2 (n : Nat) (m : Nd) (B : Nat) (w w0 : World) (hl : Lies w m) (hb0 : Below w.heap.size w w0) (hB : NdH w0 B m) :
    SeqStopsK Fence.wide n Tryd.prog 43 #[.pointer (some ⟨B, 0, none⟩)] (encN (pre m)) (Kd w.heap.size) (fun ys => ys = List.range (pre m).length) (fun pr => pr <+: List.range (pre m).length) (pre m).length w0 := by
  intro lo J Jx W hW hJ _ hY h0
  have hg : ∀ pre A B, J pre A → Below A.heap.size A B → J pre B := fun pre A B hA hb => hJ pre A B none hA (grown_below hb) (fun r e => by cases e)
  have hBW : NdH W B m := hB.on hW
  obtain ⟨y0, y1, y2, y3, y4, y5, y6, y7⟩ : W.cell? ⟨B, 0, none⟩ = some (.int .u8 m.h.k) ∧ W.cell? ⟨B, 1, none⟩ = some (.int .u8 m.h.o) ∧ W.cell? ⟨B, 2, none⟩ = some (.int .u8 m.h.t) ∧ W.cell? ⟨B, 3, none⟩ = some (.int .i64 m.h.n) ∧ W.cell? ⟨B, 4, none⟩ = some (.int .u8 m.h.f) ∧ W.cell? ⟨B, 5, none⟩ = some (.string m.h.x) ∧ W.cell? ⟨B, 6, none⟩ = some (.slice m.a m.ks.length m.c) ∧ W.cell? ⟨B, 7, none⟩ = some (.int .i64 m.h.p) :=
    ⟨cell_of hBW 0, cell_of hBW 1, cell_of hBW 2, cell_of hBW 3, cell_of hBW 4, cell_of hBW 5, cell_of hBW 6, cell_of hBW 7⟩
  have cW := callsIn_wide (n := n - 1) |>.2 (callsIn_wide.1 (walk_in2 lo (pre m) w w0 hb0 J Jx hg (fun pre x W hW hp => yield_any (hY pre x W hW hp)) m hl 0 [] W (by simp) h0 (Kd.of_below hW)))
  have cW : CallsIn Fence.wide (n - 1) Tryd.prog 44 #[.agg #[.int .u8 m.h.k, .int .u8 m.h.o, .int .u8 m.h.t, .int .i64 m.h.n, .int .u8 m.h.f, .string m.h.x, .slice m.a m.ks.length m.c, .int .i64 m.h.p], .func (.yield lo) #[] #[]] W fun e W' =>
      (e = .returned (.bool true) ∧ J (List.range (0 + size m)) W' ∧ Kd w.heap.size w0 W') ∨ (e = .returned (.bool false) ∧ ∃ pr, pr <+: List.range (pre m).length ∧ Jx pr W') := cW
  have HS : Hid (0 + size m = (pre m).length) := by show _ = _; rw [size_pre]; omega
  clear hY hBW hB hl
  show CallsIn Fence.wide n Tryd.prog 43 #[.func (.yield lo) #[] #[], .pointer (some ⟨B, 0, none⟩)] W _
  refine callsIn_of_wp Tryd.func43 rfl trivial ?_ rfl
  simp only [Tryd.ntmps43, List.size_toArray, List.length_cons, List.length_nil, Nat.reduceAdd, Nat.reduceSub, Array.replicate_succ, Array.replicate_zero, List.push_toArray, List.append_toArray, List.nil_append, List.cons_append]
  gi_wp2_with fail
  refine ⟨trivial, fun h => (by cases h), ?_⟩
  refine cW.mono ?_
  rintro e W5 (⟨rfl, hJ5, hK5⟩ | ⟨rfl, pr, hp, hx⟩)
  · have HJ5 : Hid (J (List.range (0 + size m)) W5) := hJ5
    clear cW hJ5 hK5 y0 y1 y2 y3 y4 y5 y6 y7
    gi_wp2
    go_end0
    exact ⟨⟨_, rfl⟩, .inl ⟨_, rfl, by rw [← HS.out]; exact HJ5.out⟩⟩
  · clear cW y0 y1 y2 y3 y4 y5 y6 y7
    gi_wp2
    go_end0
    exact ⟨⟨_, rfl⟩, .inr ⟨pr, hp, hx⟩⟩
end Go.Proofs.YtighocmdlifheaaDoor

/-
  Rows of cells that the call itself has made: a slice of n elements of s cells each, cell j holding 'f j'.
-/
namespace Go.Proofs.YtighocmdlifheaaDoor
open Go.RowKit

def Row (w : World) (e : TypeId) (s : Nat) (v : Value) (n : Nat) (f : Nat → Value) : Prop := w.ownsRow 0 e s v n ((List.range (n * s)).map f)

theorem range_map_set (m j : Nat) (f : Nat → Value) (u : Value) : ((List.range m).map f).set j u = (List.range m).map (fun i => if i = j then u else f i) := by
  apply List.ext_getElem?
  intro i
  rw [List.getElem?_set, List.getElem?_map, List.getElem?_map, List.length_map, List.length_range]
  by_cases hi : i < m
  · rw [List.getElem?_range hi]
    by_cases hj : j = i
    · subst hj; simp [hi]
    · rw [if_neg hj]
      show some (f i) = some (if i = j then u else f i)
      rw [if_neg (fun h => hj h.symm)]
  · rw [List.getElem?_eq_none (by simpa using hi)]
    by_cases hj : j = i
    · subst hj; simp [hi]
    · simp [hj]

variable {w : World} {e : TypeId} {s n cap : Nat} {g : Nat} {f f' : Nat → Value} {v : Value}

theorem Row.cell (h : Row w e s (.slice (some ⟨g, 0, none⟩) n cap) n f) {j : Nat} (hj : j < n * s) : w.cell? ⟨g, j, none⟩ = some (f j) := by
  rw [World.ownsRow.cellAt h j hj, List.getElem?_map, List.getElem?_range hj]; rfl
theorem Row.frozen (h : Row w e s (.slice (some ⟨g, 0, none⟩) n cap) n f) (j : Nat) : w.frozen? ⟨g, j, none⟩ = false := World.ownsRow.frozenAt h j
theorem Row.set (h : Row w e s (.slice (some ⟨g, 0, none⟩) n cap) n f) (j : Nat) (u : Value) : Row (w.setCell ⟨g, j, none⟩ u) e s (.slice (some ⟨g, 0, none⟩) n cap) n (fun i => if i = j then u else f i) := by
  have := (World.ownsRow.stored h j u).1
  rwa [range_map_set] at this
theorem Row.congr (h : Row w e s v n f) (he : ∀ j, j < n * s → f j = f' j) : Row w e s v n f' := by
  unfold Row at h ⊢
  have : (List.range (n * s)).map f = (List.range (n * s)).map f' := List.map_congr_left (fun j hj => he j (by simpa using hj))
  rwa [this] at h
theorem Row.kept {w' : World} {row : Option Nat} (h : Row w e s v n f) (hg : w.grownBy w' row) (hne : v.ownBlock = none ∨ v.ownBlock ≠ row) : Row w' e s v n f := World.ownsRow.kept h hg hne
theorem Row.lt (h : Row w e s v n f) : ∀ k, v.ownBlock = some k → k < w.heap.size := fun k hk => (World.ownsRow.lt h k hk).2
theorem Row.nil (w : World) (e : TypeId) (s : Nat) (f : Nat → Value) : Row w e s (.slice none 0 0) 0 f := by
  have := World.ownsRow_nil w 0 e s
  simpa [Row] using this
theorem Row.kind (h : Row w e s v n f) : ∀ k, v.ownBlock = some k → ∃ c fz, w.heap[k]? = some (.cells c e fz) := by
  intro k hk
  rcases h.2 with ⟨rfl, _⟩ | ⟨g', cap', cur, rfl, _, hg, _⟩
  · simp [Value.ownBlock] at hk
  · simp [Value.ownBlock] at hk
    subst hk
    exact ⟨_, _, hg⟩
/-- A block that is as it was keeps its row. -/
theorem Row.of_block {w' : World} (h : Row w e s v n f) (hb : ∀ k, v.ownBlock = some k → w'.heap[k]? = w.heap[k]?) : Row w' e s v n f := by
  refine ⟨h.1, ?_⟩
  rcases h.2 with h' | ⟨g', cap', cur, rfl, h1, hg, h2⟩
  · exact .inl h'
  · exact .inr ⟨g', cap', cur, rfl, h1, (hb g' rfl).trans hg, h2⟩
theorem Row.alloc (h : Row w e s v n f) (o : Obj) : Row (w.alloc o) e s v n f := World.ownsRow.alloc h o
/-- The form of a row's value: its address, where it has any. -/
theorem Row.form (h : Row w e s v n f) : ∃ ao c, v = .slice ao n c ∧ (0 < n → ∃ g, ao = some ⟨g, 0, none⟩) ∧ ((ao = none ∧ n = 0 ∧ c = 0) ∨ ∃ g, ao = some ⟨g, 0, none⟩) := by
  rcases h.2 with ⟨rfl, rfl⟩ | ⟨g', cap', cur, rfl, _⟩
  · exact ⟨none, 0, rfl, fun h => by omega, .inl ⟨rfl, rfl, rfl⟩⟩
  · exact ⟨_, _, rfl, fun _ => ⟨g', rfl⟩, .inr ⟨g', rfl⟩⟩
/-- Two rows of unlike elements lie apart. -/
theorem Row.apart {e' : TypeId} {s' n' : Nat} {v' : Value} (h : Row w e s v n f) (h' : Row w e' s' v' n' f') (hne : e ≠ e') : ∀ k, v.ownBlock = some k → v'.ownBlock ≠ some k := by
  intro k hk hk'
  obtain ⟨c, fz, h1⟩ := h.kind k hk
  obtain ⟨c', fz', h2⟩ := h'.kind k hk'
  rw [h1] at h2
  simp at h2
  exact hne h2.2.1
/-- One element more, behind a row. -/
theorem Row.snoc {v' : Value} {news : List Value} {x : Nat → Value} (h : w.ownsRow 0 e s v' (n + 1) ((List.range (n * s)).map f ++ news)) (hl : news.length = s) (hx : ∀ j, j < s → news[j]? = some (x j)) :
    Row w e s v' (n + 1) (fun j => if j < n * s then f j else x (j - n * s)) := by
  unfold Row
  have : (List.range ((n + 1) * s)).map (fun j => if j < n * s then f j else x (j - n * s)) = (List.range (n * s)).map f ++ news := by
    apply List.ext_getElem?
    intro j
    have hm : (n + 1) * s = n * s + s := by rw [Nat.add_mul, Nat.one_mul]
    by_cases h1 : j < n * s
    · rw [List.getElem?_append_left (by simpa using h1), List.getElem?_map, List.getElem?_map, List.getElem?_range (by omega), List.getElem?_range h1]
      simp [h1]
    · rw [List.getElem?_append_right (by simpa using Nat.le_of_not_lt h1), List.length_map, List.length_range]
      by_cases h2 : j < (n + 1) * s
      · rw [List.getElem?_map, List.getElem?_range h2, hx _ (by omega)]
        simp [h1]
      · rw [List.getElem?_eq_none (by simpa using Nat.le_of_not_lt h2), List.getElem?_eq_none (by omega)]
  rw [this]; exact h
theorem Row.pop (h : Row w e s (.slice (some ⟨g, 0, none⟩) (n + 1) cap) (n + 1) f) : Row w e s (.slice (some ⟨g, 0, none⟩) n cap) n f := by
  unfold Row at h ⊢
  refine ownsRow_pop (last := (List.range s).map (fun i => f (n * s + i))) (by simp) ?_
  have : (List.range ((n + 1) * s)).map f = (List.range (n * s)).map f ++ (List.range s).map (fun i => f (n * s + i)) := by
    rw [Nat.add_mul, Nat.one_mul, List.range_add, List.map_append, List.map_map]; rfl
  rwa [this] at h

end Go.Proofs.YtighocmdlifheaaDoor

/-
  How a world has moved: what lay outside a footprint lies as it lay.
-/
namespace Go.Proofs.YtighocmdlifheaaDoor
open Go.RowKit

structure Mv (w w' : World) (F : Nat → Prop) : Prop where
  os : w'.os = w.os
  tape : w'.tape = w.tape
  output : w'.output = w.output
  size : w.heap.size ≤ w'.heap.size
  block : ∀ k, k < w.heap.size → ¬ F k → w'.heap[k]? = w.heap[k]?

theorem Mv.refl (w : World) (F : Nat → Prop) : Mv w w F := ⟨rfl, rfl, rfl, Nat.le_refl _, fun _ _ _ => rfl⟩
theorem Mv.drew {w w' : World} {F : Nat → Prop} (h : Mv w w' F) : Mv w w'.drew F := ⟨h.os, h.tape, h.output, h.size, h.block⟩
theorem Mv.trans {w w' w'' : World} {F F' : Nat → Prop} (h : Mv w w' F) (k : Mv w' w'' F') (hF : ∀ b, F' b → F b ∨ w.heap.size ≤ b) : Mv w w'' F :=
  ⟨k.os.trans h.os, k.tape.trans h.tape, k.output.trans h.output, Nat.le_trans h.size k.size, fun b hb hn =>
    (k.block b (Nat.lt_of_lt_of_le hb h.size) (fun e => (hF b e).elim hn (fun h1 => by omega))).trans (h.block b hb hn)⟩
theorem Mv.mono {w w' : World} {F F' : Nat → Prop} (h : Mv w w' F) (hF : ∀ b, F b → F' b) : Mv w w' F' := ⟨h.os, h.tape, h.output, h.size, fun b hb hn => h.block b hb (fun e => hn (hF b e))⟩
theorem Mv.setCell {w w' : World} {F : Nat → Prop} (h : Mv w w' F) {a : Addr} (ha : F a.block ∨ w.heap.size ≤ a.block) (u : Value) : Mv w (w'.setCell a u) F :=
  h.trans (F' := fun b => b = a.block) ⟨rfl, rfl, rfl, by simp [World.setCell], fun b _ hn => Below.heap_setCell _ _ _ _ hn⟩ (fun b e => by cases e; exact ha)
theorem Mv.alloc {w w' : World} {F : Nat → Prop} (h : Mv w w' F) (o : Obj) : Mv w (w'.alloc o) F :=
  h.trans (F' := fun _ => False) ⟨rfl, rfl, rfl, by simp, fun b hb _ => Below.heap_alloc _ _ _ hb⟩ (fun b e => e.elim)
theorem Mv.grown {w w' w'' : World} {F : Nat → Prop} {row : Option Nat} (h : Mv w w' F) (hg : w'.grownBy w'' row) (hr : ∀ k, row = some k → F k ∨ w.heap.size ≤ k) : Mv w w'' F :=
  h.trans (F' := fun b => some b = row) ⟨hg.os, hg.tape, hg.output, hg.size, fun b hb hn => hg.block b hb hn⟩ (fun b e => hr b e.symm)
theorem Mv.below {w w' : World} {F : Nat → Prop} (h : Mv w w' F) {B : Nat} (hB : B ≤ w.heap.size) (hF : ∀ b, F b → B ≤ b) : Below B w w' :=
  ⟨h.os, h.tape, h.output, h.size, fun k hk => h.block k (by omega) (fun e => by have := hF k e; omega)⟩
theorem Mv.row {w w' : World} {F : Nat → Prop} (h : Mv w w' F) {e : TypeId} {s n : Nat} {v : Value} {f : Nat → Value} (hr : Row w e s v n f) (hn : ∀ k, v.ownBlock = some k → ¬ F k) : Row w' e s v n f :=
  hr.of_block (fun k hk => h.block k (hr.lt k hk) (hn k hk))

end Go.Proofs.YtighocmdlifheaaDoor
