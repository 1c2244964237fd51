import Derived.Test.YtighocmdlifheaaGreatDoorFm2
import Derived.RangeFuncNested
import Derived.RangeFuncBound
import Derived.RangeFuncCalls
import Derived.RangeFuncLeaves
import Derived.Shelf.Abstract
import Derived.Shelf.RegionOpen
import Derived.OwnWalkIn
import Derived.TacticsInMore
import Derived.LoopNIn
import Derived.LoopIn
import Derived.Test.YtighocmdlifheaaGreatDoorM8
/-
  walk: all nodes are handed over, a node ahead of its kids.
-/
namespace Go.Proofs.YtighocmdlifheaaGreatDoor
open Go.RowKit Go.Shelf

attribute [local go_sem] Oper.semAt_some

/-- All cells but those of V's blocks are as they were. -/
structure Kc (V : Nat → Prop) (W W' : World) : Prop where
  size : W.heap.size ≤ W'.heap.size
  same : ∀ b cs t fr, ¬ V b → W.heap[b]? = some (.cells cs t fr) → W'.heap[b]? = W.heap[b]?
theorem Kc.refl (V : Nat → Prop) (W : World) : Kc V W W := ⟨Nat.le_refl _, fun _ _ _ _ _ _ => rfl⟩
theorem Kc.trans {V : Nat → Prop} {A B C : World} (h : Kc V A B) (k : Kc V B C) : Kc V A C :=
  ⟨Nat.le_trans h.size k.size, fun b cs t fr hv hc => (k.same b cs t fr hv ((h.same b cs t fr hv hc).trans hc)).trans (h.same b cs t fr hv hc)⟩
theorem Kc.of_below {V : Nat → Prop} {A B : World} (h : Below A.heap.size A B) : Kc V A B :=
  ⟨h.size, fun b _ _ _ _ hc => h.block b (Array.getElem?_eq_some_iff.1 hc).1⟩
theorem Kc.bound {V : Nat → Prop} {w : World} (W : World) (l : Nat) (o o' : Obj) (_ : w.heap.size ≤ l) (h : W.heap[l]? = some o) (hc : o.isCells = false) (_ : o.isWalk = false) : Kc V W (W.putObj l o') := by
  have hg := grownBy_putObj' W l o'
  refine ⟨hg.size, fun b cs t fr _ hb => ?_⟩
  refine hg.block b (Array.getElem?_eq_some_iff.1 hb).1 (fun e => ?_)
  cases e
  rw [h] at hb
  cases hb
  simp [Obj.isCells] at hc
theorem cells_of_cell {w : World} {b o : Nat} {v : Value} (h : w.cell? ⟨b, o, none⟩ = some v) : ∃ cs t fr, w.heap[b]? = some (.cells cs t fr) := by
  unfold World.cell? at h
  cases hb : w.heap[b]? with
  | none => rw [hb] at h; simp at h
  | some x =>
    rw [hb] at h
    cases x <;> first | exact ⟨_, _, _, rfl⟩ | (simp at h)
/-- What lay ahead of V's blocks lies still. -/
theorem Lies.kc {V : Nat → Prop} {w w0 W : World} (hb : Below w.heap.size w w0) (hV : ∀ b, V b → w.heap.size ≤ b) (hk : Kc V w0 W) : ∀ {m : Nd}, Lies w m → Lies W m := by
  intro m h
  induction h with
  | mk h a c ks hr hc hm hq hs ih =>
    refine .mk h a c ks hr hc hm (fun i hi => ?_) ih
    obtain ⟨b, o, e, hat⟩ := hq i hi
    obtain ⟨cs, t, fr, hcs⟩ := cells_of_cell (hat.on hb).c0
    exact ⟨b, o, e, (hat.on hb).blk (hk.same b cs t fr (fun hv => by have := hV b hv; have := hat.lt; omega) hcs)⟩
/-- A node whose kids have no room behind. -/
def cutN (m : Nd) : Nd := .mk m.h m.a m.ks.length m.ks
def encN (N : List Nd) (k : Nat) : Array Value := #[.agg (cutN (N.getD k (.mk ⟨0, 0, 0, 0, 0, ⟨#[]⟩, 0⟩ none 0 []))).vals]
theorem enc_at {N : List Nd} {k : Nat} {m : Nd} {R : List Nd} (h : N.drop k = m :: R) : k < N.length ∧ encN N k = #[.agg (hdA m.h m.a m.ks.length m.ks.length)] ∧ N.drop (k + 1) = R := by
  have hk : k < N.length := by
    have := congrArg List.length h
    rw [List.length_drop, List.length_cons] at this
    omega
  rw [List.drop_eq_getElem_cons hk] at h
  refine ⟨hk, ?_, (List.cons.inj h).2⟩
  unfold encN
  rw [List.getD_eq_getElem?_getD, List.getElem?_eq_getElem hk, Option.getD_some, (List.cons.inj h).1]
  rfl
theorem yield_any {n n' : Nat} {lo : Nat} {args : Array Value} {W : World} {R : Ending → World → Prop} (h : YieldAt Fence.wide n Tryz.prog lo args W R) : YieldAt Fence.wide n' Tryz.prog lo args W R := by
  obtain ⟨fn, tmps, asg, body, hy, hf, hR⟩ := h
  exact ⟨fn, tmps, asg, body, hy, hf, fun c cs _ => hR c cs (room_wide _)⟩
theorem grown_below {A B : World} (h : Below A.heap.size A B) : A.grownBy B none := ⟨h.os, h.tape, h.output, h.size, fun b hb _ => h.block b hb⟩
theorem rng_prefix {k n : Nat} (h : k ≤ n) : List.range k <+: List.range n := by
  obtain ⟨m, rfl⟩ : ∃ m, n = k + m := ⟨n - k, by omega⟩
  rw [List.range_add]
  exact List.prefix_append _ _
set_option maxRecDepth 100000 in
set_option maxHeartbeats 4000000 in
theorem walk_in (lo : Nat) (N : List Nd) (V : Nat → Prop) (w w0 : World) (hb0 : Below w.heap.size w w0) (hV : ∀ b, V b → b < w0.heap.size ∧ w.heap.size ≤ b) (J Jx : List Nat → World → Prop)
    (hg : ∀ pre A B, J pre A → Below A.heap.size A B → J pre B)
    (hY : ∀ pre x W, J pre W → pre.length < N.length → YieldAt Fence.wide 0 Tryz.prog lo (encN N x) W fun e W' =>
      (e = .returned (.bool true) ∧ J (pre ++ [x]) W' ∧ Kc V W W') ∨ (e = .returned (.bool false) ∧ Jx (pre ++ [x]) W')) :
    ∀ (m : Nd), Lies w m → ∀ (k : Nat) (R : List Nd) (W : World), N.drop k = pre m ++ R → J (List.range k) W → Kc V w0 W →
    CallsIn Fence.wide 5 Tryz.prog 112 #[.agg m.vals, .func (.yield lo) #[] #[]] W fun e W' =>
      (e = .returned (.bool true) ∧ J (List.range (k + size m)) W' ∧ Kc V w0 W') ∨ (e = .returned (.bool false) ∧ ∃ pre, pre <+: List.range N.length ∧ Jx pre W') := by
  refine Nd.ind fun h a c ks ih hl k R W hN hJ hK => ?_
  have hN' : N.drop k = .mk h a c ks :: (pres ks ++ R) := by rw [hN]; rfl
  obtain ⟨d1, d2, d3⟩ := enc_at hN'
  have hYk := fun W hW => yield_any (n' := 4) (hY (List.range k) k W hW (by simpa using d1))
  rw [d2] at hYk
  unfold hdA at hYk
  simp only [Nd.h, Nd.a, Nd.ks] at hYk
  have HL := hl.hid
  have hcap : (ks.length : Int) ≤ (c : Int) := by have := hl.cap; simp only [Nd.ks, Nd.c] at this; omega
  show CallsIn Fence.wide 5 Tryz.prog 112 #[.agg #[.int .u8 h.k, .int .u8 h.o, .int .u8 h.t, .int .i64 h.n, .int .u8 h.f, .string h.x, .slice a ks.length c, .int .i64 h.p], .func (.yield lo) #[] #[]] W _
  refine callsIn_of_wp Tryz.func112 rfl trivial ?_ rfl
  simp only [Tryz.ntmps112, List.size_toArray, List.length_cons, List.length_nil, Nat.reduceAdd, Nat.reduceSub, Array.replicate_succ, Array.replicate_zero, List.push_toArray, List.append_toArray, List.nil_append, List.cons_append]
  have hX0 := below_new W (.cells #[.int .u8 h.k, .int .u8 h.o, .int .u8 h.t, .int .i64 h.n, .int .u8 h.f, .string h.x, .slice a ks.length ks.length, .int .i64 h.p] 55)
  have hXb := heap_new W (.cells #[.int .u8 h.k, .int .u8 h.o, .int .u8 h.t, .int .i64 h.n, .int .u8 h.f, .string h.x, .slice a ks.length ks.length, .int .i64 h.p] 55)
  obtain ⟨fn, tmps, asg, body, hy, hRo⟩ := hYk (W.alloc (.cells #[.int .u8 h.k, .int .u8 h.o, .int .u8 h.t, .int .i64 h.n, .int .u8 h.f, .string h.x, .slice a ks.length ks.length, .int .i64 h.p] 55)) (hg _ _ _ hJ hX0)
  have HKX : Hid (Kc V w0 (W.alloc (.cells #[.int .u8 h.k, .int .u8 h.o, .int .u8 h.t, .int .i64 h.n, .int .u8 h.f, .string h.x, .slice a ks.length ks.length, .int .i64 h.p] 55))) := hK.trans (Kc.of_below hX0)
  have hvn : ¬ V W.heap.size := fun hv => by have := (hV _ hv).1; have := hK.size; omega
  gi_wp2_with fail
  refine hRo.mono ?_
  rintro e W3 (⟨rfl, hJ3, hK3⟩ | ⟨rfl, hJx3⟩)
  · have hB3 := (hK3.same W.heap.size _ _ _ hvn hXb).trans hXb
    have c6 : W3.cell? ⟨W.heap.size, 6, none⟩ = some (.slice a ks.length ks.length) := cell_of hB3 6
    have HK3 : Hid (Kc V w0 W3) := HKX.out.trans hK3
    have HJ3 : Hid (J (List.range (k + 1)) W3) := by show J _ _; rw [List.range_succ]; exact hJ3
    have HI : Hid (∀ k ∈ ks, Lies w k → ∀ (q : Nat) (R : List Nd) (W : World), N.drop q = pre k ++ R → J (List.range q) W → Kc V w0 W →
      CallsIn Fence.wide 5 Tryz.prog 112 #[.agg k.vals, .func (.yield lo) #[] #[]] W fun e W' =>
        (e = .returned (.bool true) ∧ J (List.range (q + size k)) W' ∧ Kc V w0 W') ∨ (e = .returned (.bool false) ∧ ∃ pre, pre <+: List.range N.length ∧ Jx pre W')) := ih
    have HD3 : Hid (N.drop (k + 1) = pres ks ++ R) := d3
    have hmxL : (ks.length : Int) ≤ 9223372036854775807 := by have h1 := hl.max; have h2 := hl.cap; simp only [Nd.ks, Nd.c] at h1 h2; omega
    clear hRo hy hYk ih hJ3 hK3 hB3 hXb hX0 hJ hK hN hN' d2 d3 hl
    gi_wp2_with fail
    gi_loopw [6, 24] (fun _ t wr => ∃ i q : Nat, i ≤ ks.length ∧ t = .int .i64 i ∧ J (List.range q) wr ∧ Kc V w0 wr ∧ Hid (N.drop q = pres (ks.drop i) ++ R) ∧ Hid (q + sizes (ks.drop i) = k + 1 + sizes ks)) (fun _ t _ => ks.length - (intOf t).toNat)
    case atStart => exact ⟨0, k + 1, by omega, rfl, HJ3.out, HK3.out, by show _ = _; rw [List.drop_zero]; exact HD3.out, by show _ = _; rw [List.drop_zero]⟩
    case round =>
      obtain ⟨i, q, hi, rfl, hJr, hKr, HD, HQ⟩ := hrel
      have HJr : Hid (J (List.range q) wr) := hJr
      have HKr : Hid (Kc V w0 wr) := hKr
      clear hJr hKr
      by_cases hlt : i < ks.length
      · have hlt' : (i : Int) < (ks.length : Int) := by omega
        have hmx : (i : Int) + 1 ≤ 9223372036854775807 := by omega
        obtain ⟨b, o, e1, hat⟩ := (Lies.kc hb0 (fun b hb => (hV b hb).2) HKr.out HL.out).kid i hlt
        have e2 : a = some ⟨b, o, none⟩ := e1
        clear e1
        have hk1 : NdAt wr b (o + i * 8) ks[i] := hat
        clear hat
        have cI := HI.out ks[i] (nth_mem hlt) (HL.out.sub _ (nth_mem hlt)) q (pres (ks.drop (i + 1)) ++ R)
        have HD2 : Hid (N.drop q = pre ks[i] ++ (pres (ks.drop (i + 1)) ++ R)) := by show _ = _; rw [HD.out, drop_nth hlt, ← List.append_assoc]; rfl
        have HQ2 : Hid (q + size ks[i] + sizes (ks.drop (i + 1)) = k + 1 + sizes ks) := by
          show _ = _
          have := HQ.out
          rw [drop_nth hlt] at this
          simp only [sizes] at this
          omega
        obtain ⟨m, em⟩ : ∃ m, ks[i] = m := ⟨_, rfl⟩
        rw [em] at hk1 cI HD2 HQ2
        subst e2
        obtain ⟨y0, y1, y2, y3, y4, y5, y6, y7⟩ := hk1
        have bk := below_new wr (.cells #[.int .u8 m.h.k, .int .u8 m.h.o, .int .u8 m.h.t, .int .i64 m.h.n, .int .u8 m.h.f, .string m.h.x, .slice m.a m.ks.length m.c, .int .i64 m.h.p] 55)
        have cI := callsIn_wide (n := 4) |>.2 (callsIn_wide.1 (cI (wr.alloc (.cells #[.int .u8 m.h.k, .int .u8 m.h.o, .int .u8 m.h.t, .int .i64 m.h.n, .int .u8 m.h.f, .string m.h.x, .slice m.a m.ks.length m.c, .int .i64 m.h.p] 55)) HD2.out (hg _ _ _ HJr.out bk) (HKr.out.trans (Kc.of_below bk))))
        have cI : CallsIn Fence.wide 4 Tryz.prog 112 #[.agg #[.int .u8 m.h.k, .int .u8 m.h.o, .int .u8 m.h.t, .int .i64 m.h.n, .int .u8 m.h.f, .string m.h.x, .slice m.a m.ks.length m.c, .int .i64 m.h.p], .func (.yield lo) #[] #[]] (wr.alloc (.cells #[.int .u8 m.h.k, .int .u8 m.h.o, .int .u8 m.h.t, .int .i64 m.h.n, .int .u8 m.h.f, .string m.h.x, .slice m.a m.ks.length m.c, .int .i64 m.h.p] 55)) fun e W' =>
          (e = .returned (.bool true) ∧ J (List.range (q + size m)) W' ∧ Kc V w0 W') ∨ (e = .returned (.bool false) ∧ ∃ pre, pre <+: List.range N.length ∧ Jx pre W') := cI
        clear em HD HQ bk
        have HD4 : Hid (N.drop (q + size m) = pres (ks.drop (i + 1)) ++ R) := by
          show _ = _
          rw [← List.drop_drop, HD2.out, ← size_pre m, List.drop_left]
        gi_wp2_with fail
        refine ⟨trivial, ?_⟩
        refine cI.mono ?_
        rintro e W5 (⟨rfl, hJ5, hK5⟩ | ⟨rfl, pr, hp, hx⟩)
        · have HJ5 : Hid (J (List.range (q + size m)) W5) := hJ5
          have HK5 : Hid (Kc V w0 W5) := hK5
          clear cI hJ5 hK5 y0 y1 y2 y3 y4 y5 y6 y7
          gi_wp2
          exact ⟨⟨i + 1, q + size m, hlt, rfl, HJ5.out, HK5.out, HD4.out, HQ2.out⟩, by simp only [intOf]; omega⟩
        · clear cI y0 y1 y2 y3 y4 y5 y6 y7
          gi_wp2
          refine bodyPost_ret (results_tmp rfl _ _ _) rfl ?_
          exact .inr ⟨rfl, pr, hp, hx⟩
      · obtain rfl : i = ks.length := by omega
        have hnot : ¬ (ks.length : Int) < (ks.length : Int) := by omega
        have HE : Hid (q = k + size (.mk h a c ks)) := by
          show _ = _
          have := HQ.out
          rw [List.drop_length] at this
          simp only [sizes, size] at this ⊢
          omega
        clear HQ HD
        gi_wp2_with fail
        refine bodyPost_ret (results_tmp rfl _ _ _) rfl ?_
        exact .inl ⟨rfl, by rw [← HE.out]; exact HJr.out, HKr.out⟩
  · clear hRo hy hYk
    gi_wp2
    refine bodyPost_ret (results_tmp rfl _ _ _) rfl ?_
    exact .inr ⟨rfl, List.range (k + 1), rng_prefix d1, by rw [List.range_succ]; exact hJx3⟩
set_option maxRecDepth 100000 in
theorem all_any (m : Nd) (w : World) : Calls Tryz.prog 79 #[.agg m.vals] w fun e w' => e = .returned (.func (.func 111) #[] #[.pointer (some ⟨w.heap.size, 0, none⟩)]) ∧ w' = w.alloc (.cells m.vals 55) := by
  have hmf : ∀ (fn : Fn) (first cap : Array Value) (w : World), (Instr.makeFunc fn first cap).run Tryz.prog w = .ok (.func fn first cap) w := fun _ _ _ _ => rfl
  unfold Nd.vals hdA
  go_enter Tryz.func79, Tryz.ntmps79
  go_wp2_with fail
  go_ret
  exact ⟨rfl, rfl⟩
set_option maxRecDepth 100000 in
/-- What All hands over, round by round: B the box of what it goes through, V the blocks that a round may change. -/
theorem all_stops (n : Nat) (m : Nd) (V : Nat → Prop) (B : Nat) (w w0 : World) (hl : Lies w m) (hb0 : Below w.heap.size w w0) (hV : ∀ b, V b → b < w0.heap.size ∧ w.heap.size ≤ b) (hB : NdH w0 B m) :
    SeqStopsK Fence.wide n Tryz.prog 111 #[.pointer (some ⟨B, 0, none⟩)] (encN (pre m)) (Kc V) (fun ys => ys = List.range (pre m).length) (fun pr => pr <+: List.range (pre m).length) (pre m).length w0 := by
  intro lo J Jx W hW hJ _ hY h0
  have hg : ∀ pre A B, J pre A → Below A.heap.size A B → J pre B := fun pre A B hA hb => hJ pre A B none hA (grown_below hb) (fun r e => by cases e)
  have hBW : NdH W B m := hB.on hW
  obtain ⟨y0, y1, y2, y3, y4, y5, y6, y7⟩ : W.cell? ⟨B, 0, none⟩ = some (.int .u8 m.h.k) ∧ W.cell? ⟨B, 1, none⟩ = some (.int .u8 m.h.o) ∧ W.cell? ⟨B, 2, none⟩ = some (.int .u8 m.h.t) ∧ W.cell? ⟨B, 3, none⟩ = some (.int .i64 m.h.n) ∧ W.cell? ⟨B, 4, none⟩ = some (.int .u8 m.h.f) ∧ W.cell? ⟨B, 5, none⟩ = some (.string m.h.x) ∧ W.cell? ⟨B, 6, none⟩ = some (.slice m.a m.ks.length m.c) ∧ W.cell? ⟨B, 7, none⟩ = some (.int .i64 m.h.p) :=
    ⟨cell_of hBW 0, cell_of hBW 1, cell_of hBW 2, cell_of hBW 3, cell_of hBW 4, cell_of hBW 5, cell_of hBW 6, cell_of hBW 7⟩
  have cW := callsIn_wide (n := n - 1) |>.2 (callsIn_wide.1 (walk_in lo (pre m) V w w0 hb0 hV J Jx hg (fun pre x W hW hp => yield_any (hY pre x W hW hp)) m hl 0 [] W (by simp) h0 (Kc.of_below hW)))
  have cW : CallsIn Fence.wide (n - 1) Tryz.prog 112 #[.agg #[.int .u8 m.h.k, .int .u8 m.h.o, .int .u8 m.h.t, .int .i64 m.h.n, .int .u8 m.h.f, .string m.h.x, .slice m.a m.ks.length m.c, .int .i64 m.h.p], .func (.yield lo) #[] #[]] W fun e W' =>
      (e = .returned (.bool true) ∧ J (List.range (0 + size m)) W' ∧ Kc V w0 W') ∨ (e = .returned (.bool false) ∧ ∃ pr, pr <+: List.range (pre m).length ∧ Jx pr W') := cW
  have HS : Hid (0 + size m = (pre m).length) := by show _ = _; rw [size_pre]; omega
  clear hY hBW hB hl
  show CallsIn Fence.wide n Tryz.prog 111 #[.func (.yield lo) #[] #[], .pointer (some ⟨B, 0, none⟩)] W _
  refine callsIn_of_wp Tryz.func111 rfl trivial ?_ rfl
  simp only [Tryz.ntmps111, List.size_toArray, List.length_cons, List.length_nil, Nat.reduceAdd, Nat.reduceSub, Array.replicate_succ, Array.replicate_zero, List.push_toArray, List.append_toArray, List.nil_append, List.cons_append]
  gi_wp2_with fail
  refine ⟨trivial, fun h => (by cases h), ?_⟩
  refine cW.mono ?_
  rintro e W5 (⟨rfl, hJ5, hK5⟩ | ⟨rfl, pr, hp, hx⟩)
  · have HJ5 : Hid (J (List.range (0 + size m)) W5) := hJ5
    clear cW hJ5 hK5 y0 y1 y2 y3 y4 y5 y6 y7
    gi_wp2
    go_end0
    exact ⟨⟨_, rfl⟩, .inl ⟨_, rfl, by rw [← HS.out]; exact HJ5.out⟩⟩
  · clear cW y0 y1 y2 y3 y4 y5 y6 y7
    gi_wp2
    go_end0
    exact ⟨⟨_, rfl⟩, .inr ⟨pr, hp, hx⟩⟩
end Go.Proofs.YtighocmdlifheaaGreatDoor

/-
  SameNode of an expression and its twin; Nodes: all nodes, a node ahead of its kids.
-/
namespace Go.Proofs.YtighocmdlifheaaGreatDoor
open Go.RowKit
theorem Twin.self : ∀ m : Nd, Twin m m := Nd.ind fun h a c ks ih => .mk h a a c c ks ks rfl (fun _ h1 _ => ih _ (nth_mem h1))
theorem Twin.cut (m : Nd) : Twin (cutN m) m := by
  cases m with
  | mk h a c ks => exact .mk h a a _ c ks ks rfl (fun _ _ _ => Twin.self _)
set_option maxRecDepth 100000 in
set_option maxHeartbeats 8000000 in
theorem twin_any : ∀ (m k : Nd) (w : World), Twin m k → Lies w m → Lies w k → Calls Tryz.prog 29 #[.agg m.vals, .agg k.vals] w fun e w' => e = .returned (.bool true) ∧ Below w.heap.size w w' := by
  refine Nd.ind fun h a c ks ih k w ht hl hl' => ?_
  cases ht with
  | mk _ _ a' _ c' _ ks' hlen hk =>
  have HI : Hid (∀ j (h1 : j < ks.length) (h2 : j < ks'.length) (w : World), Lies w ks[j] → Lies w ks'[j] → Calls Tryz.prog 29 #[.agg ks[j].vals, .agg ks'[j].vals] w fun e w' => e = .returned (.bool true) ∧ Below w.heap.size w w') := fun j h1 h2 v hv hv' => ih _ (nth_mem h1) _ v (hk j h1 h2) hv hv'
  have HL := hl.hid
  have HL' := hl'.hid
  have HE : Hid (ks'.length = ks.length) := hlen
  show Calls Tryz.prog 29 #[.agg #[.int .u8 h.k, .int .u8 h.o, .int .u8 h.t, .int .i64 h.n, .int .u8 h.f, .string h.x, .slice a ks.length c, .int .i64 h.p], .agg #[.int .u8 h.k, .int .u8 h.o, .int .u8 h.t, .int .i64 h.n, .int .u8 h.f, .string h.x, .slice a' ks'.length c', .int .i64 h.p]] w _
  rw [hlen]
  clear ih hl hl' hk hlen
  go_enter Tryz.func29, Tryz.ntmps29
  go_wp2_with fail
  obtain ⟨W0, eW0⟩ : ∃ W0, (w.alloc (.cells #[.int .u8 h.k, .int .u8 h.o, .int .u8 h.t, .int .i64 h.n, .int .u8 h.f, .string h.x, .slice a ks.length c, .int .i64 h.p] 55)).alloc (.cells #[.int .u8 h.k, .int .u8 h.o, .int .u8 h.t, .int .i64 h.n, .int .u8 h.f, .string h.x, .slice a' ks.length c', .int .i64 h.p] 55) = W0 := ⟨_, rfl⟩
  have HB : Hid (Below w.heap.size w W0) := by rw [← eW0]; exact below_two _ _ _
  have HN0 : Hid (W0.heap[w.heap.size]? = some (.cells #[.int .u8 h.k, .int .u8 h.o, .int .u8 h.t, .int .i64 h.n, .int .u8 h.f, .string h.x, .slice a ks.length c, .int .i64 h.p] 55 (0, 0))) := by rw [← eW0]; exact heap_old (heap_new _ _) (by rw [size_alloc]; omega)
  have HN1 : Hid (W0.heap[w.heap.size + 1]? = some (.cells #[.int .u8 h.k, .int .u8 h.o, .int .u8 h.t, .int .i64 h.n, .int .u8 h.f, .string h.x, .slice a' ks.length c', .int .i64 h.p] 55 (0, 0))) := by rw [← eW0, ← size_alloc w (.cells #[.int .u8 h.k, .int .u8 h.o, .int .u8 h.t, .int .i64 h.n, .int .u8 h.f, .string h.x, .slice a ks.length c, .int .i64 h.p] 55)]; exact heap_new _ _
  rw [eW0]
  clear eW0
  go_loopw [5, 6] (fun t _ wr => ∃ i : Nat, i ≤ ks.length ∧ t = .int .i64 i ∧ Hid (Below W0.heap.size W0 wr)) (fun t _ _ => ks.length - (intOf t).toNat)
  case atStart => exact ⟨0, by omega, rfl, Below.refl _ _⟩
  case round =>
    obtain ⟨i, hi, rfl, HR⟩ := hrel
    have q0 : wr.heap[w.heap.size]? = some (.cells #[.int .u8 h.k, .int .u8 h.o, .int .u8 h.t, .int .i64 h.n, .int .u8 h.f, .string h.x, .slice a ks.length c, .int .i64 h.p] 55 (0, 0)) := (HR.out.block _ (Array.getElem?_eq_some_iff.1 HN0.out).1).trans HN0.out
    have q1 : wr.heap[w.heap.size + 1]? = some (.cells #[.int .u8 h.k, .int .u8 h.o, .int .u8 h.t, .int .i64 h.n, .int .u8 h.f, .string h.x, .slice a' ks.length c', .int .i64 h.p] 55 (0, 0)) := (HR.out.block _ (Array.getElem?_eq_some_iff.1 HN1.out).1).trans HN1.out
    have HQ0 : Hid (wr.heap[w.heap.size]? = some (.cells #[.int .u8 h.k, .int .u8 h.o, .int .u8 h.t, .int .i64 h.n, .int .u8 h.f, .string h.x, .slice a ks.length c, .int .i64 h.p] 55 (0, 0))) := q0
    have HQ1 : Hid (wr.heap[w.heap.size + 1]? = some (.cells #[.int .u8 h.k, .int .u8 h.o, .int .u8 h.t, .int .i64 h.n, .int .u8 h.f, .string h.x, .slice a' ks.length c', .int .i64 h.p] 55 (0, 0))) := q1
    have c6 : wr.cell? ⟨w.heap.size, 6, none⟩ = some (.slice a ks.length c) := cell_of q0 6
    have d6 : wr.cell? ⟨w.heap.size + 1, 6, none⟩ = some (.slice a' ks.length c') := cell_of q1 6
    clear q0 q1
    have HBr : Hid (Below w.heap.size w wr) := below2 HB.out HR.out
    by_cases hlt : i < ks.length
    · have hlt' : (i : Int) < (ks.length : Int) := by omega
      have hlt2 : i < ks'.length := by have := HE.out; omega
      obtain ⟨b, o, e1, hat⟩ := (HL.out.on HBr.out).kid i hlt
      have e1' : a = some ⟨b, o, none⟩ := e1
      have hk1 : NdAt wr b (o + i * 8) ks[i] := hat
      obtain ⟨b', o', e2, hat'⟩ := (HL'.out.on HBr.out).kid i hlt2
      have e2' : a' = some ⟨b', o', none⟩ := e2
      have hk2 : NdAt wr b' (o' + i * 8) ks'[i] := hat'
      have cI := fun v (hv : Below wr.heap.size wr v) => HI.out i hlt hlt2 v (((HL.out.sub _ (nth_mem hlt)).on HBr.out).on hv) (((HL'.out.sub _ (nth_mem hlt2)).on HBr.out).on hv)
      obtain ⟨k, ek⟩ : ∃ k, ks[i] = k := ⟨_, rfl⟩
      obtain ⟨k', ek'⟩ : ∃ k, ks'[i] = k := ⟨_, rfl⟩
      rw [ek] at hk1 cI
      rw [ek'] at hk2 cI
      have HK1 := hk1.hid
      have HK2 := hk2.hid
      have cI : ∀ v, Below wr.heap.size wr v → Calls Tryz.prog 29 #[.agg #[.int .u8 k.h.k, .int .u8 k.h.o, .int .u8 k.h.t, .int .i64 k.h.n, .int .u8 k.h.f, .string k.h.x, .slice k.a k.ks.length k.c, .int .i64 k.h.p], .agg #[.int .u8 k'.h.k, .int .u8 k'.h.o, .int .u8 k'.h.t, .int .i64 k'.h.n, .int .u8 k'.h.f, .string k'.h.x, .slice k'.a k'.ks.length k'.c, .int .i64 k'.h.p]] v fun e w' => e = .returned (.bool true) ∧ Below v.heap.size v w' := cI
      rw [e1'] at c6 HQ0
      rw [e2'] at d6 HQ1
      have HKP : Hid (∀ v, GB wr v → v.cell? ⟨w.heap.size, 6, none⟩ = some (.slice (some ⟨b, o, none⟩) ks.length c) ∧ v.cell? ⟨w.heap.size + 1, 6, none⟩ = some (.slice (some ⟨b', o', none⟩) ks.length c') ∧ v.cell? ⟨b, o + i * 8, none⟩ = some (.int .u8 k.h.k) ∧ v.cell? ⟨b, o + i * 8 + 1, none⟩ = some (.int .u8 k.h.o) ∧ v.cell? ⟨b, o + i * 8 + 2, none⟩ = some (.int .u8 k.h.t) ∧ v.cell? ⟨b, o + i * 8 + 3, none⟩ = some (.int .i64 k.h.n) ∧ v.cell? ⟨b, o + i * 8 + 4, none⟩ = some (.int .u8 k.h.f) ∧ v.cell? ⟨b, o + i * 8 + 5, none⟩ = some (.string k.h.x) ∧ v.cell? ⟨b, o + i * 8 + 6, none⟩ = some (.slice k.a k.ks.length k.c) ∧ v.cell? ⟨b, o + i * 8 + 7, none⟩ = some (.int .i64 k.h.p) ∧ v.cell? ⟨b', o' + i * 8, none⟩ = some (.int .u8 k'.h.k) ∧ v.cell? ⟨b', o' + i * 8 + 1, none⟩ = some (.int .u8 k'.h.o) ∧ v.cell? ⟨b', o' + i * 8 + 2, none⟩ = some (.int .u8 k'.h.t) ∧ v.cell? ⟨b', o' + i * 8 + 3, none⟩ = some (.int .i64 k'.h.n) ∧ v.cell? ⟨b', o' + i * 8 + 4, none⟩ = some (.int .u8 k'.h.f) ∧ v.cell? ⟨b', o' + i * 8 + 5, none⟩ = some (.string k'.h.x) ∧ v.cell? ⟨b', o' + i * 8 + 6, none⟩ = some (.slice k'.a k'.ks.length k'.c) ∧ v.cell? ⟨b', o' + i * 8 + 7, none⟩ = some (.int .i64 k'.h.p) ∧ GB wr v) := fun v hv => by
        have hk1' := HK1.out.on hv
        have hk2' := HK2.out.on hv
        exact ⟨cell_of ((hv.block _ (Array.getElem?_eq_some_iff.1 HQ0.out).1).trans HQ0.out) 6, cell_of ((hv.block _ (Array.getElem?_eq_some_iff.1 HQ1.out).1).trans HQ1.out) 6, hk1'.c0, hk1'.c1, hk1'.c2, hk1'.c3, hk1'.c4, hk1'.c5, hk1'.c6, hk1'.c7, hk2'.c0, hk2'.c1, hk2'.c2, hk2'.c3, hk2'.c4, hk2'.c5, hk2'.c6, hk2'.c7, hv⟩
      have hmx : (i : Int) + 1 ≤ 9223372036854775807 := by
        have h1 := HL.out.max
        have h2 := HL.out.cap
        simp only [Nd.ks, Nd.c] at h1 h2
        omega
      clear ek ek' e1 e2 e1' e2' hat hat' hk1 hk2
      go_upto_region 6 with fail
      go_region_held3 (fun v => v.cell? ⟨w.heap.size, 6, none⟩ = some (.slice (some ⟨b, o, none⟩) ks.length c) ∧ v.cell? ⟨w.heap.size + 1, 6, none⟩ = some (.slice (some ⟨b', o', none⟩) ks.length c') ∧ v.cell? ⟨b, o + i * 8, none⟩ = some (.int .u8 k.h.k) ∧ v.cell? ⟨b, o + i * 8 + 1, none⟩ = some (.int .u8 k.h.o) ∧ v.cell? ⟨b, o + i * 8 + 2, none⟩ = some (.int .u8 k.h.t) ∧ v.cell? ⟨b, o + i * 8 + 3, none⟩ = some (.int .i64 k.h.n) ∧ v.cell? ⟨b, o + i * 8 + 4, none⟩ = some (.int .u8 k.h.f) ∧ v.cell? ⟨b, o + i * 8 + 5, none⟩ = some (.string k.h.x) ∧ v.cell? ⟨b, o + i * 8 + 6, none⟩ = some (.slice k.a k.ks.length k.c) ∧ v.cell? ⟨b, o + i * 8 + 7, none⟩ = some (.int .i64 k.h.p) ∧ v.cell? ⟨b', o' + i * 8, none⟩ = some (.int .u8 k'.h.k) ∧ v.cell? ⟨b', o' + i * 8 + 1, none⟩ = some (.int .u8 k'.h.o) ∧ v.cell? ⟨b', o' + i * 8 + 2, none⟩ = some (.int .u8 k'.h.t) ∧ v.cell? ⟨b', o' + i * 8 + 3, none⟩ = some (.int .i64 k'.h.n) ∧ v.cell? ⟨b', o' + i * 8 + 4, none⟩ = some (.int .u8 k'.h.f) ∧ v.cell? ⟨b', o' + i * 8 + 5, none⟩ = some (.string k'.h.x) ∧ v.cell? ⟨b', o' + i * 8 + 6, none⟩ = some (.slice k'.a k'.ks.length k'.c) ∧ v.cell? ⟨b', o' + i * 8 + 7, none⟩ = some (.int .i64 k'.h.p) ∧ GB wr v)
        (exact HKP.out _ (by (repeat (first | with_reducible assumption | with_reducible exact GB.refl _ | with_reducible apply GB.drew | with_reducible apply GB.alloc | with_reducible refine GB.call (by with_reducible assumption) ?_))))
        (first | (go_at_call 29; refine (cI _ ((Below.refl _ _).drew)).mono ?_; rintro e w6 ⟨rfl, hb6⟩))
      all_goals (
        have HB6 : Hid (Below W0.heap.size W0 w6) := below2 HR.out (below2 (Below.refl _ _).drew hb6)
        clear hb6
        go_wp2_with fail
        exact ⟨⟨i + 1, hlt, rfl, HB6⟩, by simp only [intOf]; omega⟩)
    · obtain rfl : i = ks.length := by omega
      have hnot : ¬ (ks.length : Int) < (ks.length : Int) := by omega
      go_wp2_with fail
      go_ret
      exact ⟨rfl, HBr.out⟩
theorem pres_append (a b : List Nd) : pres (a ++ b) = pres a ++ pres b := by
  induction a with
  | nil => simp [pres]
  | cons k a ih => simp only [List.cons_append, pres, ih, List.append_assoc]
theorem pres_take {ks : List Nd} {i : Nat} (hi : i < ks.length) : pres (ks.take (i + 1)) = pres (ks.take i) ++ pre ks[i] := by
  rw [List.take_add_one, pres_append, List.getElem?_eq_getElem hi]
  simp [pres]
theorem pres_len : ∀ ks : List Nd, (pres ks).length = sizes ks
  | [] => rfl
  | k :: ks => by simp only [pres, sizes, List.length_append, pres_len ks, size_pre]
theorem sizes_take' {ks : List Nd} {i : Nat} (hi : i < ks.length) : sizes (ks.take i) + size ks[i] ≤ sizes ks := by
  rw [← pres_len, ← pres_len, ← size_pre, ← List.length_append, ← pres_take hi]
  have := congrArg List.length (pres_append (ks.take (i + 1)) (ks.drop (i + 1)))
  rw [List.take_append_drop, List.length_append] at this
  omega
/-- A list has grown; all else is as it was. -/
structure Grw (w w' : World) (v v' : Value) : Prop where
  s : w.heap.size ≤ w'.heap.size
  k : ∀ b, b < w.heap.size → v.ownBlock ≠ some b → w'.heap[b]? = w.heap[b]?
  o : v'.ownBlock = v.ownBlock ∨ ∃ g, v'.ownBlock = some g ∧ w.heap.size ≤ g
theorem Grw.refl (w : World) (v : Value) : Grw w w v v := ⟨Nat.le_refl _, fun _ _ _ => rfl, .inl rfl⟩
theorem Grw.ne {w w' : World} {v v' : Value} (h : Grw w w' v v') {b : Nat} (hb : b < w.heap.size) (hn : v.ownBlock ≠ some b) : v'.ownBlock ≠ some b := fun e => by
  rcases h.o with e1 | ⟨g, e1, hg⟩
  · exact hn (e1.symm.trans e)
  · rw [e1] at e; cases e; omega
theorem Grw.trans {w1 w2 w3 : World} {v1 v2 v3 : Value} (h : Grw w1 w2 v1 v2) (k : Grw w2 w3 v2 v3) : Grw w1 w3 v1 v3 := by
  refine ⟨Nat.le_trans h.s k.s, fun b hb hn => (k.k b (Nat.lt_of_lt_of_le hb h.s) (h.ne hb hn)).trans (h.k b hb hn), ?_⟩
  rcases k.o with e | ⟨g, e, hg⟩
  · rcases h.o with e1 | ⟨g, e1, hg⟩
    · exact .inl (e.trans e1)
    · exact .inr ⟨g, e.trans e1, hg⟩
  · exact .inr ⟨g, e, Nat.le_trans h.s hg⟩
end Go.Proofs.YtighocmdlifheaaGreatDoor
