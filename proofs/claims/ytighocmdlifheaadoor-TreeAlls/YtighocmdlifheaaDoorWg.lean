/-
  WeighNode, farExpr: how much is handed in.
-/
import Derived.Test.YtighocmdlifheaaDoorDp
namespace Go.Proofs.YtighocmdlifheaaDoor
open Go.RowKit
mutual
/-- How many nodes and bytes of names. -/
def wt : Nd → Nat
  | .mk h _ _ ks => 1 + h.x.size + wts ks
def wts : List Nd → Nat
  | [] => 0
  | k :: ks => wt k + wts ks
end
theorem size_wt : ∀ m, size m ≤ wt m := by
  refine Nd.ind fun h a c ks ih => ?_
  have : ∀ l : List Nd, (∀ k ∈ l, size k ≤ wt k) → sizes l ≤ wts l := by
    intro l
    induction l with
    | nil => intro _; exact Nat.le_refl _
    | cons k l ihl => intro hl; simp only [sizes, wts]; have h1 := hl k (by simp); have h2 := ihl fun x hx => hl x (by simp [hx]); omega
  simp only [size, wt]
  have := this ks ih
  omega
/-- What WeighNode hands back: where it is not too much, it is all. -/
def Wgh (m : Nd) (n : Int) (r : Int) : Prop := n ≤ r ∧ r ≤ 4611686018427387904 ∧ (r ≤ 1048576 → r = n + wt m)
set_option maxRecDepth 100000 in
set_option maxHeartbeats 4000000 in
theorem weigh_any : ∀ (m : Nd) (w : World) (n d : Int), Lies w m → 0 ≤ n → n ≤ 1048577 → 0 ≤ d → d ≤ 60001 → Calls Tryd.prog 29 #[.agg m.vals, .int .i64 n, .int .i64 d] w fun e w' => (∃ r, e = .returned (.int .i64 r) ∧ Wgh m n r) ∧ Below w.heap.size w w' := by
  refine Nd.ind fun h a c ks ih w n d hl h1 h2 h3 h4 => ?_
  have HI : Hid (∀ k ∈ ks, ∀ (w : World) (n d : Int), Lies w k → 0 ≤ n → n ≤ 1048577 → 0 ≤ d → d ≤ 60001 → Calls Tryd.prog 29 #[.agg k.vals, .int .i64 n, .int .i64 d] w fun e w' => (∃ r, e = .returned (.int .i64 r) ∧ Wgh k n r) ∧ Below w.heap.size w w') := ih
  have HL := hl.hid
  have hx := hl.rg.x1
  simp only [Nd.h] at hx
  show Calls Tryd.prog 29 #[.agg #[.int .u8 h.k, .int .u8 h.o, .int .u8 h.t, .int .i64 h.n, .int .u8 h.f, .string h.x, .slice a ks.length c, .int .i64 h.p], .int .i64 n, .int .i64 d] w _
  have HD : Hid (0 ≤ d ∧ d ≤ 60001 ∧ 0 ≤ n ∧ n ≤ 1048577 ∧ (h.x.size : Int) ≤ 140737488355328) := ⟨h3, h4, h1, h2, by omega⟩
  have g1 : -9223372036854775808 ≤ n + 1 := by omega
  have g2 : n + 1 ≤ 9223372036854775807 := by omega
  have g3 : -9223372036854775808 ≤ n + 1 + (h.x.size : Int) := by omega
  have g4 : n + 1 + (h.x.size : Int) ≤ 9223372036854775807 := by omega
  have HN0 : Hid (NdH (w.alloc (.cells #[.int .u8 h.k, .int .u8 h.o, .int .u8 h.t, .int .i64 h.n, .int .u8 h.f, .string h.x, .slice a ks.length c, .int .i64 h.p] 28)) w.heap.size (.mk h a c ks)) := heap_new w _
  have HW : Hid ((wt (.mk h a c ks) : Int) = 1 + h.x.size + wts ks) := by show _ = _; simp only [wt]; omega
  clear ih hl hx h1 h2 h3 h4
  by_cases hd : d > 60000
  · go_enter Tryd.func29, Tryd.ntmps29
    go_wp2_with fail
    go_ret
    exact ⟨⟨_, rfl, by have := HD.out; omega, by decide, fun hh => absurd hh (by decide)⟩, below_new _ _⟩
  · have g5 : d + 1 ≤ 9223372036854775807 := by have := HD.out; omega
    have g6 : -9223372036854775808 ≤ d + 1 := by have := HD.out; omega
    go_enter Tryd.func29, Tryd.ntmps29
    go_wp2_with fail
    go_loopw [1, 7] (fun v t wr => ∃ (i : Nat) (z : Int), i ≤ ks.length ∧ t = .int .i64 i ∧ v = .int .i64 z ∧ Below (w.alloc (.cells #[.int .u8 h.k, .int .u8 h.o, .int .u8 h.t, .int .i64 h.n, .int .u8 h.f, .string h.x, .slice a ks.length c, .int .i64 h.p] 28)).heap.size (w.alloc (.cells #[.int .u8 h.k, .int .u8 h.o, .int .u8 h.t, .int .i64 h.n, .int .u8 h.f, .string h.x, .slice a ks.length c, .int .i64 h.p] 28)) wr ∧ Hid (n ≤ z ∧ z ≤ 4611686018427387904 ∧ (z ≤ 1048576 → z + wts (ks.drop i) = n + wt (.mk h a c ks)))) (fun _ t _ => ks.length - (intOf t).toNat)
    case atStart => exact ⟨0, n + 1 + (h.x.size : Int), by omega, rfl, rfl, Below.refl _ _, by have := HD.out; omega, by have := HD.out; omega, fun _ => by rw [HW.out, List.drop_zero]; omega⟩
    case round =>
      obtain ⟨i, z, hi, rfl, rfl, hbr, HR⟩ := hrel
      have HBR : Hid (Below w.heap.size w wr) := below2 (below_new _ _) hbr
      have HBr : Hid (Below (w.alloc (.cells #[.int .u8 h.k, .int .u8 h.o, .int .u8 h.t, .int .i64 h.n, .int .u8 h.f, .string h.x, .slice a ks.length c, .int .i64 h.p] 28)).heap.size (w.alloc (.cells #[.int .u8 h.k, .int .u8 h.o, .int .u8 h.t, .int .i64 h.n, .int .u8 h.f, .string h.x, .slice a ks.length c, .int .i64 h.p] 28)) wr) := hbr
      have hN : NdH wr w.heap.size (.mk h a c ks) := HN0.out.on hbr
      have q6 : wr.cell? ⟨w.heap.size, 6, none⟩ = some (.slice a ks.length c) := cell_of hN 6
      clear hbr hN
      by_cases hlt : i < ks.length
      · have hlt' : (i : Int) < (ks.length : Int) := by omega
        by_cases hz : z ≤ 1048576
        · obtain ⟨b, o, e1, hat⟩ := (HL.out.on HBR.out).kid i hlt
          have e2 : a = some ⟨b, o, none⟩ := e1
          clear e1
          have hk1 : NdAt wr b (o + i * 8) ks[i] := hat
          clear hat
          have cI := HI.out ks[i] (nth_mem hlt) wr z (d + 1) ((HL.out.sub _ (nth_mem hlt)).on HBR.out) (by have h1 := HR.out; have h2 := HD.out; omega) (by omega) (by have := HD.out; omega) (by omega)
          have HW2 : Hid (wts (ks.drop i) = wt ks[i] + wts (ks.drop (i + 1))) := by show _ = _; rw [drop_nth hlt]; rfl
          have hmx : (i : Int) + 1 ≤ 9223372036854775807 := by
            have h1 := HL.out.max
            have h2 := HL.out.cap
            simp only [Nd.ks, Nd.c] at h1 h2
            omega
          obtain ⟨k, ek⟩ : ∃ k, ks[i] = k := ⟨_, rfl⟩
          rw [ek] at hk1 cI HW2
          subst e2
          obtain ⟨y0, y1, y2, y3, y4, y5, y6, y7⟩ := hk1
          have cI : Calls Tryd.prog 29 #[.agg #[.int .u8 k.h.k, .int .u8 k.h.o, .int .u8 k.h.t, .int .i64 k.h.n, .int .u8 k.h.f, .string k.h.x, .slice k.a k.ks.length k.c, .int .i64 k.h.p], .int .i64 z, .int .i64 (d + 1)] wr fun e w' => (∃ r, e = .returned (.int .i64 r) ∧ Wgh k z r) ∧ Below wr.heap.size wr w' := cI
          clear ek
          go_wp2_with fail
          refine cI.mono ?_
          rintro e w5 ⟨⟨r, rfl, hr1, hr2, hr3⟩, hb5⟩
          have HB5 : Hid (Below (w.alloc (.cells #[.int .u8 h.k, .int .u8 h.o, .int .u8 h.t, .int .i64 h.n, .int .u8 h.f, .string h.x, .slice (some ⟨b, o, none⟩) ks.length c, .int .i64 h.p] 28)).heap.size (w.alloc (.cells #[.int .u8 h.k, .int .u8 h.o, .int .u8 h.t, .int .i64 h.n, .int .u8 h.f, .string h.x, .slice (some ⟨b, o, none⟩) ks.length c, .int .i64 h.p] 28)) w5) := below2 HBr.out hb5
          have HX : Hid (n ≤ r ∧ r ≤ 4611686018427387904 ∧ (r ≤ 1048576 → r + wts (ks.drop (i + 1)) = n + wt (.mk h (some ⟨b, o, none⟩) c ks))) := by
            have h1 := HR.out
            have h2 := HW2.out
            exact ⟨by omega, hr2, fun hh => by have e1 := hr3 hh; have e2 := h1.2.2 hz; omega⟩
          clear hb5 cI hr1 hr2 hr3 y0 y1 y2 y3 y4 y5 y6 y7 q6
          go_wp2_with fail
          exact ⟨⟨i + 1, r, hlt, rfl, rfl, HB5.out, HX.out⟩, by simp only [intOf]; omega⟩
        · go_wp2_with fail
          go_ret
          exact ⟨⟨_, rfl, HR.out.1, HR.out.2.1, fun hh => absurd hh (by omega)⟩, HBR.out⟩
      · obtain rfl : i = ks.length := by omega
        have hnot : ¬ (ks.length : Int) < (ks.length : Int) := by omega
        go_wp2_with fail
        go_ret
        exact ⟨⟨_, rfl, HR.out.1, HR.out.2.1, fun hh => by have := HR.out.2.2 hh; rw [List.drop_length] at this; simpa [wts] using this⟩, HBR.out⟩
set_option maxRecDepth 100000 in
/-- Too much is handed in; or it isn't, and there are as many nodes as may be. -/
theorem far_any (m : Nd) (w : World) (hl : Lies w m) : Calls Tryd.prog 8 #[.agg m.vals] w fun e w' => (∃ b, e = .returned (.bool b) ∧ (b = false → wt m ≤ 1048576)) ∧ Below w.heap.size w w' := by
  have c := weigh_any m (w.alloc (.cells m.vals 28)) 0 0 (hl.on (below_new w _)) (by decide) (by decide) (by decide) (by decide)
  clear hl
  unfold Nd.vals hdA at c ⊢
  go_enter Tryd.func8, Tryd.ntmps8
  go_wp2_with fail
  refine c.mono ?_
  rintro e w1 ⟨⟨r, rfl, hr1, hr2, hr3⟩, hb⟩
  have HB : Hid (Below w.heap.size w w1) := (below_new _ _).trans (hb.mono (by simp))
  have HR : Hid (r ≤ 1048576 → r = 0 + wt m) := hr3
  clear hb hr3 c
  go_wp2_with fail
  go_ret
  refine ⟨⟨_, rfl, fun hh => ?_⟩, HB.out⟩
  have : r ≤ 1048576 := by simpa using hh
  have := HR.out this
  omega
end Go.Proofs.YtighocmdlifheaaDoor
