import Derived.Test.YtighocmdlifheaaGreatDoorM16
import Derived.Test.YtighocmdlifheaaGreatDoorDp
import Derived.Test.YtighocmdlifheaaGreatDoorM0
import Derived.Test.YtighocmdlifheaaGreatDoorM1
import Derived.Laws.Closers25
/-
  hasForm, CheckExpr, Level, Depth.
-/
namespace Go.Proofs.YtighocmdlifheaaGreatDoor
open Go.RowKit
theorem Gives.zero {F : Nat} {args : Array Value} {w : World} (c : Gives F args w 0) : Calls Tryz.prog F args w fun e w' => e = .returned (.tuple #[]) ∧ Below w.heap.size w w' := c.mono (by
  rintro e w' ⟨h1 | h1, h2⟩
  · exact ⟨h1.2, h2⟩
  · exact absurd rfl h1.1)
theorem Gives.some {F : Nat} {args : Array Value} {w : World} {E : Int} (h : ¬ E = 0) (c : Gives F args w E) : Calls Tryz.prog F args w fun e w' => e = .panicked [{ v := .iface 30 (.int .i64 E), recovered := false }] ∧ Below w.heap.size w w' := c.mono (by
  rintro e w' ⟨h1 | h1, h2⟩
  · exact absurd h1.1 h
  · exact ⟨h1.2, h2⟩)
def cE (m : Nd) : Int := if formB m = true then (if dep m ≤ 24 then 0 else 122) else 120
theorem hbox (w : World) (m : Nd) : NdH (w.alloc (.cells m.vals 55)) w.heap.size m := heap_new w _
set_option maxRecDepth 100000 in
theorem needExpr_any (m : Nd) (w : World) (hl : Lies w m) (hz : size m ≤ 1000000000000) (ht : Tab w) : Gives 75 #[.agg m.vals] w (cE m) := by
  have hN := hbox w m
  have hb0 := below_new w (.cells m.vals 55)
  have c1 := form_gives (hl.on hb0) (ht.on hb0)
  have c2 := fun v (hv : Below w.heap.size w v) => depth_any m v (hl.on hv) hz
  unfold Gives cE
  unfold fE at c1
  have HN := hN.hid
  clear hl hz ht hN hb0
  obtain ⟨B, eB⟩ : ∃ B, formB m = B := ⟨_, rfl⟩
  rw [eB] at c1 ⊢
  obtain ⟨d, ed⟩ : ∃ d, dep m = d := ⟨_, rfl⟩
  simp only [ed] at c2 ⊢
  clear ed eB
  unfold Nd.vals hdA at c1 c2 HN ⊢
  cases B with
  | false =>
    rw [if_neg (by decide)] at c1 ⊢
    have c3 := Gives.some (by decide) c1
    clear c1
    go_enter Tryz.func75, Tryz.ntmps75
    go_wp2_with fail
    refine c3.mono ?_
    rintro e w1 ⟨rfl, hb⟩
    exact ⟨rfl, .inr ⟨by decide, rfl⟩, (below_new _ _).trans (hb.mono (by simp))⟩
  | true =>
    rw [if_pos rfl] at c1
    have c3 := Gives.zero c1
    clear c1
    by_cases h : d ≤ 24
    · have h' : (d : Int) ≤ 24 := by omega
      rw [if_pos rfl, if_pos h]
      go_enter Tryz.func75, Tryz.ntmps75
      go_wp2_with fail
      refine c3.mono ?_
      rintro e w1 ⟨rfl, hb⟩
      obtain ⟨q0, q1, q2, q3, q4, q5, q6, q7⟩ := box8 hb
      have HB1 : Hid (Below w.heap.size w w1) := (below_new _ _).trans (hb.mono (by simp))
      clear hb c3
      go_wp2_with (go_at_call 78; refine (c2 _ HB1.out).mono ?_; rintro e w2 ⟨rfl, hb2⟩)
      refine (need_t 122 _).mono ?_
      rintro e w3 ⟨rfl, e4⟩
      obtain rfl := e4.symm
      go_wp2_with fail
      go_end0
      first | exact ⟨.inl ⟨rfl, rfl⟩, HB1.out.trans (hb2.mono HB1.out.size)⟩ | exact ⟨.inl ⟨trivial, rfl⟩, HB1.out.trans (hb2.mono HB1.out.size)⟩
    · have h' : ¬ (d : Int) ≤ 24 := by omega
      rw [if_pos rfl, if_neg h]
      go_enter Tryz.func75, Tryz.ntmps75
      go_wp2_with fail
      refine c3.mono ?_
      rintro e w1 ⟨rfl, hb⟩
      obtain ⟨q0, q1, q2, q3, q4, q5, q6, q7⟩ := box8 hb
      have HB1 : Hid (Below w.heap.size w w1) := (below_new _ _).trans (hb.mono (by simp))
      clear hb c3
      go_wp2_with (go_at_call 78; refine (c2 _ HB1.out).mono ?_; rintro e w2 ⟨rfl, hb2⟩)
      rw [show decide ((d : Int) ≤ 24) = false from decide_eq_false (by omega)]
      refine (need_f 122 _).mono ?_
      rintro e w3 ⟨rfl, e4⟩
      obtain rfl := e4.symm
      exact ⟨rfl, .inr ⟨by decide, rfl⟩, HB1.out.trans (hb2.mono HB1.out.size)⟩
set_option maxRecDepth 100000 in
theorem look51 (m : Nd) (b : Nat) (w : World) (hn : NdH w b m) (hl : Lies w m) (hz : size m ≤ 1000000000000) (ht : Tab w) : Gives 74 #[.pointer (some ⟨b, 0, none⟩)] w (cE m) := by
  obtain ⟨y0, y1, y2, y3, y4, y5, y6, y7⟩ := hn.eight
  have c := needExpr_any m w hl hz ht
  obtain ⟨E, eE⟩ : ∃ E, cE m = E := ⟨_, rfl⟩
  rw [eE] at c ⊢
  unfold Nd.vals hdA at c
  clear eE hl ht hn hz
  by_cases h : E = 0
  · have c2 := (h ▸ c : Gives 75 _ w 0).zero
    have HE : Hid (E = 0) := h
    clear c h
    unfold Gives
    go_enter Tryz.func74, Tryz.ntmps74
    go_wp2_with fail
    refine c2.mono ?_
    rintro e w1 ⟨rfl, hb⟩
    go_wp2_with fail
    go_end0
    exact ⟨.inl ⟨HE.out, rfl⟩, hb⟩
  · have c2 := c.some h
    have HE : Hid (¬ E = 0) := h
    clear c h
    unfold Gives
    go_enter Tryz.func74, Tryz.ntmps74
    go_wp2_with fail
    refine c2.mono ?_
    rintro e w1 ⟨rfl, hb⟩
    exact ⟨rfl, .inr ⟨HE.out, rfl⟩, hb⟩
set_option maxRecDepth 100000 in
theorem checkExpr_any (m : Nd) (w : World) (hl : Lies w m) (hz : size m ≤ 1000000000000) (ht : Tab w) : Calls Tryz.prog 20 #[.agg m.vals] w fun e w' => e = .returned (.int .i64 (cE m)) ∧ Below w.heap.size w w' := by
  have hmf : ∀ (fn : Fn) (first cap : Array Value) (w : World), (Instr.makeFunc fn first cap).run Tryz.prog w = .ok (.func fn first cap) w := fun _ _ _ _ => rfl
  have c := found_any 74 enter51 #[.pointer (some ⟨w.heap.size, 0, none⟩)] (cE m) (w.alloc (.cells m.vals 55)) (fun v hv => look51 m w.heap.size v ((hbox w m).on hv) ((hl.on (below_new w _)).on hv) hz ((ht.on (below_new w _)).on hv))
  clear hl hz ht
  unfold Nd.vals hdA at c ⊢
  go_enter Tryz.func20, Tryz.ntmps20
  go_wp2_with fail
  refine c.mono ?_
  rintro e w1 ⟨rfl, hb⟩
  go_wp2_with fail
  go_ret
  exact ⟨rfl, (below_new _ _).trans (hb.mono (by simp))⟩
set_option maxRecDepth 100000 in
theorem hasForm_any (m : Nd) (w : World) (hl : Lies w m) (ht : Tab w) : Calls Tryz.prog 76 #[.agg m.vals] w fun e w' => e = .returned (.bool (formB m)) ∧ Below w.heap.size w w' := by
  have hmf : ∀ (fn : Fn) (first cap : Array Value) (w : World), (Instr.makeFunc fn first cap).run Tryz.prog w = .ok (.func fn first cap) w := fun _ _ _ _ => rfl
  have c := found_any 107 enter57 #[.pointer (some ⟨w.heap.size, 0, none⟩)] (fE m) (w.alloc (.cells m.vals 55)) (fun v hv => look57 m w.heap.size v ((hbox w m).on hv) ((hl.on (below_new w _)).on hv) ((ht.on (below_new w _)).on hv))
  clear hl ht
  unfold fE at c
  obtain ⟨B, eB⟩ : ∃ B, formB m = B := ⟨_, rfl⟩
  rw [eB] at c ⊢
  clear eB
  unfold Nd.vals hdA at c ⊢
  cases B with
  | true =>
    rw [if_pos rfl] at c
    go_enter Tryz.func76, Tryz.ntmps76
    go_wp2_with fail
    refine c.mono ?_
    rintro e w1 ⟨rfl, hb⟩
    go_wp2_with fail
    go_ret
    exact ⟨rfl, (below_new _ _).trans (hb.mono (by simp))⟩
  | false =>
    rw [if_neg (by decide)] at c
    go_enter Tryz.func76, Tryz.ntmps76
    go_wp2_with fail
    refine c.mono ?_
    rintro e w1 ⟨rfl, hb⟩
    go_wp2_with fail
    go_ret
    exact ⟨rfl, (below_new _ _).trans (hb.mono (by simp))⟩
set_option maxRecDepth 100000 in
theorem levelX_any (m : Nd) (w : World) (hl : Lies w m) (ht : Tab w) : Calls Tryz.prog 21 #[.agg m.vals] w fun e w' => e = .returned (.int .i64 (if formB m = true then lvl m.h else 0)) ∧ Below w.heap.size w w' := by
  have c := hasForm_any m (w.alloc (.cells m.vals 55)) (hl.on (below_new w _)) (ht.on (below_new w _))
  have c2 := fun v => level_any m.h m.a m.ks.length m.c v
  clear hl ht
  obtain ⟨B, eB⟩ : ∃ B, formB m = B := ⟨_, rfl⟩
  rw [eB] at c ⊢
  clear eB
  unfold Nd.vals at c ⊢
  unfold hdA at c c2 ⊢
  cases B with
  | true =>
    rw [if_pos rfl]
    go_enter Tryz.func21, Tryz.ntmps21
    go_wp2_with fail
    refine c.mono ?_
    rintro e w1 ⟨rfl, hb⟩
    obtain ⟨q0, q1, q2, q3, q4, q5, q6, q7⟩ := box8 hb
    have HB1 : Hid (Below w.heap.size w w1) := (below_new _ _).trans (hb.mono (by simp))
    clear hb c
    go_wp2_with (go_at_call 77; refine (c2 _).mono ?_; rintro e w2 ⟨rfl, hb2⟩)
    go_ret
    exact ⟨rfl, HB1.out.trans (hb2.mono HB1.out.size)⟩
  | false =>
    rw [if_neg (by decide)]
    go_enter Tryz.func21, Tryz.ntmps21
    go_wp2_with fail
    refine c.mono ?_
    rintro e w1 ⟨rfl, hb⟩
    have HB1 : Hid (Below w.heap.size w w1) := (below_new _ _).trans (hb.mono (by simp))
    clear hb c
    go_wp2_with fail
    go_ret
    exact ⟨rfl, HB1.out⟩
set_option maxRecDepth 100000 in
theorem depthX_any (m : Nd) (w : World) (hl : Lies w m) (hz : size m ≤ 1000000000000) (ht : Tab w) : Calls Tryz.prog 22 #[.agg m.vals] w fun e w' => e = .returned (.int .i64 (if formB m = true then (dep m : Int) else 0)) ∧ Below w.heap.size w w' := by
  have c := hasForm_any m (w.alloc (.cells m.vals 55)) (hl.on (below_new w _)) (ht.on (below_new w _))
  have c2 := fun v (hv : Below w.heap.size w v) => depth_any m v (hl.on hv) hz
  clear hl ht hz
  obtain ⟨B, eB⟩ : ∃ B, formB m = B := ⟨_, rfl⟩
  rw [eB] at c ⊢
  clear eB
  unfold Nd.vals at c c2 ⊢
  unfold hdA at c c2 ⊢
  cases B with
  | true =>
    rw [if_pos rfl]
    go_enter Tryz.func22, Tryz.ntmps22
    go_wp2_with fail
    refine c.mono ?_
    rintro e w1 ⟨rfl, hb⟩
    obtain ⟨q0, q1, q2, q3, q4, q5, q6, q7⟩ := box8 hb
    have HB1 : Hid (Below w.heap.size w w1) := (below_new _ _).trans (hb.mono (by simp))
    clear hb c
    go_wp2_with (go_at_call 78; refine (c2 _ HB1.out).mono ?_; rintro e w2 ⟨rfl, hb2⟩)
    go_ret
    exact ⟨rfl, HB1.out.trans (hb2.mono HB1.out.size)⟩
  | false =>
    rw [if_neg (by decide)]
    go_enter Tryz.func22, Tryz.ntmps22
    go_wp2_with fail
    refine c.mono ?_
    rintro e w1 ⟨rfl, hb⟩
    have HB1 : Hid (Below w.heap.size w w1) := (below_new _ _).trans (hb.mono (by simp))
    clear hb c
    go_wp2_with fail
    go_ret
    exact ⟨rfl, HB1.out⟩
end Go.Proofs.YtighocmdlifheaaGreatDoor

/-
  WeighNode, farExpr: how much is handed in.
-/
namespace Go.Proofs.YtighocmdlifheaaGreatDoor
open Go.RowKit
mutual
/-- How many nodes and bytes of names. -/
def wt : Nd → Nat
  | .mk h _ _ ks => 1 + h.x.size + wts ks
def wts : List Nd → Nat
  | [] => 0
  | k :: ks => wt k + wts ks
end
theorem size_wt : ∀ m, size m ≤ wt m := by
  refine Nd.ind fun h a c ks ih => ?_
  have : ∀ l : List Nd, (∀ k ∈ l, size k ≤ wt k) → sizes l ≤ wts l := by
    intro l
    induction l with
    | nil => intro _; exact Nat.le_refl _
    | cons k l ihl => intro hl; simp only [sizes, wts]; have h1 := hl k (by simp); have h2 := ihl fun x hx => hl x (by simp [hx]); omega
  simp only [size, wt]
  have := this ks ih
  omega
/-- What WeighNode hands back: where it is not too much, it is all. -/
def Wgh (m : Nd) (n : Int) (r : Int) : Prop := n ≤ r ∧ r ≤ 4611686018427387904 ∧ (r ≤ 1048576 → r = n + wt m)
set_option maxRecDepth 100000 in
set_option maxHeartbeats 4000000 in
theorem weigh_any : ∀ (m : Nd) (w : World) (n d : Int), Lies w m → 0 ≤ n → n ≤ 1048577 → 0 ≤ d → d ≤ 60001 → Calls Tryz.prog 73 #[.agg m.vals, .int .i64 n, .int .i64 d] w fun e w' => (∃ r, e = .returned (.int .i64 r) ∧ Wgh m n r) ∧ Below w.heap.size w w' := by
  refine Nd.ind fun h a c ks ih w n d hl h1 h2 h3 h4 => ?_
  have HI : Hid (∀ k ∈ ks, ∀ (w : World) (n d : Int), Lies w k → 0 ≤ n → n ≤ 1048577 → 0 ≤ d → d ≤ 60001 → Calls Tryz.prog 73 #[.agg k.vals, .int .i64 n, .int .i64 d] w fun e w' => (∃ r, e = .returned (.int .i64 r) ∧ Wgh k n r) ∧ Below w.heap.size w w') := ih
  have HL := hl.hid
  have hx := hl.rg.x1
  simp only [Nd.h] at hx
  show Calls Tryz.prog 73 #[.agg #[.int .u8 h.k, .int .u8 h.o, .int .u8 h.t, .int .i64 h.n, .int .u8 h.f, .string h.x, .slice a ks.length c, .int .i64 h.p], .int .i64 n, .int .i64 d] w _
  have HD : Hid (0 ≤ d ∧ d ≤ 60001 ∧ 0 ≤ n ∧ n ≤ 1048577 ∧ (h.x.size : Int) ≤ 140737488355328) := ⟨h3, h4, h1, h2, by omega⟩
  have g1 : -9223372036854775808 ≤ n + 1 := by omega
  have g2 : n + 1 ≤ 9223372036854775807 := by omega
  have g3 : -9223372036854775808 ≤ n + 1 + (h.x.size : Int) := by omega
  have g4 : n + 1 + (h.x.size : Int) ≤ 9223372036854775807 := by omega
  have HN0 : Hid (NdH (w.alloc (.cells #[.int .u8 h.k, .int .u8 h.o, .int .u8 h.t, .int .i64 h.n, .int .u8 h.f, .string h.x, .slice a ks.length c, .int .i64 h.p] 55)) w.heap.size (.mk h a c ks)) := heap_new w _
  have HW : Hid ((wt (.mk h a c ks) : Int) = 1 + h.x.size + wts ks) := by show _ = _; simp only [wt]; omega
  clear ih hl hx h1 h2 h3 h4
  by_cases hd : d > 60000
  · go_enter Tryz.func73, Tryz.ntmps73
    go_wp2_with fail
    go_ret
    exact ⟨⟨_, rfl, by have := HD.out; omega, by decide, fun hh => absurd hh (by decide)⟩, below_new _ _⟩
  · have g5 : d + 1 ≤ 9223372036854775807 := by have := HD.out; omega
    have g6 : -9223372036854775808 ≤ d + 1 := by have := HD.out; omega
    go_enter Tryz.func73, Tryz.ntmps73
    go_wp2_with fail
    go_loopw [1, 7] (fun v t wr => ∃ (i : Nat) (z : Int), i ≤ ks.length ∧ t = .int .i64 i ∧ v = .int .i64 z ∧ Below (w.alloc (.cells #[.int .u8 h.k, .int .u8 h.o, .int .u8 h.t, .int .i64 h.n, .int .u8 h.f, .string h.x, .slice a ks.length c, .int .i64 h.p] 55)).heap.size (w.alloc (.cells #[.int .u8 h.k, .int .u8 h.o, .int .u8 h.t, .int .i64 h.n, .int .u8 h.f, .string h.x, .slice a ks.length c, .int .i64 h.p] 55)) wr ∧ Hid (n ≤ z ∧ z ≤ 4611686018427387904 ∧ (z ≤ 1048576 → z + wts (ks.drop i) = n + wt (.mk h a c ks)))) (fun _ t _ => ks.length - (intOf t).toNat)
    case atStart => exact ⟨0, n + 1 + (h.x.size : Int), by omega, rfl, rfl, Below.refl _ _, by have := HD.out; omega, by have := HD.out; omega, fun _ => by rw [HW.out, List.drop_zero]; omega⟩
    case round =>
      obtain ⟨i, z, hi, rfl, rfl, hbr, HR⟩ := hrel
      have HBR : Hid (Below w.heap.size w wr) := below2 (below_new _ _) hbr
      have HBr : Hid (Below (w.alloc (.cells #[.int .u8 h.k, .int .u8 h.o, .int .u8 h.t, .int .i64 h.n, .int .u8 h.f, .string h.x, .slice a ks.length c, .int .i64 h.p] 55)).heap.size (w.alloc (.cells #[.int .u8 h.k, .int .u8 h.o, .int .u8 h.t, .int .i64 h.n, .int .u8 h.f, .string h.x, .slice a ks.length c, .int .i64 h.p] 55)) wr) := hbr
      have hN : NdH wr w.heap.size (.mk h a c ks) := HN0.out.on hbr
      have q6 : wr.cell? ⟨w.heap.size, 6, none⟩ = some (.slice a ks.length c) := cell_of hN 6
      clear hbr hN
      by_cases hlt : i < ks.length
      · have hlt' : (i : Int) < (ks.length : Int) := by omega
        by_cases hz : z ≤ 1048576
        · obtain ⟨b, o, e1, hat⟩ := (HL.out.on HBR.out).kid i hlt
          have e2 : a = some ⟨b, o, none⟩ := e1
          clear e1
          have hk1 : NdAt wr b (o + i * 8) ks[i] := hat
          clear hat
          have cI := HI.out ks[i] (nth_mem hlt) wr z (d + 1) ((HL.out.sub _ (nth_mem hlt)).on HBR.out) (by have h1 := HR.out; have h2 := HD.out; omega) (by omega) (by have := HD.out; omega) (by omega)
          have HW2 : Hid (wts (ks.drop i) = wt ks[i] + wts (ks.drop (i + 1))) := by show _ = _; rw [drop_nth hlt]; rfl
          have hmx : (i : Int) + 1 ≤ 9223372036854775807 := by
            have h1 := HL.out.max
            have h2 := HL.out.cap
            simp only [Nd.ks, Nd.c] at h1 h2
            omega
          obtain ⟨k, ek⟩ : ∃ k, ks[i] = k := ⟨_, rfl⟩
          rw [ek] at hk1 cI HW2
          subst e2
          obtain ⟨y0, y1, y2, y3, y4, y5, y6, y7⟩ := hk1
          have cI : Calls Tryz.prog 73 #[.agg #[.int .u8 k.h.k, .int .u8 k.h.o, .int .u8 k.h.t, .int .i64 k.h.n, .int .u8 k.h.f, .string k.h.x, .slice k.a k.ks.length k.c, .int .i64 k.h.p], .int .i64 z, .int .i64 (d + 1)] wr fun e w' => (∃ r, e = .returned (.int .i64 r) ∧ Wgh k z r) ∧ Below wr.heap.size wr w' := cI
          clear ek
          go_wp2_with fail
          refine cI.mono ?_
          rintro e w5 ⟨⟨r, rfl, hr1, hr2, hr3⟩, hb5⟩
          have HB5 : Hid (Below (w.alloc (.cells #[.int .u8 h.k, .int .u8 h.o, .int .u8 h.t, .int .i64 h.n, .int .u8 h.f, .string h.x, .slice (some ⟨b, o, none⟩) ks.length c, .int .i64 h.p] 55)).heap.size (w.alloc (.cells #[.int .u8 h.k, .int .u8 h.o, .int .u8 h.t, .int .i64 h.n, .int .u8 h.f, .string h.x, .slice (some ⟨b, o, none⟩) ks.length c, .int .i64 h.p] 55)) w5) := below2 HBr.out hb5
          have HX : Hid (n ≤ r ∧ r ≤ 4611686018427387904 ∧ (r ≤ 1048576 → r + wts (ks.drop (i + 1)) = n + wt (.mk h (some ⟨b, o, none⟩) c ks))) := by
            have h1 := HR.out
            have h2 := HW2.out
            exact ⟨by omega, hr2, fun hh => by have e1 := hr3 hh; have e2 := h1.2.2 hz; omega⟩
          clear hb5 cI hr1 hr2 hr3 y0 y1 y2 y3 y4 y5 y6 y7 q6
          go_wp2_with fail
          exact ⟨⟨i + 1, r, hlt, rfl, rfl, HB5.out, HX.out⟩, by simp only [intOf]; omega⟩
        · go_wp2_with fail
          go_ret
          exact ⟨⟨_, rfl, HR.out.1, HR.out.2.1, fun hh => absurd hh (by omega)⟩, HBR.out⟩
      · obtain rfl : i = ks.length := by omega
        have hnot : ¬ (ks.length : Int) < (ks.length : Int) := by omega
        go_wp2_with fail
        go_ret
        exact ⟨⟨_, rfl, HR.out.1, HR.out.2.1, fun hh => by have := HR.out.2.2 hh; rw [List.drop_length] at this; simpa [wts] using this⟩, HBR.out⟩
set_option maxRecDepth 100000 in
/-- Too much is handed in; or it isn't, and there are as many nodes as may be. -/
theorem far_any (m : Nd) (w : World) (hl : Lies w m) : Calls Tryz.prog 18 #[.agg m.vals] w fun e w' => (∃ b, e = .returned (.bool b) ∧ (b = false → wt m ≤ 1048576)) ∧ Below w.heap.size w w' := by
  have c := weigh_any m (w.alloc (.cells m.vals 55)) 0 0 (hl.on (below_new w _)) (by decide) (by decide) (by decide) (by decide)
  clear hl
  unfold Nd.vals hdA at c ⊢
  go_enter Tryz.func18, Tryz.ntmps18
  go_wp2_with fail
  refine c.mono ?_
  rintro e w1 ⟨⟨r, rfl, hr1, hr2, hr3⟩, hb⟩
  have HB : Hid (Below w.heap.size w w1) := (below_new _ _).trans (hb.mono (by simp))
  have HR : Hid (r ≤ 1048576 → r = 0 + wt m) := hr3
  clear hb hr3 c
  go_wp2_with fail
  go_ret
  refine ⟨⟨_, rfl, fun hh => ?_⟩, HB.out⟩
  have : r ≤ 1048576 := by simpa using hh
  have := HR.out this
  omega
end Go.Proofs.YtighocmdlifheaaGreatDoor

/-
  Walks of the document's goes, over, Words, Word.
-/
namespace Go.Proofs.YtighocmdlifheaaGreatDoor
open Go.RowKit

theorem letter_any (c : UInt8) (w : World) : Calls Tryz.prog 101 #[.int .u8 (c.toNat : Int)] w fun e w' => e = .returned (.bool (letB c)) ∧ w' = w := by
  go_enter Tryz.func101, Tryz.ntmps101
  go_wp2
  all_goals go_ret
  all_goals refine ⟨retB ?_, rfl⟩
  all_goals unfold letB
  · have h : 97 ≤ c.toNat := by omega
    by_cases h2 : c.toNat ≤ 122
    · rw [decide_eq_true (show (c.toNat : Int) ≤ 122 by omega), decide_eq_true ⟨h, h2⟩]
    · rw [decide_eq_false (show ¬ (c.toNat : Int) ≤ 122 by omega), decide_eq_false (fun k => h2 k.2)]
  · rw [decide_eq_false (by omega)]
theorem digit_any (c : UInt8) (w : World) : Calls Tryz.prog 124 #[.int .u8 (c.toNat : Int)] w fun e w' => e = .returned (.bool (digB c)) ∧ w' = w := by
  go_enter Tryz.func124, Tryz.ntmps124
  go_wp2
  all_goals go_ret
  all_goals refine ⟨retB ?_, rfl⟩
  all_goals unfold digB
  · have h : 48 ≤ c.toNat := by omega
    by_cases h2 : c.toNat ≤ 57
    · rw [decide_eq_true (show (c.toNat : Int) ≤ 57 by omega), decide_eq_true ⟨h, h2⟩]
    · rw [decide_eq_false (show ¬ (c.toNat : Int) ≤ 57 by omega), decide_eq_false (fun k => h2 k.2)]
  · rw [decide_eq_false (by omega)]
theorem letter_b {c : UInt8} {b : Bool} (h : letB c = b) (w : World) : Calls Tryz.prog 101 #[.int .u8 (c.toNat : Int)] w fun e w' => e = .returned (.bool b) ∧ w' = w := h ▸ letter_any c w
theorem digit_b {c : UInt8} {b : Bool} (h : digB c = b) (w : World) : Calls Tryz.prog 124 #[.int .u8 (c.toNat : Int)] w fun e w' => e = .returned (.bool b) ∧ w' = w := h ▸ digit_any c w
theorem goes_any (c : UInt8) (w : World) : Calls Tryz.prog 102 #[.int .u8 (c.toNat : Int)] w fun e w' => e = .returned (.bool (goB c)) ∧ w' = w := by
  cases b1 : letB c
  · cases b2 : digB c
    · have hg : goB c = ((c.toNat : Int) == 95) := by
        unfold goB
        rw [b1, b2]
        by_cases h : c.toNat = 95
        · rw [h]; rfl
        · have h' : ((c.toNat : Int) == 95) = false := beq_false_of_ne (by omega)
          rw [h']; simp [h]
      go_enter Tryz.func102, Tryz.ntmps102
      go_wp2_with (first | (go_at_call 101; refine (letter_b b1 _).mono ?_; rintro _ v ⟨rfl, e⟩; obtain rfl := e.symm) | (go_at_call 124; refine (digit_b b2 _).mono ?_; rintro _ v ⟨rfl, e⟩; obtain rfl := e.symm))
      all_goals go_ret
      all_goals exact ⟨by rw [hg]; rfl, rfl⟩
    · have hg : goB c = true := by unfold goB; rw [b1, b2]; rfl
      go_enter Tryz.func102, Tryz.ntmps102
      go_wp2_with (first | (go_at_call 101; refine (letter_b b1 _).mono ?_; rintro _ v ⟨rfl, e⟩; obtain rfl := e.symm) | (go_at_call 124; refine (digit_b b2 _).mono ?_; rintro _ v ⟨rfl, e⟩; obtain rfl := e.symm))
      all_goals go_ret
      all_goals exact ⟨by rw [hg]; rfl, rfl⟩
  · have hg : goB c = true := by unfold goB; rw [b1]; rfl
    go_enter Tryz.func102, Tryz.ntmps102
    go_wp2_with (go_at_call 101; refine (letter_b b1 _).mono ?_; rintro _ v ⟨rfl, e⟩; obtain rfl := e.symm)
    all_goals go_ret
    all_goals exact ⟨by rw [hg]; rfl, rfl⟩
theorem goes_b {c : UInt8} {b : Bool} (h : goB c = b) (w : World) : Calls Tryz.prog 102 #[.int .u8 (c.toNat : Int)] w fun e w' => e = .returned (.bool b) ∧ w' = w := h ▸ goes_any c w
theorem words_any (w : World) : Calls Tryz.prog 123 #[] w fun e w' => e = .returned (.slice (some ⟨w.heap.size, 0, none⟩) 41 41) ∧ w' = w.alloc (.cells wordsV 9) := by
  go_enter Tryz.func123, Tryz.ntmps123
  go_wp2
  go_ret
  exact ⟨rfl, rfl⟩
set_option maxHeartbeats 2000000 in
theorem word_any (s : ByteArray) (w : World) : Calls Tryz.prog 100 #[.string s] w fun e w' => e = .returned (.bool (isW s)) ∧ Below w.heap.size w w' := by
  have hc := words_cell w
  have hB := below_new w (.cells wordsV 9)
  go_enter Tryz.func100, Tryz.ntmps100
  go_wp2_with fail
  refine (words_any _).mono ?_
  rintro _ v ⟨rfl, e⟩
  rw [← e] at hc hB
  have HC : Hid (∀ j, j < 41 → v.cell? ⟨w.heap.size, j, none⟩ = some (.string (wd j))) := hc
  clear hc e
  go_wp2_with fail
  go_loop [4] (fun t => ∃ i : Nat, i ≤ 41 ∧ t = .int .i64 i ∧ Hid (∀ j, j < i → ¬ wd j = s)) (fun t => 41 - (intOf t).toNat)
  case atStart => exact ⟨0, by omega, rfl, fun j hj => by omega⟩
  case round =>
    obtain ⟨i, hi, rfl, HR⟩ := hrel
    by_cases hlt : i < 41
    · have hlt' : (i : Int) < 41 := by omega
      have hcell := HC.out i hlt
      obtain ⟨x, ex⟩ : ∃ x, wd i = x := ⟨_, rfl⟩
      rw [ex] at hcell
      by_cases he : x = s
      · have hw := isW_yes hlt (ex.trans he)
        subst he
        go_wp2
        go_ret
        exact ⟨by first | rfl | exact retB hw.symm, hB⟩
      · have hne := seq_ne he
        have hn : Hid (∀ j, j < i + 1 → ¬ wd j = s) := fun j hj => by
          by_cases e : j = i
          · subst e; rw [ex]; exact he
          · exact HR.out j (by omega)
        clear he ex
        go_wp2
        exact ⟨⟨i + 1, by omega, by go_num, hn⟩, by simp only [intOf]; omega⟩
    · obtain rfl : i = 41 := by omega
      have hw := isW_no HR.out
      go_wp2
      go_ret
      exact ⟨by first | rfl | exact retB hw.symm, hB⟩
end Go.Proofs.YtighocmdlifheaaGreatDoor

/-
  The walk of the document's Name.
-/
namespace Go.Proofs.YtighocmdlifheaaGreatDoor
open Go.RowKit

set_option maxRecDepth 100000 in
set_option maxHeartbeats 2000000 in
theorem rname_any (s : ByteArray) (hs : s.size ≤ 140737488355328) (w : World) : Calls Tryz.prog 70 #[.string s] w fun e w' => e = .returned (.bool (nameB s)) ∧ Below w.heap.size w w' := by
  have cW := word_any s w
  cases hW : isW s
  · rw [hW] at cW
    by_cases h1 : 1 ≤ s.size
    · by_cases h2 : s.size ≤ 16
      · have hr := rest_at s 0 (by omega)
        obtain ⟨c, hc⟩ : ∃ c, s[0] = c := ⟨_, rfl⟩
        rw [hc] at hr
        have h1' : ¬ (s.size : Int) < 1 := by omega
        have h2' : ¬ (s.size : Int) > 16 := by omega
        have h3' : (0 : Int) < (s.size : Int) := by omega
        have h3 : 0 < s.size := by omega
        cases hl : letB c
        · have K : Hid (nameB s = false) := by show _ = _; unfold nameB; rw [hr]; simp [hdB, hl]
          clear hr
          go_enter Tryz.func70, Tryz.ntmps70
          go_wp2_with (first | (go_at_call 100; refine cW.mono ?_; rintro _ v ⟨rfl, bb⟩) | (go_at_call 101; refine (letter_b hl _).mono ?_; rintro _ v2 ⟨rfl, e⟩; obtain rfl := e.symm))
          go_ret
          exact ⟨retB K.out.symm, bb⟩
        · have HK : Hid (nameB s = decide (lead goB (rest s 0) = s.size)) := by show _ = _; unfold nameB; rw [hW]; simp [hr, hdB, hl, h1, h2]
          clear hr
          go_enter Tryz.func70, Tryz.ntmps70
          go_wp2_with (first | (go_at_call 100; refine cW.mono ?_; rintro _ v ⟨rfl, bb⟩) | (go_at_call 101; refine (letter_b hl _).mono ?_; rintro _ v2 ⟨rfl, e⟩; obtain rfl := e.symm))
          go_loop [4] (fun t => ∃ i : Nat, i ≤ s.size ∧ t = .int .i64 i ∧ Hid (lead goB (rest s 0) = i + lead goB (rest s i))) (fun t => s.size - (intOf t).toNat)
          case atStart => exact ⟨0, Nat.zero_le _, rfl, by show _ = _; omega⟩
          case round =>
            obtain ⟨i, hi, rfl, HR⟩ := hrel
            by_cases hlt : i < s.size
            · have hlt' : (i : Int) < (s.size : Int) := by omega
              have hr := rest_at s i hlt
              obtain ⟨d, hd⟩ : ∃ d, s[i] = d := ⟨_, rfl⟩
              rw [hd] at hr
              cases hg : goB d
              · have K : Hid (nameB s = false) := by
                  show _ = _
                  rw [HK.out, HR.out, hr, lead, if_neg (by rw [hg]; decide)]
                  exact decide_eq_false (by omega)
                clear hr HR HK
                go_wp2_with (go_at_call 102; refine (goes_b hg _).mono ?_; rintro _ v2 ⟨rfl, e⟩; obtain rfl := e.symm)
                go_ret
                exact ⟨retB K.out.symm, bb⟩
              · have hs2 : Hid (lead goB (rest s 0) = (i + 1) + lead goB (rest s (i + 1))) := by
                  show _ = _
                  rw [HR.out, hr, lead, if_pos hg]; omega
                clear hr HR
                go_wp2_with (go_at_call 102; refine (goes_b hg _).mono ?_; rintro _ v2 ⟨rfl, e⟩; obtain rfl := e.symm)
                exact ⟨⟨i + 1, by omega, by go_num, hs2⟩, by simp only [intOf]; omega⟩
            · have hie : i = s.size := by omega
              subst hie
              have K : Hid (nameB s = true) := by
                show _ = _
                have : rest s s.size = [] := by
                  apply List.eq_nil_of_length_eq_zero
                  rw [rest_len]; omega
                rw [HK.out, HR.out, this]
                exact decide_eq_true rfl
              have hlt' : ¬ (s.size : Int) < (s.size : Int) := by omega
              clear HR HK
              go_wp2
              go_ret
              exact ⟨retB K.out.symm, bb⟩
      · have K : Hid (nameB s = false) := by show _ = _; unfold nameB; simp [h2]
        have h1' : ¬ (s.size : Int) < 1 := by omega
        have h2' : (s.size : Int) > 16 := by omega
        go_enter Tryz.func70, Tryz.ntmps70
        go_wp2_with (first | (go_at_call 100; refine cW.mono ?_; rintro _ v ⟨rfl, bb⟩))
        go_ret
        exact ⟨retB K.out.symm, bb⟩
    · have K : Hid (nameB s = false) := by show _ = _; unfold nameB; simp [h1]
      have h1' : (s.size : Int) < 1 := by omega
      go_enter Tryz.func70, Tryz.ntmps70
      go_wp2_with (first | (go_at_call 100; refine cW.mono ?_; rintro _ v ⟨rfl, bb⟩))
      go_ret
      exact ⟨retB K.out.symm, bb⟩
  · rw [hW] at cW
    have K : Hid (nameB s = false) := by show _ = _; unfold nameB; rw [hW]; rfl
    go_enter Tryz.func70, Tryz.ntmps70
    go_wp2_with (first | (go_at_call 100; refine cW.mono ?_; rintro _ v ⟨rfl, bb⟩))
    go_ret
    exact ⟨retB K.out.symm, bb⟩
end Go.Proofs.YtighocmdlifheaaGreatDoor

/-
  The document's Formed: zero, literal, one.
-/
namespace Go.Proofs.YtighocmdlifheaaGreatDoor
open Go.RowKit
set_option linter.unusedVariables false
set_option linter.unusedSimpArgs false
theorem empt (x : ByteArray) : x.toList.isEmpty = decide (x = ⟨#[]⟩) := (decide_eq_emptyBytes x).symm
def zB (o t n f : Int) (x : ByteArray) : Bool := (o == 0) && ((t == 0) && ((n == 0) && ((f == 0) && x.toList.isEmpty)))
theorem zero_any (k o t n f : Int) (x : ByteArray) (a : Option Addr) (l c : Nat) (p : Int) (w : World) : Calls Tryz.prog 129 #[.agg #[.int .u8 k, .int .u8 o, .int .u8 t, .int .i64 n, .int .u8 f, .string x, .slice a l c, .int .i64 p]] w fun e w' => e = .returned (.bool (zB o t n f x)) ∧ Below w.heap.size w w' := by
  cases h1 : (o == 0) with
  | false =>
    have HE : Hid (zB o t n f x = false) := by show _ = _; simp [zB, h1]
    go_enter Tryz.func129, Tryz.ntmps129
    go_wp2_with fail
    go_ret
    exact ⟨by rw [HE.out]; rfl, below_new _ _⟩
  | true =>
    cases h2 : (t == 0) with
    | false =>
      have HE : Hid (zB o t n f x = false) := by show _ = _; simp [zB, h1, h2]
      go_enter Tryz.func129, Tryz.ntmps129
      go_wp2_with fail
      go_ret
      exact ⟨by rw [HE.out]; rfl, below_new _ _⟩
    | true =>
      cases h3 : (n == 0) with
      | false =>
        have HE : Hid (zB o t n f x = false) := by show _ = _; simp [zB, h1, h2, h3]
        go_enter Tryz.func129, Tryz.ntmps129
        go_wp2_with fail
        go_ret
        exact ⟨by rw [HE.out]; rfl, below_new _ _⟩
      | true =>
        cases h4 : (f == 0) with
        | false =>
          have HE : Hid (zB o t n f x = false) := by show _ = _; simp [zB, h1, h2, h3, h4]
          go_enter Tryz.func129, Tryz.ntmps129
          go_wp2_with fail
          go_ret
          exact ⟨by rw [HE.out]; rfl, below_new _ _⟩
        | true =>
          cases h5 : (x.toList.isEmpty) with
          | false =>
            have HE : Hid (zB o t n f x = false) := by show _ = _; simp [zB, h1, h2, h3, h4, h5]
            go_enter Tryz.func129, Tryz.ntmps129
            go_wp2_with fail
            go_ret
            exact ⟨by rw [HE.out]; rfl, below_new _ _⟩
          | true =>
            have HE : Hid (zB o t n f x = true) := by show _ = _; simp [zB, h1, h2, h3, h4, h5]
            go_enter Tryz.func129, Tryz.ntmps129
            go_wp2_with fail
            go_ret
            exact ⟨by rw [HE.out]; rfl, below_new _ _⟩
theorem litB_eq (t n : Int) : litB t n = if t == 1 then decide (0 ≤ n) else if t == 2 then decide (0 ≤ n) else if t == 3 then decide (0 ≤ n) else if t == 4 then decide (0 ≤ n) else if t == 5 then ((n == 0) || (n == 1)) else if t == 6 then ((n == 1) || (n == 2)) else false := by
  unfold litB numB
  by_cases h1 : t = 1
  · subst h1; simp
  by_cases h2 : t = 2
  · subst h2; simp
  by_cases h3 : t = 3
  · subst h3; simp
  by_cases h4 : t = 4
  · subst h4; simp
  by_cases h5 : t = 5
  · subst h5; simp; rw [Bool.eq_iff_iff]; simp; omega
  by_cases h6 : t = 6
  · subst h6; simp; rw [Bool.eq_iff_iff]; simp; omega
  simp [h1, h2, h3, h4, h5, h6]
  omega
end Go.Proofs.YtighocmdlifheaaGreatDoor
