import Derived.Test.YtighocmdlifheaaGreatDoorM14
import Derived.Test.YtighocmdlifheaaGreatDoorM10
import Derived.Test.YtighocmdlifheaaGreatDoorM2
import Derived.Test.YtighocmdlifheaaGreatDoorDp
import Derived.Deep.RegionHeld3
/-
  An expression comes into the book: the walk.
-/
namespace Go.Proofs.YtighocmdlifheaaGreatDoor
open Go.RowKit
set_option linter.unusedVariables false
set_option linter.unusedSimpArgs false
theorem cutZ27 {P : Program} {c : Code} {Q : Exit → Act → World → Prop} {a : Act} {w : World} (A : Value → Value → Value → Value → Value → Value → Value → Value → Value → Value → Value → Value → Value → Value → Value → Value → Value → Value → Value → Value → Value → Value → Value → Value → Value → Value → Value → Act) (I : World → Prop) (f : Hid (∀ (y2 y4 y5 y6 y7 y8 y9 y10 y11 y12 y13 y14 y15 y16 y17 y18 y19 y20 y21 y22 y23 y24 y25 y26 y27 y28 y29 : Value) (w' : World), I w' → Q .normal (A y2 y4 y5 y6 y7 y8 y9 y10 y11 y12 y13 y14 y15 y16 y17 y18 y19 y20 y21 y22 y23 y24 y25 y26 y27 y28 y29) w') → c.wp P Q a w) (h : ∀ (y2 y4 y5 y6 y7 y8 y9 y10 y11 y12 y13 y14 y15 y16 y17 y18 y19 y20 y21 y22 y23 y24 y25 y26 y27 y28 y29 : Value) (w' : World), I w' → Q .normal (A y2 y4 y5 y6 y7 y8 y9 y10 y11 y12 y13 y14 y15 y16 y17 y18 y19 y20 y21 y22 y23 y24 y25 y26 y27 y28 y29) w') : c.wp P Q a w := f h

theorem sizes_take {ks : List Nd} {i : Nat} (hi : i < ks.length) : sizes (ks.take (i + 1)) = sizes (ks.take i) + size ks[i] := by
  induction ks generalizing i with
  | nil => simp at hi
  | cons k ks ih =>
    cases i with
    | zero => simp [sizes]
    | succ i => simp only [List.take_succ_cons, sizes, List.getElem_cons_succ]; rw [ih (by simpa using hi)]; omega
theorem sizes_take_le (ks : List Nd) (i : Nat) : sizes (ks.take i) ≤ sizes ks := by
  induction ks generalizing i with
  | nil => simp [sizes]
  | cons k ks ih =>
    cases i with
    | zero => simp [sizes]
    | succ i => simp only [List.take_succ_cons, sizes]; have := ih i; omega
/-- What Trees.Node does to the book. -/
def Booked (w0 w1 : World) (bk : Nat) (U A P : Nat → Prop) (N : Nat) (e : Ending) (v' : World) : Prop := (∃ r, e = .returned r) ∧ ∃ lv' A', TBn w0 w1 bk U A' N v' lv' ∧ ∀ b, A' b → A b ∨ P b
set_option maxRecDepth 100000 in
set_option maxHeartbeats 8000000 in
theorem node_any : ∀ (m : Nd) (w0 w1 : World) (bk : Nat) (U A P : Nat → Prop) (N : Nat) (v : World) (lv : Value), TBn w0 w1 bk U A N v lv → NO w1 m → Lies w1 m → Sp m P → (∀ b, P b → U b ∧ ¬ A b) → N + size m ≤ 3000000 →
    Calls Tryz.prog 30 #[.pointer (some ⟨bk, 0, none⟩), .agg m.vals] v (Booked w0 w1 bk U A P (N + size m)) := by
  refine Nd.ind fun h a c ks ih w0 w1 bk U A P N v lv hT0 hno hli hsp hP hz => ?_
  have hB1 := hT0.box (.cells (Nd.mk h a c ks).vals 55)
  have hkW : ∀ b, U b → (v.alloc (.cells (Nd.mk h a c ks).vals 55)).heap[b]? = w1.heap[b]? := fun b hb => (Below.heap_alloc _ _ _ (by have h1 := hT0.old b hb; have h2 := hT0.sz; omega)).trans (hT0.same b hb)
  have hbk : Bk U (.mk h a c ks) := hsp.bk.mono fun b hb => (hP b hb).1
  have hno1 := hno.blk hkW hbk
  have hli1 : Lies (v.alloc (.cells (Nd.mk h a c ks).vals 55)) (.mk h a c ks) := hli.bk (P := U) (fun b _ hb => hkW b hb) hbk
  have hn3 : (v.alloc (.cells (Nd.mk h a c ks).vals 55)).heap[v.heap.size]? = some (.cells (Nd.mk h a c ks).vals 55 (0, 0)) := heap_new _ _
  have HT0 := hT0.hid
  have HUB : Hid (∀ v2 lv2 A' N', TBn w0 (v.alloc (.cells (Nd.mk h a c ks).vals 55)) bk (fun b => U b ∨ b = v.heap.size) A' N' v2 lv2 → (∀ b, A' b → U b) → TBn w0 w1 bk U A' N' v2 lv2) := fun v2 lv2 A' N' k hA => hT0.unbox k hA
  obtain ⟨W1, E1⟩ : ∃ W, v.alloc (.cells (Nd.mk h a c ks).vals 55) = W := ⟨_, rfl⟩
  rw [E1] at hB1 hno1 hli1 hn3 HUB
  have hlen : ks.length + 1 ≤ size (.mk h a c ks) := by have := len_sizes ks; simp only [size]; omega
  have HSZ : Hid (N + (1 + sizes ks) ≤ 3000000) := by show _ ≤ _; simpa only [size] using hz
  have HNB : Hid (N ≤ 3000000 ∧ ks.length ≤ 3000000) := ⟨by omega, by omega⟩
  have HIH : Hid (∀ k ∈ ks, ∀ (w0 w1 : World) (bk : Nat) (U A P : Nat → Prop) (N : Nat) (v : World) (lv : Value), TBn w0 w1 bk U A N v lv → NO w1 k → Lies w1 k → Sp k P → (∀ b, P b → U b ∧ ¬ A b) → N + size k ≤ 3000000 → Calls Tryz.prog 30 #[.pointer (some ⟨bk, 0, none⟩), .agg k.vals] v (Booked w0 w1 bk U A P (N + size k))) := ih
  cases hno1 with
  | mk _ _ _ _ hr hs =>
  obtain ⟨fR, r1, r2⟩ := hr
  cases hsp with
  | mk _ _ _ _ _ Qs sa ss sd sq =>
  have HR : Hid (RowX W1 55 8 (.slice a ks.length c) ks.length fR ∧ oqN fR ks.length ∧ ks.length ≤ 100000000) := ⟨r1, r2, by omega⟩
  have uR : Hid (∀ b, (Value.slice a ks.length c).ownBlock = some b → (U b ∨ b = v.heap.size) ∧ ¬ A b) := fun b hb => by
    obtain ⟨x, e1, e2⟩ := own_sl hb
    have h1 := hP b (by rw [← e2]; exact (sa x e1).1)
    exact ⟨.inl h1.1, h1.2⟩
  have HPa : Hid (∀ b, (Value.slice a ks.length c).ownBlock = some b → P b) := fun b hb => by
    obtain ⟨x, e1, e2⟩ := own_sl hb
    rw [← e2]; exact (sa x e1).1
  have HNQ : Hid (∀ i b, (Value.slice a ks.length c).ownBlock = some b → ¬ Qs i b) := fun i b hb => by
    obtain ⟨x, e1, e2⟩ := own_sl hb
    rw [← e2]; exact (sa x e1).2.2.2 i
  have HNO : Hid (∀ k ∈ ks, NO W1 k) := hs
  have HLI : Hid (Lies W1 (.mk h a c ks)) := hli1
  have HSS : Hid (∀ i (hi : i < ks.length), Sp ks[i] (Qs i)) := ss
  have HSD : Hid (∀ i j b, Qs i b → Qs j b → i = j) := sd
  have HSQ : Hid (∀ i b, Qs i b → P b) := sq
  have HP : Hid (∀ b, P b → U b ∧ ¬ A b) := hP
  have HAU : Hid (∀ b, A b → U b) := hT0.sub
  have HN3 : Hid (W1.heap[v.heap.size]? = some (.cells #[.int .u8 h.k, .int .u8 h.o, .int .u8 h.t, .int .i64 h.n, .int .u8 h.f, .string h.x, .slice a ks.length c, .int .i64 h.p] 55 (0, 0))) := hn3
  have HFA : Hid (∀ v' : World, (∀ b, (U b ∨ b = v.heap.size) → v'.heap[b]? = W1.heap[b]?) → v'.cell? ⟨v.heap.size, 6, none⟩ = some (.slice a ks.length c)) := fun v' hv => cell_of ((hv v.heap.size (.inr rfl)).trans hn3) 6
  have HINV : Hid (∃ lv, TBn w0 W1 bk (fun b => U b ∨ b = v.heap.size) A N W1 lv) := ⟨_, hB1⟩
  have HE1 : Hid (v.alloc (.cells #[.int .u8 h.k, .int .u8 h.o, .int .u8 h.t, .int .i64 h.n, .int .u8 h.f, .string h.x, .slice a ks.length c, .int .i64 h.p] 55) = W1) := E1
  obtain ⟨hN3, hK3⟩ := HNB.out
  clear hT0 hno hli r1 r2 hs hli1 hn3 E1 hB1 hkW hbk hP hz hlen ih sa ss sd sq
  show Calls Tryz.prog 30 #[.pointer (some ⟨bk, 0, none⟩), .agg #[.int .u8 h.k, .int .u8 h.o, .int .u8 h.t, .int .i64 h.n, .int .u8 h.f, .string h.x, .slice a ks.length c, .int .i64 h.p]] v _
  go_enter Tryz.func30, Tryz.ntmps30
  go_upto_region 1 with fail
  rw [HE1.out]
  refine cutZ27 (fun y2 y4 y5 y6 y7 y8 y9 y10 y11 y12 y13 y14 y15 y16 y17 y18 y19 y20 y21 y22 y23 y24 y25 y26 y27 y28 y29 => ⟨#[.pointer (some ⟨bk, 0, none⟩), .agg #[.int .u8 h.k, .int .u8 h.o, .int .u8 h.t, .int .i64 h.n, .int .u8 h.f, .string h.x, .slice a ks.length c, .int .i64 h.p], y2, .pointer (some ⟨v.heap.size, 0, none⟩), y4, y5, y6, y7, y8, y9, y10, y11, y12, y13, y14, y15, y16, y17, y18, y19, y20, y21, y22, y23, y24, y25, y26, y27, y28, y29], []⟩) (fun w' => ∃ lv, TBn w0 W1 bk (fun b => U b ∨ b = v.heap.size) (fun b => A b ∨ (Value.slice a ks.length c).ownBlock = some b) (N + 1) w' lv) (fun HC => ?_) ?_
  · obtain ⟨lI, hT⟩ := HINV.out
    clear HINV
    have hT1 := hT.below (v' := World.drew W1) ⟨rfl, rfl, rfl, Nat.le_refl _, fun _ _ => rfl⟩
    refine wp_region_held_drew (S := fun v' => ∀ b, (U b ∨ b = v.heap.size) → v'.heap[b]? = W1.heap[b]?) (by kernel_rfl) hT1.same (fun hHeld => ?_)
    obtain ⟨V1, eV1⟩ : ∃ V1, V1 = World.drew W1 := ⟨_, rfl⟩
    rw [← eV1] at hT1 hHeld ⊢
    clear eV1 hT
    obtain ⟨ao, cc, elv⟩ := hT1.I.form
    subst elv
    obtain ⟨Vv, nn, CC, k1, k2, k3⟩ := hT1.I
    have HT := hT1.hid
    have HK1 : Hid (Lk 55 53 8 V1 _ _ Vv nn CC) := k1
    have HK2 : Hid (∀ j, j < N → oqN (CC j) (nn j) ∧ nn j ≤ 100000000) := k2
    have HK3 : Hid (∀ b, bks N Vv b → A b) := k3
    have p0 : V1.cell? ⟨bk, 1, none⟩ = some (.slice ao N cc) := cell_of hT1.B 1
    have p1 : (V1.alloc (.cells #[.slice a ks.length c] 53)).cell? ⟨bk, 1, none⟩ = some (.slice ao N cc) := cell_of ((hT1.below (below_new V1 _)).B) 1
    have HS1 : Hid (∀ b, (U b ∨ b = v.heap.size) → (V1.alloc (.cells #[.slice a ks.length c] 53)).heap[b]? = W1.heap[b]?) := (hT1.below (below_new V1 _)).same
    clear hT1 k1 k2 k3
    refine wpAnyH_take (i := 0) (v := ?_) rfl (by kernel_rfl) (by kernel_rfl) (by kernel_rfl) (fun _ _ _ h => h) (Or.inl ⟨by rfl, ?_⟩) (by assumption) ?_
    rotate_left
    · (intro v hv; go_simp; try (with_reducible rfl))
    try simp [Act.put]
    refine wpAnyH_take (i := 1) (v := ?_) rfl (by kernel_rfl) (by kernel_rfl) (by kernel_rfl) (fun _ _ _ h => h) (Or.inl ⟨by rfl, ?_⟩) (by assumption) ?_
    rotate_left
    · (intro v hv; go_simp; try (with_reducible rfl))
    try simp [Act.put]
    refine wpAnyH_take (i := 2) (v := ?_) rfl (by kernel_rfl) (by kernel_rfl) (by kernel_rfl) (fun _ _ _ h => h) (Or.inl ⟨by rfl, ?_⟩) (by assumption) ?_
    rotate_left
    · (intro v hv; go_simp; try (with_reducible rfl))
    try simp [Act.put]
    refine wpAnyH_take (i := 3) (v := ?_) rfl (by kernel_rfl) (by kernel_rfl) (by kernel_rfl) (fun _ _ _ h => h) (Or.inl ⟨by rfl, ?_⟩) (by assumption) ?_
    rotate_left
    · (intro v hv; go_simp; try (with_reducible rfl))
    try simp [Act.put]
    refine wpAnyH_take (i := 5) (v := ?_) rfl (by kernel_rfl) (by kernel_rfl) (by kernel_rfl) (fun _ _ _ h => h) (Or.inl ⟨by rfl, ?_⟩) (by assumption) ?_
    rotate_left
    · (intro v hv; go_simp; try (with_reducible rfl))
    try simp [Act.put]
    refine wpAnyH_take (i := 6) (v := ?_) rfl (by kernel_rfl) (by kernel_rfl) (by kernel_rfl) (fun _ _ _ h => h) (Or.inl ⟨by rfl, ?_⟩) (by assumption) ?_
    rotate_left
    · (intro v hv; have a6 := HFA.out v hv; go_simp; try (with_reducible rfl))
    try simp [Act.put]
    refine wpAnyH_ready (rs := [4, 7]) (by kernel_rfl) (by simp) ?_
    refine AllReadyH.cons rfl (fun K hK => ?_) (AllReadyH.cons rfl (fun K hK => ?_) AllReadyH.nil)
    · go_simp
      refine hK.out _ _ hHeld (fun hHeld => ?_)
      clear hK K
      try simp [Act.put]
      refine wpAnyH_ready (rs := [7]) (by kernel_rfl) (by simp) ?_
      refine AllReadyH.cons rfl (fun K hK => ?_) AllReadyH.nil
      go_simp
      refine hK.out _ _ HS1.out (fun hHeld => ?_)
      clear hK K
      try simp [Act.put]
      refine wpAnyH_ready (rs := [8]) (by kernel_rfl) (by simp) ?_
      refine AllReadyH.cons rfl (fun K hK => ?_) AllReadyH.nil
      refine step_lk HK1.out.long rfl 35 Tryz.underlying35 infL53 (by omega) rfl (.tmp 9) (.tmp 12) rfl (by simp [Act.eval]) (by simp [Act.eval]) ?_
      intro g cap w' hr hg hq
      obtain ⟨hB', hs', hT'⟩ := HT.out.add HK1.out HK2.out HK3.out HR.out.1 HR.out.2.1 HR.out.2.2 uR.out hr hg hq rfl
      have q0 : w'.cell? ⟨bk, 1, none⟩ = some (.slice ao N cc) := cell_of hB' 1
      have q1 : w'.frozen? ⟨bk, 1, none⟩ = false := frozen_of hB' 1
      have HT' := hT'.hid
      clear hr hg hq hB' hT' p0 p1
      refine hK.out _ _ hs' (fun hHeld => ?_)
      clear hK K
      try simp [Act.put]
      refine wpAnyH_take (i := 9) (v := ?_) rfl (by kernel_rfl) (by kernel_rfl) (by kernel_rfl) (fun _ _ _ h => h) (Or.inl ⟨by rfl, ?_⟩) (by assumption) ?_
      rotate_left
      · (intro v hv; go_simp; try (with_reducible rfl))
      try simp [Act.put]
      refine wpAnyH_take (i := 10) (v := ?_) rfl (by kernel_rfl) (by kernel_rfl) (by kernel_rfl) (fun _ _ _ h => h) (Or.inl ⟨by rfl, ?_⟩) (by assumption) ?_
      rotate_left
      · (intro v hv; go_simp; try (with_reducible rfl))
      try simp [Act.put]
      refine wpAnyH_ready (rs := [11]) (by kernel_rfl) (by simp) ?_
      refine AllReadyH.cons rfl (fun K hK => ?_) AllReadyH.nil
      go_simp
      refine hK.out _ _ HT'.out.same (fun hHeld => ?_)
      clear hK K
      try simp [Act.put]
      refine wpAnyH_done (by kernel_rfl) ?_ _
      exact HC.out _ _ _ _ _ _ _ _ _ _ _ _ _ _ _ _ _ _ _ _ _ _ _ _ _ _ _ _ ⟨_, HT'.out⟩
    · go_simp
      refine hK.out _ _ HS1.out (fun hHeld => ?_)
      clear hK K
      try simp [Act.put]
      refine wpAnyH_ready (rs := [4]) (by kernel_rfl) (by simp) ?_
      refine AllReadyH.cons rfl (fun K hK => ?_) AllReadyH.nil
      go_simp
      refine hK.out _ _ HS1.out (fun hHeld => ?_)
      clear hK K
      try simp [Act.put]
      refine wpAnyH_ready (rs := [8]) (by kernel_rfl) (by simp) ?_
      refine AllReadyH.cons rfl (fun K hK => ?_) AllReadyH.nil
      refine step_lk HK1.out.long rfl 35 Tryz.underlying35 infL53 (by omega) rfl (.tmp 9) (.tmp 12) rfl (by simp [Act.eval]) (by simp [Act.eval]) ?_
      intro g cap w' hr hg hq
      obtain ⟨hB', hs', hT'⟩ := HT.out.add HK1.out HK2.out HK3.out HR.out.1 HR.out.2.1 HR.out.2.2 uR.out hr hg hq rfl
      have q0 : w'.cell? ⟨bk, 1, none⟩ = some (.slice ao N cc) := cell_of hB' 1
      have q1 : w'.frozen? ⟨bk, 1, none⟩ = false := frozen_of hB' 1
      have HT' := hT'.hid
      clear hr hg hq hB' hT' p0 p1
      refine hK.out _ _ hs' (fun hHeld => ?_)
      clear hK K
      try simp [Act.put]
      refine wpAnyH_take (i := 9) (v := ?_) rfl (by kernel_rfl) (by kernel_rfl) (by kernel_rfl) (fun _ _ _ h => h) (Or.inl ⟨by rfl, ?_⟩) (by assumption) ?_
      rotate_left
      · (intro v hv; go_simp; try (with_reducible rfl))
      try simp [Act.put]
      refine wpAnyH_take (i := 10) (v := ?_) rfl (by kernel_rfl) (by kernel_rfl) (by kernel_rfl) (fun _ _ _ h => h) (Or.inl ⟨by rfl, ?_⟩) (by assumption) ?_
      rotate_left
      · (intro v hv; go_simp; try (with_reducible rfl))
      try simp [Act.put]
      refine wpAnyH_ready (rs := [11]) (by kernel_rfl) (by simp) ?_
      refine AllReadyH.cons rfl (fun K hK => ?_) AllReadyH.nil
      go_simp
      refine hK.out _ _ HT'.out.same (fun hHeld => ?_)
      clear hK K
      try simp [Act.put]
      refine wpAnyH_done (by kernel_rfl) ?_ _
      exact HC.out _ _ _ _ _ _ _ _ _ _ _ _ _ _ _ _ _ _ _ _ _ _ _ _ _ _ _ _ ⟨_, HT'.out⟩
  · rintro y2 y4 y5 y6 y7 y8 y9 y10 y11 y12 y13 y14 y15 y16 y17 y18 y19 y20 y21 y22 y23 y24 y25 y26 y27 y28 y29 wC ⟨lC, hC⟩
    have HC := hC.hid
    clear hC HINV uR HR
    go_wp2_with fail
    go_loopw [4] (fun t wr => ∃ (i : Nat) (lI : Value) (Ai : Nat → Prop), i ≤ ks.length ∧ t = .int .i64 i ∧ Hid (TBn w0 W1 bk (fun b => U b ∨ b = v.heap.size) Ai (N + 1 + sizes (ks.take i)) wr lI) ∧ Hid (∀ b, Ai b → A b ∨ (Value.slice a ks.length c).ownBlock = some b ∨ ∃ j, j < i ∧ Qs j b)) (fun t _ => ks.length - (intOf t).toNat)
    case atStart => exact ⟨0, lC, _, by omega, rfl, HC.out, fun b hb => hb.elim .inl (fun e => .inr (.inl e))⟩
    case round =>
      obtain ⟨i, lI, Ai, hi, rfl, HTi, HAi⟩ := hrel
      have x6 : wr.cell? ⟨v.heap.size, 6, none⟩ = some (.slice a ks.length c) := HFA.out wr HTi.out.same
      by_cases hlt : i < ks.length
      · have hlt' : (i : Int) < (ks.length : Int) := by omega
        have hmx : (i : Int) + 1 ≤ 9223372036854775807 := by omega
        obtain ⟨b, o, e1, hat⟩ := HLI.out.kid i hlt
        have e2 : a = some ⟨b, o, none⟩ := e1
        have hbU : U b := (HP.out b (HPa.out b (by rw [e2]; rfl))).1
        have hk1 : NdAt wr b (o + i * 8) ks[i] := NdAt.blk hat (HTi.out.same b (.inl hbU))
        have cI := HIH.out ks[i] (nth_mem hlt) w0 W1 bk _ Ai (Qs i) _ wr lI HTi.out (HNO.out _ (nth_mem hlt)) (HLI.out.sub _ (nth_mem hlt)) (HSS.out i hlt) (fun b hq => ⟨.inl (HP.out b (HSQ.out i b hq)).1, fun ha => by
          rcases HAi.out b ha with h1 | h1 | ⟨j, hj, h1⟩
          · exact (HP.out b (HSQ.out i b hq)).2 h1
          · exact HNQ.out i b h1 hq
          · have := HSD.out i j b hq h1; omega⟩) (by have h1 := sizes_take hlt; have h2 := sizes_take_le ks (i + 1); have h3 := HSZ.out; omega)
        have HST : Hid (N + 1 + sizes (ks.take i) + size ks[i] = N + 1 + sizes (ks.take (i + 1))) := by show _ = _; rw [sizes_take hlt]; omega
        obtain ⟨k, ek⟩ : ∃ k, ks[i] = k := ⟨_, rfl⟩
        rw [ek] at hk1 cI HST
        rw [e2] at x6
        obtain ⟨z0, z1, z2, z3, z4, z5, z6, z7⟩ := hk1
        unfold Nd.vals hdA at cI
        clear ek e1 e2 hat hbU
        go_wp2_with fail
        refine cI.mono ?_
        rintro e w5 ⟨⟨r, rfl⟩, lv5, A5, hT5, hA5⟩
        have HT5 : Hid (TBn w0 W1 bk (fun b => U b ∨ b = v.heap.size) A5 (N + 1 + sizes (ks.take (i + 1))) w5 lv5) := by
          show TBn _ _ _ _ _ _ _ _
          rw [← HST.out]; exact hT5
        have HA5 : Hid (∀ b, A5 b → A b ∨ (Value.slice a ks.length c).ownBlock = some b ∨ ∃ j, j < i + 1 ∧ Qs j b) := fun b hb => by
          rcases hA5 b hb with h1 | h1
          · rcases HAi.out b h1 with h2 | h2 | ⟨j, hj, h2⟩
            · exact .inl h2
            · exact .inr (.inl h2)
            · exact .inr (.inr ⟨j, by omega, h2⟩)
          · exact .inr (.inr ⟨i, by omega, h1⟩)
        clear cI hT5 hA5 z0 z1 z2 z3 z4 z5 z6 z7 x6 HST
        go_wp2_with fail
        exact ⟨⟨i + 1, lv5, A5, hlt, rfl, HT5, HA5⟩, by simp only [intOf]; omega⟩
      · obtain rfl : i = ks.length := by omega
        have hnot : ¬ (ks.length : Int) < (ks.length : Int) := by omega
        have HAP : Hid (∀ b, Ai b → A b ∨ P b) := fun b hb => by
          rcases HAi.out b hb with h1 | h1 | ⟨j, _, h1⟩
          · exact .inl h1
          · exact .inr (HPa.out b h1)
          · exact .inr (HSQ.out j b h1)
        have HFI : Hid (TBn w0 w1 bk U Ai (N + size (.mk h a c ks)) wr lI) := by
          have h1 := HUB.out _ _ _ _ HTi.out (fun b hb => (HAP.out b hb).elim (HAU.out b) (fun h => (HP.out b h).1))
          have h2 : N + 1 + sizes (ks.take ks.length) = N + size (.mk h a c ks) := by rw [List.take_length]; simp only [size]; omega
          rw [h2] at h1
          exact h1
        go_wp2_with fail
        go_end0
        exact ⟨⟨_, rfl⟩, lI, Ai, HFI.out, HAP.out⟩

end Go.Proofs.YtighocmdlifheaaGreatDoor

/-
  What hangs on the tree alone, wherever it lies.
-/
namespace Go.Proofs.YtighocmdlifheaaGreatDoor
open Go.RowKit
set_option linter.unusedVariables false
set_option linter.unusedSimpArgs false
theorem tr_split {h g : Hd} {a a' : Option Addr} {c c' : Nat} {ks ks' : List Nd} (t : treeOf (.mk h a c ks) = treeOf (.mk g a' c' ks')) : h = g ∧ treesOf ks = treesOf ks' := by
  rw [treeOf, treeOf] at t
  injection t with t1 t2
  exact ⟨t1, t2⟩
theorem tr_len {ks ks' : List Nd} (t : treesOf ks = treesOf ks') : ks.length = ks'.length := by
  have := congrArg List.length t
  rwa [trees_len, trees_len] at this
theorem tr_cons {k k' : Nd} {ks ks' : List Nd} (t : treesOf (k :: ks) = treesOf (k' :: ks')) : treeOf k = treeOf k' ∧ treesOf ks = treesOf ks' := by
  simp only [treesOf] at t
  injection t with t1 t2
  exact ⟨t1, t2⟩
theorem tr_h {m k : Nd} (t : treeOf m = treeOf k) : m.h = k.h := by
  cases m; cases k; exact (tr_split t).1
theorem tr_lists {P : List Nd → List Nd → Prop} (h0 : P [] []) (hs : ∀ k ks k' ks', treeOf k = treeOf k' → k ∈ k :: ks → P ks ks' → P (k :: ks) (k' :: ks')) : ∀ ks ks', treesOf ks = treesOf ks' → P ks ks' := by
  intro ks
  induction ks with
  | nil =>
    intro ks' t
    cases ks' with
    | nil => exact h0
    | cons k' ks' => simp [treesOf] at t
  | cons k ks ih =>
    intro ks' t
    cases ks' with
    | nil => simp [treesOf] at t
    | cons k' ks' =>
      obtain ⟨t1, t2⟩ := tr_cons t
      exact hs k ks k' ks' t1 (by simp) (ih ks' t2)
theorem tr_size : ∀ (m k : Nd), treeOf m = treeOf k → size m = size k := by
  refine Nd.ind fun h a c ks ih k t => ?_
  cases k with
  | mk g a' c' ks' =>
    obtain ⟨_, t2⟩ := tr_split t
    have : ∀ l l' : List Nd, (∀ x ∈ l, x ∈ ks) → treesOf l = treesOf l' → sizes l = sizes l' := by
      intro l
      induction l with
      | nil => intro l' _ e; cases l' with | nil => rfl | cons _ _ => simp [treesOf] at e
      | cons x l ihl =>
        intro l' hm e
        cases l' with
        | nil => simp [treesOf] at e
        | cons y l' =>
          obtain ⟨e1, e2⟩ := tr_cons e
          simp only [sizes]
          rw [ih x (hm x (by simp)) y e1, ihl l' (fun z hz => hm z (by simp [hz])) e2]
    simp only [size]
    rw [this ks ks' (fun _ h => h) t2]
theorem tr_form : ∀ (m k : Nd), treeOf m = treeOf k → formB m = formB k := by
  refine Nd.ind fun h a c ks ih k t => ?_
  cases k with
  | mk g a' c' ks' =>
    obtain ⟨t1, t2⟩ := tr_split t
    have : ∀ l l' : List Nd, (∀ x ∈ l, x ∈ ks) → treesOf l = treesOf l' → formsB l = formsB l' := by
      intro l
      induction l with
      | nil => intro l' _ e; cases l' with | nil => rfl | cons _ _ => simp [treesOf] at e
      | cons x l ihl =>
        intro l' hm e
        cases l' with
        | nil => simp [treesOf] at e
        | cons y l' =>
          obtain ⟨e1, e2⟩ := tr_cons e
          simp only [formsB]
          rw [ih x (hm x (by simp)) y e1, ihl l' (fun z hz => hm z (by simp [hz])) e2]
    simp only [formB]
    rw [this ks ks' (fun _ h => h) t2, t1, tr_len t2]
theorem tr_dep : ∀ (m k : Nd), treeOf m = treeOf k → dep m = dep k := by
  refine Nd.ind fun h a c ks ih k t => ?_
  cases k with
  | mk g a' c' ks' =>
    obtain ⟨t1, t2⟩ := tr_split t
    have : ∀ (l l' : List Nd) (i : Nat), (∀ x ∈ l, x ∈ ks) → treesOf l = treesOf l' → deps h i l = deps h i l' := by
      intro l
      induction l with
      | nil => intro l' i _ e; cases l' with | nil => rfl | cons _ _ => simp [treesOf] at e
      | cons x l ihl =>
        intro l' i hm e
        cases l' with
        | nil => simp [treesOf] at e
        | cons y l' =>
          obtain ⟨e1, e2⟩ := tr_cons e
          simp only [deps]
          rw [ih x (hm x (by simp)) y e1, ihl l' (i + 1) (fun z hz => hm z (by simp [hz])) e2, tr_h e1]
    simp only [dep]
    rw [this ks ks' 0 (fun _ h => h) t2, t1]
theorem tr_same : ∀ (m k m' k' : Nd), treeOf m = treeOf m' → treeOf k = treeOf k' → sameB m k = sameB m' k' := by
  refine Nd.ind fun h a c ks ih k m' k' t u => ?_
  cases m' with
  | mk g a' c' ks' =>
    obtain ⟨t1, t2⟩ := tr_split t
    cases k with
    | mk h2 a2 c2 js =>
      cases k' with
      | mk g2 a3 c3 js' =>
        obtain ⟨u1, u2⟩ := tr_split u
        have : ∀ (l l' j j' : List Nd), (∀ x ∈ l, x ∈ ks) → treesOf l = treesOf l' → treesOf j = treesOf j' → samesB l j = samesB l' j' := by
          intro l
          induction l with
          | nil => intro l' j j' _ e _; cases l' with | nil => rfl | cons _ _ => simp [treesOf] at e
          | cons x l ihl =>
            intro l' j j' hm e f
            cases l' with
            | nil => simp [treesOf] at e
            | cons y l' =>
              cases j with
              | nil => cases j' with | nil => rfl | cons _ _ => simp [treesOf] at f
              | cons p j =>
                cases j' with
                | nil => simp [treesOf] at f
                | cons q j' =>
                  obtain ⟨e1, e2⟩ := tr_cons e
                  obtain ⟨f1, f2⟩ := tr_cons f
                  simp only [samesB]
                  rw [ih x (hm x (by simp)) p y q e1 f1, ihl l' j j' (fun z hz => hm z (by simp [hz])) e2 f2]
        rw [sameB, sameB]
        show (alike h h2 && (decide (ks.length = js.length) && samesB ks js)) = (alike g g2 && (decide (ks'.length = js'.length) && samesB ks' js'))
        rw [this ks ks' js js' (fun _ h => h) t2 u2, t1, u1, tr_len t2, tr_len u2]
theorem tr_bare : ∀ (m k m1 k1 : Nd), treeOf m = treeOf k → Bare m m1 → Bare k k1 → treeOf m1 = treeOf k1 := by
  refine Nd.ind fun h a c ks ih k m1 k1 t b1 b2 => ?_
  cases b1 with
  | mk _ _ a1 _ c1 _ ks1 hl1 hk1 =>
    cases b2 with
    | mk g a2 a3 c2 c3 js js1 hl2 hk2 =>
      obtain ⟨t1, t2⟩ := tr_split t
      subst t1
      rw [treeOf, treeOf]
      congr 1
      have e1 : ∀ l : List Nd, treesOf l = l.map treeOf := fun l => by
        induction l with
        | nil => rfl
        | cons x l ih => simp only [treesOf, List.map_cons, ih]
      have hl := tr_len t2
      rw [e1, e1]
      apply List.ext_getElem
      · rw [List.length_map, List.length_map]; omega
      · intro i h1 h2
        rw [List.getElem_map, List.getElem_map]
        have i1 : i < ks1.length := by simpa using h1
        have i2 : i < js1.length := by simpa using h2
        exact ih _ (nth_mem (by omega)) _ _ _ (trees_at t2 i (by omega) (by omega)) (hk1 i (by omega) i1) (hk2 i (by omega) i2)
theorem bare_size : ∀ (m m1 : Nd), Bare m m1 → size m1 = size m := by
  refine Nd.ind fun h a c ks ih m1 b => ?_
  cases b with
  | mk _ _ a1 _ c1 _ ks1 hl1 hk1 =>
    simp only [size]
    congr 1
    have : ∀ (l l1 : List Nd), (∀ x ∈ l, x ∈ ks) → l1.length = l.length → (∀ i (h1 : i < l.length) (h2 : i < l1.length), Bare l[i] l1[i]) → sizes l1 = sizes l := by
      intro l
      induction l with
      | nil => intro l1 _ e _; cases l1 with | nil => rfl | cons _ _ => simp at e
      | cons x l ihl =>
        intro l1 hm e hk
        cases l1 with
        | nil => simp at e
        | cons y l1 =>
          simp only [sizes]
          rw [ih x (hm x (by simp)) y (hk 0 (by simp) (by simp)), ihl l1 (fun z hz => hm z (by simp [hz])) (by simpa using e) (fun i h1 h2 => hk (i + 1) (by simpa using h1) (by simpa using h2))]
    exact this ks ks1 (fun _ h => h) hl1 hk1
end Go.Proofs.YtighocmdlifheaaGreatDoor

/-
  The document's level and Asks, of a node that may be.
-/
namespace Go.Proofs.YtighocmdlifheaaGreatDoor
open Go.RowKit
set_option linter.unusedVariables false
/-- A node of two sides has an operator of two sides. -/
def OkH (h : Hd) : Prop := h.k = 6 → 6 ≤ h.o ∧ h.o ≤ 18
theorem ok_form {h : Hd} {a : Option Addr} {c : Nat} {ks : List Nd} (f : formB (.mk h a c ks) = true) : OkH h := by
  intro hk
  simp only [formB, oneH, Bool.and_eq_true] at f
  have := f.1.2
  unfold fitB at this
  simp [hk] at this
  omega
theorem ok_formX {m : Nd} (f : formB m = true) : OkH m.h := by cases m; exact ok_form f
theorem form_kid {h : Hd} {a : Option Addr} {c : Nat} {ks : List Nd} (f : formB (.mk h a c ks) = true) {k : Nd} (hk : k ∈ ks) : formB k = true := by
  simp only [formB, Bool.and_eq_true] at f
  have f2 := f.2
  clear f
  induction ks with
  | nil => cases hk
  | cons j js ih =>
    simp only [formsB, Bool.and_eq_true] at f2
    rcases List.mem_cons.1 hk with e | e
    · rw [e]; exact f2.1
    · exact ih e f2.2
/-- What is counted once more, in the document's words. -/
theorem dwn_form {h : Hd} {a : Option Addr} {c : Nat} {ks : List Nd} (f : formB (.mk h a c ks) = true) (i : Nat) (hi : i < ks.length) :
    dwn h i = (((h.k == 5) || (h.k == 8)) || (h.k == 9) || ((h.k == 7) && decide (0 < (i : Int)))) := by
  simp only [formB, oneH, Bool.and_eq_true] at f
  have g := f.1.2
  unfold fitB at g
  unfold dwn
  have hpos : ks.length ≠ 0 := by omega
  by_cases h1 : h.k = 1
  · simp [h1, hpos] at g
  by_cases h2 : h.k = 2
  · simp [h2, hpos] at g
  by_cases h3 : h.k = 3
  · simp [h3, hpos] at g
  by_cases h4 : h.k = 4
  · simp [h4, hpos] at g
  by_cases h5 : h.k = 5
  · simp [h5]
  by_cases h6 : h.k = 6
  · simp [h6]
  by_cases h7 : h.k = 7
  · simp [h7]
  by_cases h8 : h.k = 8
  · simp [h8]
  by_cases h9 : h.k = 9
  · simp [h9]
  simp [h1, h2, h3, h4, h5, h6, h7, h8, h9] at g
set_option maxRecDepth 100000 in
theorem rlevel_any (h : Hd) (a : Option Addr) (l c : Nat) (ok : OkH h) (w : World) : Calls Tryz.prog 85 #[.agg (hdA h a l c)] w fun e w' => e = .returned (.int .i64 (lvl h)) ∧ Below w.heap.size w w' := by
  obtain ⟨k, o, t, n, f, x, p⟩ := h
  unfold hdA lvl
  unfold OkH at ok
  simp only at ok ⊢
  by_cases a7 : k = 7
  · subst a7; clear ok; go_enter Tryz.func85, Tryz.ntmps85; go_wp2_with fail; go_ret; exact ⟨rfl, below_new _ _⟩
  by_cases a6 : k = 6
  · subst a6
    obtain ⟨o1, o2⟩ := ok rfl
    clear ok
    unfold lvO
    rw [if_neg (by decide), if_pos rfl]
    by_cases b18 : o = 18
    · subst b18; go_enter Tryz.func85, Tryz.ntmps85; go_wp2_with fail; go_ret; exact ⟨rfl, below_new _ _⟩
    have n18 : (o == 18) = false := by simp [b18]
    by_cases b17 : o = 17
    · subst b17; go_enter Tryz.func85, Tryz.ntmps85; go_wp2_with fail; go_ret; exact ⟨rfl, below_new _ _⟩
    have n17 : (o == 17) = false := by simp [b17]
    rw [if_neg b18, if_neg b17]
    by_cases b11 : 11 ≤ o
    · rw [if_neg (by omega), if_neg (by omega)]
      clear b17 b18 o1 o2
      go_enter Tryz.func85, Tryz.ntmps85; go_wp2_with fail; go_ret; exact ⟨rfl, below_new _ _⟩
    by_cases b7 : o ≤ 7
    · rw [if_pos (by omega)]
      clear b17 b18 o1 o2
      go_enter Tryz.func85, Tryz.ntmps85; go_wp2_with fail; go_ret; exact ⟨rfl, below_new _ _⟩
    rw [if_neg (by omega), if_pos (by omega)]
    clear b17 b18 o1 o2
    go_enter Tryz.func85, Tryz.ntmps85; go_wp2_with fail; go_ret; exact ⟨rfl, below_new _ _⟩
  by_cases a5 : k = 5
  · subst a5; clear ok; go_enter Tryz.func85, Tryz.ntmps85; go_wp2_with fail; go_ret; exact ⟨rfl, below_new _ _⟩
  rw [if_neg a7, if_neg a6, if_neg a5]
  have b7 : (k == 7) = false := by simp [a7]
  have b6 : (k == 6) = false := by simp [a6]
  have b5 : (k == 5) = false := by simp [a5]
  clear a7 a6 a5 ok
  go_enter Tryz.func85, Tryz.ntmps85; go_wp2_with fail; go_ret; exact ⟨rfl, below_new _ _⟩
set_option maxRecDepth 100000 in
set_option maxHeartbeats 1000000 in
theorem rasks_any (h : Hd) (a : Option Addr) (l c i : Nat) (hi : i ≤ 9223372036854775000) (ok : OkH h) (w : World) : Calls Tryz.prog 130 #[.agg (hdA h a l c), .int .i64 i] w fun e w' => e = .returned (.int .i64 (ask h i)) ∧ Below w.heap.size w w' := by
  have cL := fun v => rlevel_any h a l c ok v
  have hle := lvl_le h
  unfold ask
  obtain ⟨V, eV⟩ : ∃ V, lvl h = V := ⟨_, rfl⟩
  rw [eV] at hle
  simp only [eV] at cL
  simp only [eV]
  clear eV ok
  obtain ⟨k, o, t, n, f, x, p⟩ := h
  unfold hdA at cL ⊢
  simp only at cL ⊢
  obtain ⟨hl1, hl2⟩ := hle
  by_cases a7 : k = 7
  · subst a7
    by_cases i0 : i = 0
    · subst i0; go_enter Tryz.func130, Tryz.ntmps130; go_wp2_with (go_at_call 85; refine (cL _).mono ?_; rintro e w1 ⟨rfl, hb⟩; obtain ⟨q0, q1, q2, q3, q4, q5, q6, q7⟩ := box8 hb; have HB1 : Hid (Below w.heap.size w w1) := (below_new _ _).trans (hb.mono (by simp)); clear hb); go_ret; exact ⟨rfl, HB1.out⟩
    · have i0' : ((i : Int) == 0) = false := by simp; omega
      rw [if_pos rfl, if_neg i0]
      go_enter Tryz.func130, Tryz.ntmps130; go_wp2_with (go_at_call 85; refine (cL _).mono ?_; rintro e w1 ⟨rfl, hb⟩; obtain ⟨q0, q1, q2, q3, q4, q5, q6, q7⟩ := box8 hb; have HB1 : Hid (Below w.heap.size w w1) := (below_new _ _).trans (hb.mono (by simp)); clear hb); go_ret; exact ⟨rfl, HB1.out⟩
  by_cases a6 : k = 6
  · subst a6
    by_cases v4 : V = 4
    · subst v4; go_enter Tryz.func130, Tryz.ntmps130; go_wp2_with (go_at_call 85; refine (cL _).mono ?_; rintro e w1 ⟨rfl, hb⟩; obtain ⟨q0, q1, q2, q3, q4, q5, q6, q7⟩ := box8 hb; have HB1 : Hid (Below w.heap.size w w1) := (below_new _ _).trans (hb.mono (by simp)); clear hb); go_ret; exact ⟨rfl, HB1.out⟩
    · have v4' : (V == 4) = false := by simp [v4]
      have g1 : -9223372036854775808 ≤ V + (i : Int) := by omega
      have g2 : V + (i : Int) ≤ 9223372036854775807 := by omega
      rw [if_neg (by decide), if_pos rfl, if_neg v4]
      go_enter Tryz.func130, Tryz.ntmps130
      go_wp2_with (go_at_call 85; refine (cL _).mono ?_; rintro e w1 ⟨rfl, hb⟩; obtain ⟨q0, q1, q2, q3, q4, q5, q6, q7⟩ := box8 hb; have HB1 : Hid (Below w.heap.size w w1) := (below_new _ _).trans (hb.mono (by simp)); clear hb)
      go_ret
      exact ⟨rfl, HB1.out⟩
  by_cases a5 : k = 5
  · subst a5; go_enter Tryz.func130, Tryz.ntmps130; go_wp2_with (go_at_call 85; refine (cL _).mono ?_; rintro e w1 ⟨rfl, hb⟩; obtain ⟨q0, q1, q2, q3, q4, q5, q6, q7⟩ := box8 hb; have HB1 : Hid (Below w.heap.size w w1) := (below_new _ _).trans (hb.mono (by simp)); clear hb); go_ret; exact ⟨rfl, HB1.out⟩
  rw [if_neg a7, if_neg a6, if_neg a5]
  have b7 : (k == 7) = false := by simp [a7]
  have b6 : (k == 6) = false := by simp [a6]
  have b5 : (k == 5) = false := by simp [a5]
  clear a7 a6 a5
  go_enter Tryz.func130, Tryz.ntmps130; go_wp2_with (go_at_call 85; refine (cL _).mono ?_; rintro e w1 ⟨rfl, hb⟩; obtain ⟨q0, q1, q2, q3, q4, q5, q6, q7⟩ := box8 hb; have HB1 : Hid (Below w.heap.size w w1) := (below_new _ _).trans (hb.mono (by simp)); clear hb); go_ret; exact ⟨rfl, HB1.out⟩
end Go.Proofs.YtighocmdlifheaaGreatDoor

/-
  The document's Bracketed, depth, Level, Depth, CheckExpr of any expression.
-/
namespace Go.Proofs.YtighocmdlifheaaGreatDoor
open Go.RowKit
set_option linter.unusedVariables false
set_option maxRecDepth 100000 in
set_option maxHeartbeats 4000000 in
theorem rbr_any (h : Hd) (a : Option Addr) (c : Nat) (ks : List Nd) (i : Nat) (w : World) (hl : Lies w (.mk h a c ks)) (hlt : i < ks.length) (hi : i ≤ 9223372036854775000) (ok : OkH h) (k : Nd) (ek : ks[i] = k) (okk : OkH k.h) :
    Calls Tryz.prog 114 #[.agg #[.int .u8 h.k, .int .u8 h.o, .int .u8 h.t, .int .i64 h.n, .int .u8 h.f, .string h.x, .slice a ks.length c, .int .i64 h.p], .int .i64 i] w fun e w' => e = .returned (.bool (decide (lvl k.h < ask h i))) ∧ Below w.heap.size w w' := by
  obtain ⟨b, o, e, hat⟩ := hl.kid i hlt
  have e2 : a = some ⟨b, o, none⟩ := e
  clear e
  subst e2
  have hat2 : NdAt w b (o + i * 8) k := by rw [← ek]; exact hat
  clear hat hl ek
  have hlt' : (i : Int) < (ks.length : Int) := by omega
  have cL : ∀ v, Calls Tryz.prog 85 #[.agg #[.int .u8 k.h.k, .int .u8 k.h.o, .int .u8 k.h.t, .int .i64 k.h.n, .int .u8 k.h.f, .string k.h.x, .slice k.a k.ks.length k.c, .int .i64 k.h.p]] v fun e w' => e = .returned (.int .i64 (lvl k.h)) ∧ Below v.heap.size v w' := fun v => rlevel_any k.h k.a k.ks.length k.c okk v
  have cA : ∀ v, Calls Tryz.prog 130 #[.agg #[.int .u8 h.k, .int .u8 h.o, .int .u8 h.t, .int .i64 h.n, .int .u8 h.f, .string h.x, .slice (some ⟨b, o, none⟩) ks.length c, .int .i64 h.p], .int .i64 i] v fun e w' => e = .returned (.int .i64 (ask h i)) ∧ Below v.heap.size v w' := fun v => rasks_any h (some ⟨b, o, none⟩) ks.length c i hi ok v
  obtain ⟨V, eV⟩ : ∃ V, lvl k.h = V := ⟨_, rfl⟩
  obtain ⟨U, eU⟩ : ∃ U, ask h i = U := ⟨_, rfl⟩
  simp only [eV] at cL
  simp only [eU] at cA
  rw [eV, eU]
  clear eV eU ok okk hi
  have hw := heap_new w (.cells #[.int .u8 h.k, .int .u8 h.o, .int .u8 h.t, .int .i64 h.n, .int .u8 h.f, .string h.x, .slice (some ⟨b, o, none⟩) ks.length c, .int .i64 h.p] 55)
  obtain ⟨W0, eW⟩ : ∃ W, w.alloc (.cells #[.int .u8 h.k, .int .u8 h.o, .int .u8 h.t, .int .i64 h.n, .int .u8 h.f, .string h.x, .slice (some ⟨b, o, none⟩) ks.length c, .int .i64 h.p] 55) = W := ⟨_, rfl⟩
  have HB0 : Hid (Below w.heap.size w W0) := by rw [← eW]; exact below_new _ _
  rw [eW] at hw
  have HKP : Hid (∀ v, GB W0 v → v.cell? ⟨w.heap.size, 0, none⟩ = some (.int .u8 h.k) ∧ v.cell? ⟨w.heap.size, 1, none⟩ = some (.int .u8 h.o) ∧ v.cell? ⟨w.heap.size, 2, none⟩ = some (.int .u8 h.t) ∧ v.cell? ⟨w.heap.size, 3, none⟩ = some (.int .i64 h.n) ∧ v.cell? ⟨w.heap.size, 4, none⟩ = some (.int .u8 h.f) ∧ v.cell? ⟨w.heap.size, 5, none⟩ = some (.string h.x) ∧ v.cell? ⟨w.heap.size, 6, none⟩ = some (.slice (some ⟨b, o, none⟩) ks.length c) ∧ v.cell? ⟨w.heap.size, 7, none⟩ = some (.int .i64 h.p) ∧ v.cell? ⟨b, o + i * 8, none⟩ = some (.int .u8 k.h.k) ∧ v.cell? ⟨b, o + i * 8 + 1, none⟩ = some (.int .u8 k.h.o) ∧ v.cell? ⟨b, o + i * 8 + 2, none⟩ = some (.int .u8 k.h.t) ∧ v.cell? ⟨b, o + i * 8 + 3, none⟩ = some (.int .i64 k.h.n) ∧ v.cell? ⟨b, o + i * 8 + 4, none⟩ = some (.int .u8 k.h.f) ∧ v.cell? ⟨b, o + i * 8 + 5, none⟩ = some (.string k.h.x) ∧ v.cell? ⟨b, o + i * 8 + 6, none⟩ = some (.slice k.a k.ks.length k.c) ∧ v.cell? ⟨b, o + i * 8 + 7, none⟩ = some (.int .i64 k.h.p) ∧ GB W0 v) := fun v hv => by
    have h1 := (hv.block _ (Array.getElem?_eq_some_iff.1 hw).1).trans hw
    have h2 := (hat2.on HB0.out).on hv
    exact ⟨cell_of h1 0, cell_of h1 1, cell_of h1 2, cell_of h1 3, cell_of h1 4, cell_of h1 5, cell_of h1 6, cell_of h1 7, h2.c0, h2.c1, h2.c2, h2.c3, h2.c4, h2.c5, h2.c6, h2.c7, hv⟩
  clear hat2 hw
  go_enter Tryz.func114, Tryz.ntmps114
  go_upto_region 1 with fail
  clear eW
  go_region_held3 (fun v => v.cell? ⟨w.heap.size, 0, none⟩ = some (.int .u8 h.k) ∧ v.cell? ⟨w.heap.size, 1, none⟩ = some (.int .u8 h.o) ∧ v.cell? ⟨w.heap.size, 2, none⟩ = some (.int .u8 h.t) ∧ v.cell? ⟨w.heap.size, 3, none⟩ = some (.int .i64 h.n) ∧ v.cell? ⟨w.heap.size, 4, none⟩ = some (.int .u8 h.f) ∧ v.cell? ⟨w.heap.size, 5, none⟩ = some (.string h.x) ∧ v.cell? ⟨w.heap.size, 6, none⟩ = some (.slice (some ⟨b, o, none⟩) ks.length c) ∧ v.cell? ⟨w.heap.size, 7, none⟩ = some (.int .i64 h.p) ∧ v.cell? ⟨b, o + i * 8, none⟩ = some (.int .u8 k.h.k) ∧ v.cell? ⟨b, o + i * 8 + 1, none⟩ = some (.int .u8 k.h.o) ∧ v.cell? ⟨b, o + i * 8 + 2, none⟩ = some (.int .u8 k.h.t) ∧ v.cell? ⟨b, o + i * 8 + 3, none⟩ = some (.int .i64 k.h.n) ∧ v.cell? ⟨b, o + i * 8 + 4, none⟩ = some (.int .u8 k.h.f) ∧ v.cell? ⟨b, o + i * 8 + 5, none⟩ = some (.string k.h.x) ∧ v.cell? ⟨b, o + i * 8 + 6, none⟩ = some (.slice k.a k.ks.length k.c) ∧ v.cell? ⟨b, o + i * 8 + 7, none⟩ = some (.int .i64 k.h.p) ∧ GB W0 v)
    (exact HKP.out _ (by (repeat (first | with_reducible assumption | with_reducible exact GB.refl _ | with_reducible apply GB.drew | with_reducible apply GB.alloc | with_reducible refine GB.call (by with_reducible assumption) ?_))))
    (first
      | (go_at_call 85; refine (cL _).mono ?_; rintro e w6 ⟨rfl, hb6⟩)
      | (go_at_call 130; refine (cA _).mono ?_; rintro e w7 ⟨rfl, hb7⟩))
  all_goals
    refine abs_world (P := fun V => GB W0 V) (by (repeat (first | with_reducible assumption | with_reducible exact GB.refl _ | with_reducible apply GB.drew | with_reducible apply GB.alloc | with_reducible refine GB.call (by with_reducible assumption) ?_))) ?_
    intro Vw hv
    have HV : Hid (Below w.heap.size w Vw) := below2 HB0.out hv
    clear hv
    go_wp2_with fail
    go_ret
    exact ⟨rfl, HV.out⟩
end Go.Proofs.YtighocmdlifheaaGreatDoor
