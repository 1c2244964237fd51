import Derived.Test.YtighocmdlifheaaGreatDoorM8
import Derived.Deep.CutRange
import Derived.Deep.DeepCutAuto
import Derived.Test.YtighocmdlifheaaGreatDoorM13
/-
  The document's BareNode: an expression without places, in memory of its own.
-/
namespace Go.Proofs.YtighocmdlifheaaGreatDoor
open Go.RowKit
/-- What BareNode hands back. -/
def CopB (m : Nd) (w : World) (e : Ending) (w' : World) : Prop := ∃ m', e = .returned (.agg m'.vals) ∧ Lies w' m' ∧ Bare m m' ∧ Sp m' (fun b => w.heap.size ≤ b ∧ b < w'.heap.size) ∧ OwnT w' m' ∧ Below w.heap.size w w'
/-- So many have been copied. -/
structure Cpb (W wr : World) (v : Value) (ks L : List Nd) (i : Nat) (Q : Nat → Nat → Prop) : Prop where
  l : L.length = i
  r : RN W wr v L
  b : ∀ j (h1 : j < ks.length) (h2 : j < L.length), Bare ks[j] L[j]
  y : ∀ j (h : j < L.length), Lies wr L[j] ∧ Sp L[j] (Q j) ∧ OwnT wr L[j]
  q : ∀ j b, Q j b → W.heap.size ≤ b ∧ b < wr.heap.size ∧ v.ownBlock ≠ some b
  d : ∀ i j b, Q i b → Q j b → i = j
  z : ∀ j b, L.length ≤ j → ¬ Q j b
theorem Cpb.hid {W wr : World} {v : Value} {ks L : List Nd} {i : Nat} {Q : Nat → Nat → Prop} (h : Cpb W wr v ks L i Q) : Hid (Cpb W wr v ks L i Q) := h
/-- One more. -/
theorem Cpb.snoc {W wr w1 w2 : World} {v v' : Value} {ks L : List Nd} {i : Nat} {k' : Nd} {Q : Nat → Nat → Prop} (h : Cpb W wr v ks L i Q) (hi : i < ks.length) (hb1 : Below wr.heap.size wr w1) (hk1 : Lies w1 k') (hk2 : Bare ks[i] k') (hk3 : Sp k' (fun b => wr.heap.size ≤ b ∧ b < w1.heap.size)) (hk4 : OwnT w1 k')
    (hr : RN W w2 v' (L ++ [k'])) (hs : w1.heap.size ≤ w2.heap.size) (hk : ∀ b, b < w1.heap.size → v.ownBlock ≠ some b → w2.heap[b]? = w1.heap[b]?) (hq : v'.ownBlock = v.ownBlock ∨ ∃ g, v'.ownBlock = some g ∧ w1.heap.size < g) :
    Cpb W w2 v' ks (L ++ [k']) (i + 1) (fun j b => Q j b ∨ (j = i ∧ wr.heap.size ≤ b ∧ b < w1.heap.size)) := by
  have hW := h.r.B.size
  have hS1 := hb1.size
  have hne : ∀ b, b < w1.heap.size → v.ownBlock ≠ some b → v'.ownBlock ≠ some b := fun b hb hn e => by
    rcases hq with e1 | ⟨g, e1, hg⟩
    · exact hn (e1.symm.trans e)
    · rw [e1] at e; cases e; omega
  have hv : ∀ b, wr.heap.size ≤ b → v.ownBlock ≠ some b := fun b hb e => by have := h.r.row.lt b e; omega
  have hli := h.l
  refine ⟨by rw [List.length_append, h.l]; rfl, hr, fun j h1 h2 => ?_, fun j hj => ?_, fun j b hb => ?_, fun a c b h1 h2 => ?_, fun j b hj hb => ?_⟩
  · by_cases hj : j < L.length
    · rw [List.getElem_append_left hj]; exact h.b j h1 hj
    · have e : j = L.length := by rw [List.length_append] at h2; simp at h2; omega
      subst e
      rw [List.getElem_append_right (by omega)]
      simp only [Nat.sub_self, List.getElem_singleton]
      have e3 : ks[L.length] = ks[i] := by congr 1
      rw [e3]; exact hk2
  · by_cases hj' : j < L.length
    · rw [List.getElem_append_left hj']
      obtain ⟨y1, y2, y4⟩ := h.y j hj'
      have y3 : Lies w1 L[j] := y1.on hb1
      refine ⟨y3.bk (fun b hb hp => hk b hb (h.q j b hp).2.2) y2.bk, y2.mono fun b hp => .inl hp, (y4.on hb1).bk (fun b hb hp => hk b hb (h.q j b hp).2.2) y2.bk⟩
    · have e : j = L.length := by rw [List.length_append] at hj; simp at hj; omega
      subst e
      rw [List.getElem_append_right (by omega)]
      simp only [Nat.sub_self, List.getElem_singleton]
      exact ⟨hk1.bk (fun b hb hp => hk b hb (hv b hp.1)) hk3.bk, hk3.mono fun b hp => .inr ⟨hli, hp⟩, hk4.bk (fun b hb hp => hk b hb (hv b hp.1)) hk3.bk⟩
  · rcases hb with hb | ⟨_, hb⟩
    · obtain ⟨q1, q2, q3⟩ := h.q j b hb
      exact ⟨q1, by omega, hne b (by omega) q3⟩
    · exact ⟨by omega, by omega, hne b hb.2 (hv b hb.1)⟩
  · rcases h1 with h1 | ⟨e1, h1⟩ <;> rcases h2 with h2 | ⟨e2, h2⟩
    · exact h.d a c b h1 h2
    · have := (h.q a b h1).2.1; omega
    · have := (h.q c b h2).2.1; omega
    · omega
  · rw [List.length_append] at hj
    simp at hj
    rcases hb with hb | ⟨e, _⟩
    · exact h.z j b (by omega) hb
    · omega
theorem rg0 {g : Hd} (h : Rg g) : Rg { g with p := 0 } := ⟨h.k0, h.k1, h.o0, h.o1, h.t0, h.t1, h.n0, h.n1, h.f0, h.f1, (by decide : (-9223372036854775808 : Int) ≤ 0), (by decide : (0 : Int) ≤ 9223372036854775807), h.x1⟩
/-- A list that has been copied, as a node's kids. -/
theorem Cpb.nd {W wr : World} {v : Value} {ks L : List Nd} {g : Hd} {a : Option Addr} {c : Nat} {Q : Nat → Nat → Prop} (h : Cpb W wr v ks L ks.length Q) (hr : Rg g) : ∃ a' c', v = .slice a' L.length c' ∧ Lies wr (.mk { g with p := 0 } a' c' L) ∧ Bare (.mk g a c ks) (.mk { g with p := 0 } a' c' L) ∧ Sp (.mk { g with p := 0 } a' c' L) (fun b => W.heap.size ≤ b ∧ b < wr.heap.size) ∧ OwnT wr (.mk { g with p := 0 } a' c' L) := by
  have hown : ∀ k ∈ L, OwnT wr k := fun k hk => by
    obtain ⟨i, hi, rfl⟩ := List.getElem_of_mem hk
    exact (h.y i hi).2.2
  have hrow := h.r.row
  have hlies : ∀ k ∈ L, Lies wr k := fun k hk => by
    obtain ⟨i, hi, rfl⟩ := List.getElem_of_mem hk
    exact (h.y i hi).1
  rcases h.r.row.lies with ⟨rfl, e⟩ | ⟨b, cap, rfl, hc1, hc2, hat⟩
  · subst e
    exact ⟨none, 0, rfl, .mk _ _ _ _ (rg0 hr) (Nat.le_refl _) (by decide) (fun i hi => by simp at hi) (fun k hk => by cases hk), .mk _ _ _ _ _ _ _ h.l (fun i h1 h2 => by simp at h2), .mk _ _ _ _ _ Q (fun x e => by cases e) (fun i hi => by simp at hi) h.d (fun i b hb => ⟨(h.q i b hb).1, (h.q i b hb).2.1⟩), .mk _ _ _ _ hrow hown⟩
  · refine ⟨_, cap, rfl, .mk _ _ _ _ (rg0 hr) hc1 hc2 (fun i hi => ⟨b, 0, rfl, by rw [← ldF_get hi]; exact hat i hi⟩) hlies, .mk _ _ _ _ _ _ _ h.l (fun i h1 h2 => h.b i h1 h2), .mk _ _ _ _ _ Q (fun x e => ?_) (fun i hi => (h.y i hi).2.1) h.d (fun i b hb => ⟨(h.q i b hb).1, (h.q i b hb).2.1⟩), .mk _ _ _ _ hrow hown⟩
    cases e
    exact ⟨⟨h.r.nb b rfl, h.r.row.lt b rfl⟩, rfl, rfl, fun i hq => (h.q i b hq).2.2 rfl⟩
set_option maxRecDepth 100000 in
set_option maxHeartbeats 4000000 in
theorem rbare_any : ∀ (m : Nd) (w : World), Lies w m → size m ≤ 900000000 → Calls Tryz.prog 27 #[.agg m.vals] w (CopB m w) := by
  refine Nd.ind fun h a c ks ih w hl hz => ?_
  have hn : ks.length ≤ 900000000 := by have := len_sizes ks; simp only [size] at hz; omega
  obtain ⟨W, eW⟩ : ∃ W, ((w.alloc (.cells (Nd.mk h a c ks).vals 55)).alloc (.cells #[.int .u8 0, .int .u8 0, .int .u8 0, .int .i64 0, .int .u8 0, .string ⟨#[]⟩, .slice none 0 0, .int .i64 0] 55)).setCell ⟨w.heap.size, 7, none⟩ (.int .i64 0) = W := ⟨_, rfl⟩
  have hbW : Below w.heap.size w W := by rw [← eW]; exact (below_two _ _ _).setCell (p := ⟨w.heap.size, 7, none⟩) (Nat.le_refl _) _
  have HI : Hid (∀ k ∈ ks, ∀ (w : World), Lies w k → Calls Tryz.prog 27 #[.agg k.vals] w (CopB k w)) := fun k hk v hv => ih k hk v hv (Nat.le_trans (size_kid hk) hz)
  have h0 : NdH W w.heap.size (.mk { h with p := 0 } a c ks) := by rw [← eW]; exact heap_set (j := 7) _ (heap_old (heap_new _ _) (by rw [size_alloc]; omega))
  have h1 : W.heap[w.heap.size + 1]? = some (.cells #[.int .u8 0, .int .u8 0, .int .u8 0, .int .i64 0, .int .u8 0, .string ⟨#[]⟩, .slice none 0 0, .int .i64 0] 55 (0, 0)) := by
    rw [← eW]; refine (Below.heap_setCell _ _ _ _ (by simp)).trans ?_; rw [← size_alloc w (.cells (Nd.mk h a c ks).vals 55)]; exact heap_new _ _
  have HBW : Hid (Below w.heap.size w W) := hbW
  have HL : Hid (Lies W (.mk h a c ks)) := hl.on hbW
  have HRg : Hid (Rg h) := hl.rg
  have HWS : Hid (W.heap.size = w.heap.size + 2) := by show _ = _; rw [← eW, World.size_setCell, size_alloc, size_alloc]
  have H0 := h0.hid
  have H1 : Hid (W.heap[w.heap.size + 1]? = some (.cells #[.int .u8 0, .int .u8 0, .int .u8 0, .int .i64 0, .int .u8 0, .string ⟨#[]⟩, .slice none 0 0, .int .i64 0] 55 (0, 0))) := h1
  have HN : Hid (ks.length ≤ 900000000) := hn
  clear ih hl hz hn hbW h0 h1
  unfold Nd.vals hdA at eW
  show Calls Tryz.prog 27 #[.agg #[.int .u8 h.k, .int .u8 h.o, .int .u8 h.t, .int .i64 h.n, .int .u8 h.f, .string h.x, .slice a ks.length c, .int .i64 h.p]] w _
  simp only [Nd.h, Nd.a, Nd.c, Nd.ks] at eW
  go_enter Tryz.func27, Tryz.ntmps27
  go_upto_region 2 with fail
  clear eW
  go_wp2_with fail
  go_loopw [3, 4] (fun v t wr => ∃ (i : Nat) (L : List Nd) (Q : Nat → Nat → Prop), i ≤ ks.length ∧ t = .int .i64 i ∧ Hid (Cpb W wr v ks L i Q)) (fun _ t _ => ks.length - (intOf t).toNat)
  case atStart => exact ⟨0, [], fun _ _ => False, by omega, rfl, rfl, RN.nil W, fun j h1 h2 => by simp at h2, fun j hj => by simp at hj, fun j b hb => hb.elim, fun i j b hb => hb.elim, fun j b _ hb => hb⟩
  case round =>
    obtain ⟨i, L, Q, hi, rfl, HT⟩ := hrel
    have hN : NdH wr w.heap.size (.mk { h with p := 0 } a c ks) := H0.out.on HT.out.r.B
    have q6 : wr.cell? ⟨w.heap.size, 6, none⟩ = some (.slice a ks.length c) := cell_of hN 6
    have HNr := hN.hid
    clear hN
    by_cases hlt : i < ks.length
    · have hlt' : (i : Int) < (ks.length : Int) := by omega
      obtain ⟨b, o, e1, hat⟩ := (HL.out.on HT.out.r.B).kid i hlt
      have e2 : a = some ⟨b, o, none⟩ := e1
      have hk1 : NdAt wr b (o + i * 8) ks[i] := hat
      have cI := HI.out ks[i] (nth_mem hlt) wr ((HL.out.sub ks[i] (nth_mem hlt)).on HT.out.r.B)
      obtain ⟨k, ek⟩ : ∃ k, ks[i] = k := ⟨_, rfl⟩
      rw [ek] at hk1 cI
      rw [e2] at q6
      obtain ⟨y0, y1, y2, y3, y4, y5, y6, y7⟩ := hk1
      unfold Nd.vals hdA at cI
      have HEK : Hid (ks[i] = k) := ek
      clear ek e1 e2 hat
      go_wp2_with fail
      refine cI.mono ?_
      rintro e w1 ⟨k', rfl, hk1, hk2, hk3, hk4, hb1⟩
      have HB1 : Hid (Below wr.heap.size wr w1) := hb1
      have HR1 : Hid (RN W w1 u3 L) := HT.out.r.call hb1
      have HLn : Hid (L.length ≤ 1000000000) := by have h1 := HN.out; have h2 := HT.out.l; show _ ≤ _; omega
      have HK1 : Hid (Lies w1 k') := hk1
      have HK2 : Hid (Bare k k') := hk2
      have HK3 : Hid (Sp k' (fun b => wr.heap.size ≤ b ∧ b < w1.heap.size)) := hk3
      have hmx : (i : Int) + 1 ≤ 9223372036854775807 := by have := HN.out; omega
      have HK4 : Hid (OwnT w1 k') := hk4
      clear hk1 hk2 hk3 hk4 hb1 cI y0 y1 y2 y3 y4 y5 y6 y7 q6
      unfold Nd.vals hdA
      go_wp2_with (at_builtin; refine append_node rfl (.tmp 13) (.tmp 20) rfl k' HR1.out rfl rfl HLn.out ?_; intro v1 w2 hr2 hs2 hq2 hz2; have HX : Hid (Cpb W w2 v1 ks (L ++ [k']) (i + 1) (fun j b => Q j b ∨ (j = i ∧ wr.heap.size ≤ b ∧ b < w1.heap.size))) := HT.out.snoc hlt HB1.out HK1.out (by rw [HEK.out]; exact HK2.out) HK3.out HK4.out hr2 hs2 hq2 hz2; clear hr2 hs2 hq2 hz2)
      exact ⟨⟨i + 1, L ++ [k'], _, hlt, rfl, HX⟩, by simp only [intOf]; omega⟩
    · obtain rfl : i = ks.length := by omega
      have hnot : ¬ (ks.length : Int) < (ks.length : Int) := by omega
      have hb1 : Below W.heap.size W wr := HT.out.r.B
      obtain ⟨a', c', rfl, hL1, hL2, hL3, hL4⟩ := HT.out.nd (g := h) (a := a) (c := c) HRg.out
      have g0 : NdH wr w.heap.size (.mk { h with p := 0 } a c ks) := HNr.out
      have g1 := (hb1.block (w.heap.size + 1) (Array.getElem?_eq_some_iff.1 H1.out).1).trans H1.out
      obtain ⟨U, eU⟩ : ∃ U, wr.setCell ⟨w.heap.size, 6, none⟩ (.slice a' L.length c') = U := ⟨_, rfl⟩
      have u0 : NdH U w.heap.size (.mk { h with p := 0 } a' c' L) := by rw [← eU]; exact heap_set _ g0
      have u1 : U.heap[w.heap.size + 1]? = some (.cells #[.int .u8 0, .int .u8 0, .int .u8 0, .int .i64 0, .int .u8 0, .string ⟨#[]⟩, .slice none 0 0, .int .i64 0] 55 (0, 0)) := by
        rw [← eU]; exact (Below.heap_setCell _ _ _ _ (by simp)).trans g1
      have f6 : wr.frozen? ⟨w.heap.size, 6, none⟩ = false := frozen_of g0 6
      have HU1 : Hid (U.heap[w.heap.size + 1]? = some (.cells #[.int .u8 0, .int .u8 0, .int .u8 0, .int .i64 0, .int .u8 0, .string ⟨#[]⟩, .slice none 0 0, .int .i64 0] 55 (0, 0))) := u1
      have q0x : U.cell? ⟨w.heap.size, 0, none⟩ = some (.int .u8 h.k) := cell_of u0 0
      have q1x : U.cell? ⟨w.heap.size, 1, none⟩ = some (.int .u8 h.o) := cell_of u0 1
      have q2x : U.cell? ⟨w.heap.size, 2, none⟩ = some (.int .u8 h.t) := cell_of u0 2
      have q3x : U.cell? ⟨w.heap.size, 3, none⟩ = some (.int .i64 h.n) := cell_of u0 3
      have q4x : U.cell? ⟨w.heap.size, 4, none⟩ = some (.int .u8 h.f) := cell_of u0 4
      have q5x : U.cell? ⟨w.heap.size, 5, none⟩ = some (.string h.x) := cell_of u0 5
      have q6x : U.cell? ⟨w.heap.size, 6, none⟩ = some (.slice a' L.length c') := cell_of u0 6
      have q7x : U.cell? ⟨w.heap.size, 7, none⟩ = some (.int .i64 0) := cell_of u0 7
      have p0 : U.cell? ⟨w.heap.size + 1, 0, none⟩ = some (.int .u8 0) := cell_of u1 0
      have r0 : U.frozen? ⟨w.heap.size + 1, 0, none⟩ = false := frozen_of u1 0
      have p1 : U.cell? ⟨w.heap.size + 1, 1, none⟩ = some (.int .u8 0) := cell_of u1 1
      have r1 : U.frozen? ⟨w.heap.size + 1, 1, none⟩ = false := frozen_of u1 1
      have p2 : U.cell? ⟨w.heap.size + 1, 2, none⟩ = some (.int .u8 0) := cell_of u1 2
      have r2 : U.frozen? ⟨w.heap.size + 1, 2, none⟩ = false := frozen_of u1 2
      have p3 : U.cell? ⟨w.heap.size + 1, 3, none⟩ = some (.int .i64 0) := cell_of u1 3
      have r3 : U.frozen? ⟨w.heap.size + 1, 3, none⟩ = false := frozen_of u1 3
      have p4 : U.cell? ⟨w.heap.size + 1, 4, none⟩ = some (.int .u8 0) := cell_of u1 4
      have r4 : U.frozen? ⟨w.heap.size + 1, 4, none⟩ = false := frozen_of u1 4
      have p5 : U.cell? ⟨w.heap.size + 1, 5, none⟩ = some (.string ⟨#[]⟩) := cell_of u1 5
      have r5 : U.frozen? ⟨w.heap.size + 1, 5, none⟩ = false := frozen_of u1 5
      have p6 : U.cell? ⟨w.heap.size + 1, 6, none⟩ = some (.slice none 0 0) := cell_of u1 6
      have r6 : U.frozen? ⟨w.heap.size + 1, 6, none⟩ = false := frozen_of u1 6
      have p7 : U.cell? ⟨w.heap.size + 1, 7, none⟩ = some (.int .i64 0) := cell_of u1 7
      have r7 : U.frozen? ⟨w.heap.size + 1, 7, none⟩ = false := frozen_of u1 7
      have HBU : Hid (Below w.heap.size w U) := by
        show Below _ _ _
        rw [← eU]; exact (below2 HBW.out hb1).setCell (p := ⟨w.heap.size, 6, none⟩) (Nat.le_refl _) _
      have hWs : W.heap.size = w.heap.size + 2 := HWS.out
      have HLU : Hid (Lies U (.mk { h with p := 0 } a' c' L)) := by
        refine hL1.bk (P := fun b => W.heap.size ≤ b ∧ b < wr.heap.size) (fun b _ hp => ?_) hL3.bk
        rw [← eU]; exact Below.heap_setCell _ _ _ _ (by show b ≠ w.heap.size; omega)
      have HLO : Hid (OwnT U (.mk { h with p := 0 } a' c' L)) := by
        refine hL4.bk (P := fun b => W.heap.size ≤ b ∧ b < wr.heap.size) (fun b _ hp => ?_) hL3.bk
        rw [← eU]; exact Below.heap_setCell _ _ _ _ (by show b ≠ w.heap.size; omega)
      have HL2 : Hid (Bare (.mk h a c ks) (.mk { h with p := 0 } a' c' L)) := hL2
      have HUs : Hid (U.heap.size = wr.heap.size) := by show _ = _; rw [← eU]; simp [World.setCell]
      have HL3 : Hid (Sp (.mk { h with p := 0 } a' c' L) (fun b => W.heap.size ≤ b ∧ b < wr.heap.size)) := hL3
      have HEU : Hid (wr.setCell ⟨w.heap.size, 6, none⟩ (.slice a' L.length c') = U) := eU
      clear hL1 hL2 hL3 hL4 hb1 g0 g1 u0 u1 eU
      obtain ⟨Y, eY, hY1, hY2, hY3, hY4⟩ := fin8 HU1.out (.int .u8 h.k) (.int .u8 h.o) (.int .u8 h.t) (.int .i64 h.n) (.int .u8 h.f) (.string h.x) (.slice a' L.length c') (.int .i64 0)
      have HY : Hid (Lies Y (.mk { h with p := 0 } a' c' L) ∧ Sp (.mk { h with p := 0 } a' c' L) (fun b => w.heap.size ≤ b ∧ b < Y.heap.size) ∧ OwnT Y (.mk { h with p := 0 } a' c' L) ∧ Below w.heap.size w Y) := by
        refine ⟨HLU.out.bk (P := fun b => W.heap.size ≤ b ∧ b < wr.heap.size) (fun b _ hp => hY3 b (by omega)) HL3.out.bk, HL3.out.mono fun b hp => ⟨by omega, by rw [hY2, HUs.out]; exact hp.2⟩, HLO.out.bk (P := fun b => W.heap.size ≤ b ∧ b < wr.heap.size) (fun b _ hp => hY3 b (by omega)) HL3.out.bk, hY4 _ _ HBU.out (by omega)⟩
      have HY1 : Hid (Y.heap[w.heap.size + 1]? = some (.cells (Nd.mk { h with p := 0 } a' c' L).vals 55 (0, 0))) := hY1
      have HEY : Hid (_ = Y) := eY
      clear eY hY1 hY2 hY3 hY4
      go_upto_region 8 with fail
      rw [HEU.out]
      clear f6 q6
      go_wp2_with fail
      rw [HEY.out]
      exact bodyPost_ret (results_cell_row rfl _ _ (w.heap.size + 1) 55 (Nd.mk { h with p := 0 } a' c' L).vals (0, 0) _ rfl HY1.out Tryz.underlying55 rfl (by kernel_rfl)) rfl ⟨.mk { h with p := 0 } a' c' L, rfl, HY.out.1, HL2.out, HY.out.2.1, HY.out.2.2.1, HY.out.2.2.2⟩
end Go.Proofs.YtighocmdlifheaaGreatDoor

/-
  BareExpr once more: an expression without places, in memory of its own.
-/
namespace Go.Proofs.YtighocmdlifheaaGreatDoor
open Go.RowKit
set_option maxRecDepth 100000 in
set_option maxHeartbeats 4000000 in
theorem eachO_any (ks : List Nd) (a : Option Addr) (c : Nat) (g : Hd) (hn : ks.length ≤ 900000000)
    (ih : ∀ k ∈ ks, ∀ (w : World), Lies w k → Calls Tryz.prog 25 #[.agg k.vals] w (CopB k w)) (w : World) (hl : Lies w (.mk g a c ks)) :
    Calls Tryz.prog 82 #[.slice a ks.length c, .func (.func 25) #[] #[]] w fun e w' => ∃ v L Q, e = .returned v ∧ Cpb w w' v ks L ks.length Q := by
  have HI : Hid (∀ k ∈ ks, ∀ (w : World), Lies w k → Calls Tryz.prog 25 #[.agg k.vals] w (CopB k w)) := ih
  have HL := hl.hid
  have HN : Hid (ks.length ≤ 900000000) := hn
  have he := fun args v => enter28 args v
  clear ih hl hn
  go_enter Tryz.func82, Tryz.ntmps82
  go_wp2_with fail
  go_loopw [5, 7, 10] (fun v _ t wr => ∃ (i : Nat) (L : List Nd) (Q : Nat → Nat → Prop), i ≤ ks.length ∧ t = .int .i64 i ∧ Cpb w wr v ks L i Q) (fun _ _ t _ => ks.length - (intOf t).toNat)
  case atStart => exact ⟨0, [], fun _ _ => False, by omega, rfl, rfl, RN.nil w, fun j h1 h2 => by simp at h2, fun j hj => by simp at hj, fun j b hb => hb.elim, fun i j b hb => hb.elim, fun j b _ hb => hb⟩
  case round =>
    obtain ⟨i, L, Q, hi, rfl, hT⟩ := hrel
    have HT := hT.hid
    clear hT
    by_cases hlt : i < ks.length
    · have hlt' : (i : Int) < (ks.length : Int) := by omega
      obtain ⟨b, o, e1, hat⟩ := (HL.out.on HT.out.r.B).kid i hlt
      have e2 : a = some ⟨b, o, none⟩ := e1
      clear e1
      have hk1 : NdAt wr b (o + i * 8) ks[i] := hat
      clear hat
      have cI := HI.out ks[i] (nth_mem hlt)
      have HLk : Hid (Lies w ks[i]) := HL.out.sub ks[i] (nth_mem hlt)
      obtain ⟨k, ek⟩ : ∃ k, ks[i] = k := ⟨_, rfl⟩
      rw [ek] at hk1 cI HLk
      subst e2
      obtain ⟨y0, y1, y2, y3, y4, y5, y6, y7⟩ := hk1
      have bk := below_new wr (.cells #[.int .u8 k.h.k, .int .u8 k.h.o, .int .u8 k.h.t, .int .i64 k.h.n, .int .u8 k.h.f, .string k.h.x, .slice k.a k.ks.length k.c, .int .i64 k.h.p] 55)
      have cI := cI (wr.alloc (.cells #[.int .u8 k.h.k, .int .u8 k.h.o, .int .u8 k.h.t, .int .i64 k.h.n, .int .u8 k.h.f, .string k.h.x, .slice k.a k.ks.length k.c, .int .i64 k.h.p] 55)) (HLk.out.on (below2 HT.out.r.B bk))
      have cI : Calls Tryz.prog 25 #[.agg #[.int .u8 k.h.k, .int .u8 k.h.o, .int .u8 k.h.t, .int .i64 k.h.n, .int .u8 k.h.f, .string k.h.x, .slice k.a k.ks.length k.c, .int .i64 k.h.p]] (wr.alloc (.cells #[.int .u8 k.h.k, .int .u8 k.h.o, .int .u8 k.h.t, .int .i64 k.h.n, .int .u8 k.h.f, .string k.h.x, .slice k.a k.ks.length k.c, .int .i64 k.h.p] 55)) (CopB k (wr.alloc (.cells #[.int .u8 k.h.k, .int .u8 k.h.o, .int .u8 k.h.t, .int .i64 k.h.n, .int .u8 k.h.f, .string k.h.x, .slice k.a k.ks.length k.c, .int .i64 k.h.p] 55))) := cI
      have HEK : Hid (ks[i] = k) := ek
      have HBK : Hid (Below wr.heap.size wr (wr.alloc (.cells #[.int .u8 k.h.k, .int .u8 k.h.o, .int .u8 k.h.t, .int .i64 k.h.n, .int .u8 k.h.f, .string k.h.x, .slice k.a k.ks.length k.c, .int .i64 k.h.p] 55))) := bk
      clear ek bk
      go_wp2_with fail
      refine cI.mono ?_
      rintro e w1 ⟨k', rfl, hk1, hk2, hk3, hk4, hb1⟩
      have HB1 : Hid (Below wr.heap.size wr w1) := below2 HBK.out hb1
      have HR1 : Hid (RN w w1 u5 L) := HT.out.r.call HB1.out
      have HLn : Hid (L.length ≤ 1000000000) := by have h1 := HN.out; have h2 := HT.out.l; show _ ≤ _; omega
      have HK1 : Hid (Lies w1 k') := hk1
      have HK2 : Hid (Bare k k') := hk2
      have HK4 : Hid (OwnT w1 k') := hk4
      have HK3 : Hid (Sp k' (fun b => wr.heap.size ≤ b ∧ b < w1.heap.size)) := hk3.mono fun b hp => ⟨by have := hp.1; rw [size_alloc] at this; omega, hp.2⟩
      have hmx : (i : Int) + 1 ≤ 9223372036854775807 := by have := HN.out; omega
      clear hk1 hk2 hk3 hk4 hb1 cI y0 y1 y2 y3 y4 y5 y6 y7
      unfold Nd.vals hdA
      go_wp2_with (at_builtin; refine append_node rfl (.tmp 14) (.tmp 18) rfl k' HR1.out rfl rfl HLn.out ?_; intro v1 w2 hr2 hs2 hq2 hz2; have HX : Hid (Cpb w w2 v1 ks (L ++ [k']) (i + 1) (fun j b => Q j b ∨ (j = i ∧ wr.heap.size ≤ b ∧ b < w1.heap.size))) := HT.out.snoc hlt HB1.out HK1.out (by rw [HEK.out]; exact HK2.out) HK3.out HK4.out hr2 hs2 hq2 hz2; clear hr2 hs2 hq2 hz2)
      exact ⟨⟨i + 1, L ++ [k'], _, hlt, rfl, HX.out⟩, by simp only [intOf]; omega⟩
    · obtain rfl : i = ks.length := by omega
      have hnot : ¬ (ks.length : Int) < (ks.length : Int) := by omega
      go_wp2_with fail
      go_ret
      exact ⟨_, rfl, L, Q, HT.out⟩
set_option maxRecDepth 100000 in
set_option maxHeartbeats 4000000 in
theorem bareO_any : ∀ (m : Nd) (w : World), Lies w m → size m ≤ 900000000 → Calls Tryz.prog 25 #[.agg m.vals] w (CopB m w) := by
  refine Nd.ind fun h a c ks ih w hl hz => ?_
  have hn : ks.length ≤ 900000000 := by have := len_sizes ks; simp only [size] at hz; omega
  obtain ⟨W, eW⟩ : ∃ W, (w.alloc (.cells (Nd.mk h a c ks).vals 55)).alloc (.cells #[.int .u8 0, .int .u8 0, .int .u8 0, .int .i64 0, .int .u8 0, .string ⟨#[]⟩, .slice none 0 0, .int .i64 0] 55) = W := ⟨_, rfl⟩
  have hbW : Below w.heap.size w W := by rw [← eW]; exact below_two _ _ _
  have cE := eachO_any ks a c h hn (fun k hk v hv => ih k hk v hv (Nat.le_trans (size_kid hk) hz)) W (hl.on hbW)
  have h0 : NdH W w.heap.size (.mk h a c ks) := by rw [← eW]; exact heap_old (heap_new _ _) (by rw [size_alloc]; omega)
  have h1 : W.heap[w.heap.size + 1]? = some (.cells #[.int .u8 0, .int .u8 0, .int .u8 0, .int .i64 0, .int .u8 0, .string ⟨#[]⟩, .slice none 0 0, .int .i64 0] 55 (0, 0)) := by
    rw [← eW, ← size_alloc w (.cells (Nd.mk h a c ks).vals 55)]; exact heap_new _ _
  have HBW : Hid (Below w.heap.size w W) := hbW
  have HRg : Hid (Rg h) := hl.rg
  have HWS : Hid (W.heap.size = w.heap.size + 2) := by show _ = _; rw [← eW, size_alloc, size_alloc]
  have H0 := h0.hid
  have H1 : Hid (W.heap[w.heap.size + 1]? = some (.cells #[.int .u8 0, .int .u8 0, .int .u8 0, .int .i64 0, .int .u8 0, .string ⟨#[]⟩, .slice none 0 0, .int .i64 0] 55 (0, 0))) := h1
  obtain ⟨y0, y1, y2, y3, y4, y5, y6, y7⟩ : W.cell? ⟨w.heap.size, 0, none⟩ = some (.int .u8 h.k) ∧ W.cell? ⟨w.heap.size, 1, none⟩ = some (.int .u8 h.o) ∧ W.cell? ⟨w.heap.size, 2, none⟩ = some (.int .u8 h.t) ∧ W.cell? ⟨w.heap.size, 3, none⟩ = some (.int .i64 h.n) ∧ W.cell? ⟨w.heap.size, 4, none⟩ = some (.int .u8 h.f) ∧ W.cell? ⟨w.heap.size, 5, none⟩ = some (.string h.x) ∧ W.cell? ⟨w.heap.size, 6, none⟩ = some (.slice a ks.length c) ∧ W.cell? ⟨w.heap.size, 7, none⟩ = some (.int .i64 h.p) := h0.eight
  clear ih hl hz hn hbW h0 h1
  unfold Nd.vals hdA at eW
  show Calls Tryz.prog 25 #[.agg #[.int .u8 h.k, .int .u8 h.o, .int .u8 h.t, .int .i64 h.n, .int .u8 h.f, .string h.x, .slice a ks.length c, .int .i64 h.p]] w _
  simp only [Nd.h, Nd.a, Nd.c, Nd.ks] at eW
  go_enter Tryz.func25, Tryz.ntmps25
  go_wp2_with fail
  clear eW
  refine cE.mono ?_
  rintro e w1 ⟨v, L, Q, rfl, hT⟩
  have hb1 : Below W.heap.size W w1 := hT.r.B
  obtain ⟨a', c', rfl, hL1, hL2, hL3, hL4⟩ := hT.nd (g := h) (a := a) (c := c) HRg.out
  have g0 : NdH w1 w.heap.size (.mk h a c ks) := H0.out.on hb1
  have g1 := (hb1.block (w.heap.size + 1) (Array.getElem?_eq_some_iff.1 H1.out).1).trans H1.out
  have HG0 := g0.hid
  have HG1 : Hid (w1.heap[w.heap.size + 1]? = some (.cells #[.int .u8 0, .int .u8 0, .int .u8 0, .int .i64 0, .int .u8 0, .string ⟨#[]⟩, .slice none 0 0, .int .i64 0] 55 (0, 0))) := g1
  obtain ⟨z0, z1, z2, z3, z4, z5, z6, z7⟩ : w1.cell? ⟨w.heap.size, 0, none⟩ = some (.int .u8 h.k) ∧ w1.cell? ⟨w.heap.size, 1, none⟩ = some (.int .u8 h.o) ∧ w1.cell? ⟨w.heap.size, 2, none⟩ = some (.int .u8 h.t) ∧ w1.cell? ⟨w.heap.size, 3, none⟩ = some (.int .i64 h.n) ∧ w1.cell? ⟨w.heap.size, 4, none⟩ = some (.int .u8 h.f) ∧ w1.cell? ⟨w.heap.size, 5, none⟩ = some (.string h.x) ∧ w1.cell? ⟨w.heap.size, 6, none⟩ = some (.slice a ks.length c) ∧ w1.cell? ⟨w.heap.size, 7, none⟩ = some (.int .i64 h.p) := g0.eight
  obtain ⟨U, eU⟩ : ∃ U, (w1.setCell ⟨w.heap.size, 6, none⟩ (.slice a' L.length c')).setCell ⟨w.heap.size, 7, none⟩ (.int .i64 0) = U := ⟨_, rfl⟩
  have u0 : NdH U w.heap.size (.mk { h with p := 0 } a' c' L) := by rw [← eU]; exact heap_set _ (heap_set _ g0)
  have u1 : U.heap[w.heap.size + 1]? = some (.cells #[.int .u8 0, .int .u8 0, .int .u8 0, .int .i64 0, .int .u8 0, .string ⟨#[]⟩, .slice none 0 0, .int .i64 0] 55 (0, 0)) := by
    rw [← eU]; exact (Below.heap_setCell _ _ _ _ (by simp)).trans ((Below.heap_setCell _ _ _ _ (by simp)).trans g1)
  have f6 : w1.frozen? ⟨w.heap.size, 6, none⟩ = false := frozen_of g0 6
  have f7 : w1.frozen? ⟨w.heap.size, 7, none⟩ = false := frozen_of g0 7
  have HU1 : Hid (U.heap[w.heap.size + 1]? = some (.cells #[.int .u8 0, .int .u8 0, .int .u8 0, .int .i64 0, .int .u8 0, .string ⟨#[]⟩, .slice none 0 0, .int .i64 0] 55 (0, 0))) := u1
  obtain ⟨q0, q1, q2, q3, q4, q5, q6, q7⟩ : U.cell? ⟨w.heap.size, 0, none⟩ = some (.int .u8 h.k) ∧ U.cell? ⟨w.heap.size, 1, none⟩ = some (.int .u8 h.o) ∧ U.cell? ⟨w.heap.size, 2, none⟩ = some (.int .u8 h.t) ∧ U.cell? ⟨w.heap.size, 3, none⟩ = some (.int .i64 h.n) ∧ U.cell? ⟨w.heap.size, 4, none⟩ = some (.int .u8 h.f) ∧ U.cell? ⟨w.heap.size, 5, none⟩ = some (.string h.x) ∧ U.cell? ⟨w.heap.size, 6, none⟩ = some (.slice a' L.length c') ∧ U.cell? ⟨w.heap.size, 7, none⟩ = some (.int .i64 0) := u0.eight
  have p0 : U.cell? ⟨w.heap.size + 1, 0, none⟩ = some (.int .u8 0) := cell_of u1 0
  have p1 : U.cell? ⟨w.heap.size + 1, 1, none⟩ = some (.int .u8 0) := cell_of u1 1
  have p2 : U.cell? ⟨w.heap.size + 1, 2, none⟩ = some (.int .u8 0) := cell_of u1 2
  have p3 : U.cell? ⟨w.heap.size + 1, 3, none⟩ = some (.int .i64 0) := cell_of u1 3
  have p4 : U.cell? ⟨w.heap.size + 1, 4, none⟩ = some (.int .u8 0) := cell_of u1 4
  have p5 : U.cell? ⟨w.heap.size + 1, 5, none⟩ = some (.string ⟨#[]⟩) := cell_of u1 5
  have p6 : U.cell? ⟨w.heap.size + 1, 6, none⟩ = some (.slice none 0 0) := cell_of u1 6
  have p7 : U.cell? ⟨w.heap.size + 1, 7, none⟩ = some (.int .i64 0) := cell_of u1 7
  have r0 : U.frozen? ⟨w.heap.size + 1, 0, none⟩ = false := frozen_of u1 0
  have r1 : U.frozen? ⟨w.heap.size + 1, 1, none⟩ = false := frozen_of u1 1
  have r2 : U.frozen? ⟨w.heap.size + 1, 2, none⟩ = false := frozen_of u1 2
  have r3 : U.frozen? ⟨w.heap.size + 1, 3, none⟩ = false := frozen_of u1 3
  have r4 : U.frozen? ⟨w.heap.size + 1, 4, none⟩ = false := frozen_of u1 4
  have r5 : U.frozen? ⟨w.heap.size + 1, 5, none⟩ = false := frozen_of u1 5
  have r6 : U.frozen? ⟨w.heap.size + 1, 6, none⟩ = false := frozen_of u1 6
  have r7 : U.frozen? ⟨w.heap.size + 1, 7, none⟩ = false := frozen_of u1 7
  have HBU : Hid (Below w.heap.size w U) := by
    show Below _ _ _
    rw [← eU]; exact ((below2 HBW.out hb1).setCell (p := ⟨w.heap.size, 6, none⟩) (Nat.le_refl _) _).setCell (p := ⟨w.heap.size, 7, none⟩) (Nat.le_refl _) _
  have hWs : W.heap.size = w.heap.size + 2 := HWS.out
  have HLU : Hid (Lies U (.mk { h with p := 0 } a' c' L)) := by
    refine hL1.bk (P := fun b => W.heap.size ≤ b ∧ b < w1.heap.size) (fun b _ hp => ?_) hL3.bk
    rw [← eU]; exact (Below.heap_setCell _ _ _ _ (by show b ≠ w.heap.size; omega)).trans (Below.heap_setCell _ _ _ _ (by show b ≠ w.heap.size; omega))
  have HLO : Hid (OwnT U (.mk { h with p := 0 } a' c' L)) := by
    refine hL4.bk (P := fun b => W.heap.size ≤ b ∧ b < w1.heap.size) (fun b _ hp => ?_) hL3.bk
    rw [← eU]; exact (Below.heap_setCell _ _ _ _ (by show b ≠ w.heap.size; omega)).trans (Below.heap_setCell _ _ _ _ (by show b ≠ w.heap.size; omega))
  have HL2 : Hid (Bare (.mk h a c ks) (.mk { h with p := 0 } a' c' L)) := hL2
  have HUs : Hid (U.heap.size = w1.heap.size) := by show _ = _; rw [← eU]; simp [World.setCell]
  have HL3 : Hid (Sp (.mk { h with p := 0 } a' c' L) (fun b => W.heap.size ≤ b ∧ b < w1.heap.size)) := hL3
  have HEU : Hid ((w1.setCell ⟨w.heap.size, 6, none⟩ (.slice a' L.length c')).setCell ⟨w.heap.size, 7, none⟩ (.int .i64 0) = U) := eU
  clear hL1 hL2 hL3 hL4 hT hb1 g0 g1 u0 u1 cE y0 y1 y2 y3 y4 y5 y6 y7 eU
  obtain ⟨Y, eY, hY1, hY2, hY3, hY4⟩ := fin8 HU1.out (.int .u8 h.k) (.int .u8 h.o) (.int .u8 h.t) (.int .i64 h.n) (.int .u8 h.f) (.string h.x) (.slice a' L.length c') (.int .i64 0)
  have HY : Hid (Lies Y (.mk { h with p := 0 } a' c' L) ∧ Sp (.mk { h with p := 0 } a' c' L) (fun b => w.heap.size ≤ b ∧ b < Y.heap.size) ∧ OwnT Y (.mk { h with p := 0 } a' c' L) ∧ Below w.heap.size w Y) := by
    refine ⟨HLU.out.bk (P := fun b => W.heap.size ≤ b ∧ b < w1.heap.size) (fun b _ hp => hY3 b (by omega)) HL3.out.bk, HL3.out.mono fun b hp => ⟨by omega, by rw [hY2, HUs.out]; exact hp.2⟩, HLO.out.bk (P := fun b => W.heap.size ≤ b ∧ b < w1.heap.size) (fun b _ hp => hY3 b (by omega)) HL3.out.bk, hY4 _ _ HBU.out (by omega)⟩
  have HY1 : Hid (Y.heap[w.heap.size + 1]? = some (.cells (Nd.mk { h with p := 0 } a' c' L).vals 55 (0, 0))) := hY1
  have HEY : Hid ((((((((U.setCell ⟨w.heap.size + 1, 0, none⟩ (.int .u8 h.k)).setCell ⟨w.heap.size + 1, 1, none⟩ (.int .u8 h.o)).setCell ⟨w.heap.size + 1, 2, none⟩ (.int .u8 h.t)).setCell ⟨w.heap.size + 1, 3, none⟩ (.int .i64 h.n)).setCell ⟨w.heap.size + 1, 4, none⟩ (.int .u8 h.f)).setCell ⟨w.heap.size + 1, 5, none⟩ (.string h.x)).setCell ⟨w.heap.size + 1, 6, none⟩ (.slice a' L.length c')).setCell ⟨w.heap.size + 1, 7, none⟩ (.int .i64 0) = Y) := eY
  clear eY hY1 hY2 hY3 hY4
  go_upto_region 3 with fail
  rw [HEU.out]
  clear z0 z1 z2 z3 z4 z5 z6 z7 f6 f7
  go_wp2_with fail
  rw [HEY.out]
  exact bodyPost_ret (results_cell_row rfl _ _ (w.heap.size + 1) 55 (Nd.mk { h with p := 0 } a' c' L).vals (0, 0) _ rfl HY1.out Tryz.underlying55 rfl (by kernel_rfl)) rfl ⟨.mk { h with p := 0 } a' c' L, rfl, HY.out.1, HL2.out, HY.out.2.1, HY.out.2.2.1, HY.out.2.2.2⟩
end Go.Proofs.YtighocmdlifheaaGreatDoor

/-
  A book of nodes: what an expression must be to come in.
-/
namespace Go.Proofs.YtighocmdlifheaaGreatDoor
open Go.RowKit
set_option linter.unusedVariables false
set_option linter.unusedSimpArgs false
theorem Mv.ofBelowF {w w' : World} {F : Nat → Prop} (h : Below w.heap.size w w') : Mv w w' F := ⟨h.os, h.tape, h.output, h.size, fun k hk _ => h.block k hk⟩
section
variable {w0 w1 v v' : World} {bk : Nat} {U A A' : Nat → Prop} {NI : Nat} {lI : Value}
theorem TBn.below (h : TBn w0 w1 bk U A NI v lI) (k : Below v.heap.size v v') : TBn w0 w1 bk U A NI v' lI := by
  have m : Mv v v' (fun _ => False) := Mv.ofBelowF k
  exact ⟨(k.block bk (Array.getElem?_eq_some_iff.1 h.B).1).trans h.B, h.I.keep m (fun _ e => e.elim) (fun _ e => e), h.sub, h.out, h.old, fun b hb => (k.block b (Nat.lt_of_lt_of_le (h.old b hb) h.sz)).trans (h.same b hb), Nat.le_trans h.sz k.size, h.new, h.B0.trans (k.mono h.B0.size)⟩
theorem LE.mono {e le : TypeId} {s : Nat} {ok : (Nat → Value) → Nat → Prop} {lv : Value} {N : Nat} (h : LE e le s ok A v lv N) (hA : ∀ b, A b → A' b) : LE e le s ok A' v lv N := by
  obtain ⟨V, n, C, h1, h2, h3⟩ := h
  exact ⟨V, n, C, h1, h2, fun b hb => hA b (h3 b hb)⟩
theorem TBn.mono (h : TBn w0 w1 bk U A NI v lI) (h1 : ∀ b, A b → A' b) (h2 : ∀ b, A' b → U b) : TBn w0 w1 bk U A' NI v lI :=
  ⟨h.B, h.I.mono h1, h2, h.out, h.old, h.same, h.sz, h.new, h.B0⟩
/-- A box more, that must stay as it is. -/
theorem TBn.box (h : TBn w0 w1 bk U A NI v lI) (o : Obj) : TBn w0 (v.alloc o) bk (fun b => U b ∨ b = v.heap.size) A NI (v.alloc o) lI := by
  have h' := h.below (below_new v o)
  have hbk := (Array.getElem?_eq_some_iff.1 h.B).1
  refine ⟨h'.B, h'.I, fun b hb => .inl (h.sub b hb), fun b hb => ?_, fun b hb => ?_, fun b _ => rfl, Nat.le_refl _, h.new, h'.B0⟩
  · rcases hb with hb | hb
    · exact h.out b hb
    · refine ⟨by omega, fun e => ?_⟩
      obtain ⟨c, fz, hk⟩ := h.I.lt b e
      have := (Array.getElem?_eq_some_iff.1 hk).1
      omega
  · rw [size_alloc]
    rcases hb with hb | hb
    · have := h.old b hb; have := h.sz; omega
    · omega
theorem TBn.unbox {v2 : World} {lI2 : Value} {N2 : Nat} {o : Obj} (h : TBn w0 w1 bk U A NI v lI) (k : TBn w0 (v.alloc o) bk (fun b => U b ∨ b = v.heap.size) A' N2 v2 lI2) (hA : ∀ b, A' b → U b) : TBn w0 w1 bk U A' N2 v2 lI2 := by
  refine ⟨k.B, k.I, hA, fun b hb => k.out b (.inl hb), h.old, fun b hb => ?_, ?_, k.new, k.B0⟩
  · have hb1 := h.old b hb
    have hb2 := h.sz
    exact (k.same b (.inl hb)).trans ((Below.heap_alloc _ _ _ (by omega)).trans (h.same b hb))
  · have h1 := k.sz
    rw [size_alloc] at h1
    have := h.sz
    omega
end
/-- Each list of an expression is a row of memory of its own. -/
inductive NO (w : World) : Nd → Prop
  | mk (h : Hd) (a : Option Addr) (c : Nat) (ks : List Nd) (hr : ∃ f, RowX w 55 8 (.slice a ks.length c) ks.length f ∧ oqN f ks.length) (hs : ∀ k ∈ ks, NO w k) : NO w (.mk h a c ks)
theorem own_sl {a : Option Addr} {n c b : Nat} (h : (Value.slice a n c).ownBlock = some b) : ∃ x, a = some x ∧ x.block = b := by
  cases a with
  | none => simp [Value.ownBlock] at h
  | some x => exact ⟨x, rfl, by simpa [Value.ownBlock] using h⟩
theorem NO.blk {w w' : World} {P : Nat → Prop} (k : ∀ b, P b → w'.heap[b]? = w.heap[b]?) : ∀ {m : Nd}, NO w m → Bk P m → NO w' m := by
  intro m hm
  induction hm with
  | mk h a c ks hr hs ih =>
    intro hB
    cases hB with
    | mk _ _ _ _ hb hs' =>
      obtain ⟨f, h1, h2⟩ := hr
      refine .mk h a c ks ⟨f, h1.of_block (fun b e => ?_), h2⟩ (fun x hx => ih x hx (hs' x hx))
      obtain ⟨x, e1, e2⟩ := own_sl e
      rw [← e2]
      exact k _ (hb x e1)
theorem OwnT.no {w : World} {m : Nd} (h : OwnT w m) : NO w m := by
  induction h with
  | mk h a c ks hr _ ih =>
    refine .mk h a c ks ⟨_, .inl hr, fun k hk => ⟨(ldF ks k).h.p, ?_⟩⟩ ih
    rw [ndF_at _ _ _ (by omega)]
    rfl
theorem LB.no {w : World} {lo : Nat} {m : Nd} (h : LB w m) : Lnt w lo m → NO w m := by
  induction h with
  | mk h b c ks hb hs ih =>
    intro hl
    cases hl with
    | mk _ _ _ _ hr hc hm hb' m0 m1 hk hs' =>
      obtain ⟨cur, h1, h2⟩ := hb
      refine .mk h _ c ks ⟨fun j => (cur[j]?).getD (.int .i64 0), .inl ⟨by simp, .inr ⟨b, c, cur, rfl, Nat.zero_le _, h1, by omega, by unfold maxLen; omega, by rw [h2, hc], ?_⟩⟩, fun k hk' => ⟨ks[k].h.p, ?_⟩⟩ (fun x hx => ih x hx (hs' x hx))
      · apply List.ext_getElem?
        intro i
        by_cases hi : i < ks.length * 8
        · rw [List.getElem?_take_of_lt hi, List.getElem?_map, List.getElem?_range hi]
          have : i < cur.size := by omega
          simp [this]
        · rw [List.getElem?_eq_none (by simp; omega), List.getElem?_eq_none (by simp; omega)]
      · have h7 := (hk k hk').c7
        rw [cell_of h1] at h7
        simp only [h7, Option.getD_some]
end Go.Proofs.YtighocmdlifheaaGreatDoor
