import Derived.Test.YtighocmdlifheaaDoorBr
import Derived.Test.YtighocmdlifheaaDoorM5
/-
  CopyNode: an expression in memory of its own.
-/
namespace Go.Proofs.YtighocmdlifheaaDoor
open Go.RowKit
/-- The same expression, wherever its kids lie. -/
inductive Twin : Nd → Nd → Prop
  | mk (h : Hd) (a a' : Option Addr) (c c' : Nat) (ks ks' : List Nd) (hl : ks'.length = ks.length) (hk : ∀ i (h1 : i < ks.length) (h2 : i < ks'.length), Twin ks[i] ks'[i]) : Twin (.mk h a c ks) (.mk h a' c' ks')
/-- Each node's kids lie in a block of their own, one of P's. -/
inductive Sp : Nd → (Nat → Prop) → Prop
  | mk (h : Hd) (a : Option Addr) (c : Nat) (ks : List Nd) (P : Nat → Prop) (Q : Nat → Nat → Prop) (ha : ∀ x, a = some x → P x.block ∧ x.off = 0 ∧ x.spot = none ∧ ∀ i, ¬ Q i x.block)
      (hs : ∀ i (hi : i < ks.length), Sp ks[i] (Q i)) (hd : ∀ i j b, Q i b → Q j b → i = j) (hQ : ∀ i b, Q i b → P b) : Sp (.mk h a c ks) P
theorem Sp.mono {P P' : Nat → Prop} (hP : ∀ b, P b → P' b) : ∀ {m : Nd}, Sp m P → Sp m P' := by
  intro m h
  cases h with
  | mk h a c ks P Q ha hs hd hQ => exact .mk h a c ks P' Q (fun x e => ⟨hP _ (ha x e).1, (ha x e).2⟩) hs hd (fun i b hq => hP b (hQ i b hq))
theorem Sp.bk {m : Nd} : ∀ {P : Nat → Prop}, Sp m P → Bk P m := by
  refine Nd.ind (P := fun m => ∀ {P : Nat → Prop}, Sp m P → Bk P m) (fun h a c ks ih P hS => ?_) m
  cases hS with
  | mk _ _ _ _ _ Q ha hs hd hQ =>
    refine .mk h a c ks (fun x e => (ha x e).1) (fun k hk => ?_)
    obtain ⟨i, hi, rfl⟩ := List.getElem_of_mem hk
    exact (ih _ hk (hs i hi)).mono fun b hb => hQ i b hb
/-- Each node's kids lie in a row of the call's own. -/
inductive OwnT (w : World) : Nd → Prop
  | mk (h : Hd) (a : Option Addr) (c : Nat) (ks : List Nd) (hr : RowN w (.slice a ks.length c) ks) (hs : ∀ k ∈ ks, OwnT w k) : OwnT w (.mk h a c ks)
theorem OwnT.bk {P : Nat → Prop} {w w' : World} (k : ∀ b, b < w.heap.size → P b → w'.heap[b]? = w.heap[b]?) : ∀ {m : Nd}, OwnT w m → Bk P m → OwnT w' m := by
  intro m hl
  induction hl with
  | mk h a c ks hr _ ih =>
    intro hB
    cases hB with
    | mk _ _ _ _ hb hs =>
      refine .mk h a c ks (Row.of_block hr fun g hg => k g (Row.lt hr g hg) ?_) (fun x hx => ih x hx (hs x hx))
      cases a with
      | none => simp [Value.ownBlock] at hg
      | some x => simp [Value.ownBlock] at hg; rw [← hg]; exact hb x rfl
theorem OwnT.on {w w' : World} {m : Nd} (h : OwnT w m) (k : Below w.heap.size w w') : OwnT w' m := by
  induction h with
  | mk h a c ks hr _ ih => exact .mk h a c ks (Row.of_block hr fun g hg => k.block g (Row.lt hr g hg)) ih
/-- What CopyNode hands back. -/
def Copied (m : Nd) (w : World) (e : Ending) (w' : World) : Prop := ∃ m', e = .returned (.agg m'.vals) ∧ Lies w' m' ∧ Twin m m' ∧ Sp m' (fun b => w.heap.size ≤ b ∧ b < w'.heap.size) ∧ OwnT w' m' ∧ Below w.heap.size w w'
/-- So many have been copied. -/
structure Cpd (W wr : World) (v : Value) (ks L : List Nd) (i : Nat) (Q : Nat → Nat → Prop) : Prop where
  l : L.length = i
  r : RN W wr v L
  b : ∀ j (h1 : j < ks.length) (h2 : j < L.length), Twin ks[j] L[j]
  y : ∀ j (h : j < L.length), Lies wr L[j] ∧ Sp L[j] (Q j) ∧ OwnT wr L[j]
  q : ∀ j b, Q j b → W.heap.size ≤ b ∧ b < wr.heap.size ∧ v.ownBlock ≠ some b
  d : ∀ i j b, Q i b → Q j b → i = j
  z : ∀ j b, L.length ≤ j → ¬ Q j b
theorem Cpd.hid {W wr : World} {v : Value} {ks L : List Nd} {i : Nat} {Q : Nat → Nat → Prop} (h : Cpd W wr v ks L i Q) : Hid (Cpd W wr v ks L i Q) := h
/-- One more. -/
theorem Cpd.snoc {W wr w1 w2 : World} {v v' : Value} {ks L : List Nd} {i : Nat} {k' : Nd} {Q : Nat → Nat → Prop} (h : Cpd W wr v ks L i Q) (hi : i < ks.length) (hb1 : Below wr.heap.size wr w1) (hk1 : Lies w1 k') (hk2 : Twin ks[i] k') (hk3 : Sp k' (fun b => wr.heap.size ≤ b ∧ b < w1.heap.size)) (hk4 : OwnT w1 k')
    (hr : RN W w2 v' (L ++ [k'])) (hs : w1.heap.size ≤ w2.heap.size) (hk : ∀ b, b < w1.heap.size → v.ownBlock ≠ some b → w2.heap[b]? = w1.heap[b]?) (hq : v'.ownBlock = v.ownBlock ∨ ∃ g, v'.ownBlock = some g ∧ w1.heap.size < g) :
    Cpd W w2 v' ks (L ++ [k']) (i + 1) (fun j b => Q j b ∨ (j = i ∧ wr.heap.size ≤ b ∧ b < w1.heap.size)) := by
  have hW := h.r.B.size
  have hS1 := hb1.size
  have hne : ∀ b, b < w1.heap.size → v.ownBlock ≠ some b → v'.ownBlock ≠ some b := fun b hb hn e => by
    rcases hq with e1 | ⟨g, e1, hg⟩
    · exact hn (e1.symm.trans e)
    · rw [e1] at e; cases e; omega
  have hv : ∀ b, wr.heap.size ≤ b → v.ownBlock ≠ some b := fun b hb e => by have := h.r.row.lt b e; omega
  have hli := h.l
  refine ⟨by rw [List.length_append, h.l]; rfl, hr, fun j h1 h2 => ?_, fun j hj => ?_, fun j b hb => ?_, fun a c b h1 h2 => ?_, fun j b hj hb => ?_⟩
  · by_cases hj : j < L.length
    · rw [List.getElem_append_left hj]; exact h.b j h1 hj
    · have e : j = L.length := by rw [List.length_append] at h2; simp at h2; omega
      subst e
      rw [List.getElem_append_right (by omega)]
      simp only [Nat.sub_self, List.getElem_singleton]
      have e3 : ks[L.length] = ks[i] := by congr 1
      rw [e3]; exact hk2
  · by_cases hj' : j < L.length
    · rw [List.getElem_append_left hj']
      obtain ⟨y1, y2, y4⟩ := h.y j hj'
      have y3 : Lies w1 L[j] := y1.on hb1
      refine ⟨y3.bk (fun b hb hp => hk b hb (h.q j b hp).2.2) y2.bk, y2.mono fun b hp => .inl hp, (y4.on hb1).bk (fun b hb hp => hk b hb (h.q j b hp).2.2) y2.bk⟩
    · have e : j = L.length := by rw [List.length_append] at hj; simp at hj; omega
      subst e
      rw [List.getElem_append_right (by omega)]
      simp only [Nat.sub_self, List.getElem_singleton]
      exact ⟨hk1.bk (fun b hb hp => hk b hb (hv b hp.1)) hk3.bk, hk3.mono fun b hp => .inr ⟨hli, hp⟩, hk4.bk (fun b hb hp => hk b hb (hv b hp.1)) hk3.bk⟩
  · rcases hb with hb | ⟨_, hb⟩
    · obtain ⟨q1, q2, q3⟩ := h.q j b hb
      exact ⟨q1, by omega, hne b (by omega) q3⟩
    · exact ⟨by omega, by omega, hne b hb.2 (hv b hb.1)⟩
  · rcases h1 with h1 | ⟨e1, h1⟩ <;> rcases h2 with h2 | ⟨e2, h2⟩
    · exact h.d a c b h1 h2
    · have := (h.q a b h1).2.1; omega
    · have := (h.q c b h2).2.1; omega
    · omega
  · rw [List.length_append] at hj
    simp at hj
    rcases hb with hb | ⟨e, _⟩
    · exact h.z j b (by omega) hb
    · omega
/-- A list that has been copied, as a node's kids. -/
theorem Cpd.nd {W wr : World} {v : Value} {ks L : List Nd} {g : Hd} {a : Option Addr} {c : Nat} {Q : Nat → Nat → Prop} (h : Cpd W wr v ks L ks.length Q) (hr : Rg g) : ∃ a' c', v = .slice a' L.length c' ∧ Lies wr (.mk g a' c' L) ∧ Twin (.mk g a c ks) (.mk g a' c' L) ∧ Sp (.mk g a' c' L) (fun b => W.heap.size ≤ b ∧ b < wr.heap.size) ∧ OwnT wr (.mk g a' c' L) := by
  have hown : ∀ k ∈ L, OwnT wr k := fun k hk => by
    obtain ⟨i, hi, rfl⟩ := List.getElem_of_mem hk
    exact (h.y i hi).2.2
  have hrow := h.r.row
  have hlies : ∀ k ∈ L, Lies wr k := fun k hk => by
    obtain ⟨i, hi, rfl⟩ := List.getElem_of_mem hk
    exact (h.y i hi).1
  rcases h.r.row.lies with ⟨rfl, e⟩ | ⟨b, cap, rfl, hc1, hc2, hat⟩
  · subst e
    exact ⟨none, 0, rfl, .mk _ _ _ _ hr (Nat.le_refl _) (by decide) (fun i hi => by simp at hi) (fun k hk => by cases hk), .mk _ _ _ _ _ _ _ h.l (fun i h1 h2 => by simp at h2), .mk _ _ _ _ _ Q (fun x e => by cases e) (fun i hi => by simp at hi) h.d (fun i b hb => ⟨(h.q i b hb).1, (h.q i b hb).2.1⟩), .mk _ _ _ _ hrow hown⟩
  · refine ⟨_, cap, rfl, .mk _ _ _ _ hr hc1 hc2 (fun i hi => ⟨b, 0, rfl, by rw [← ldF_get hi]; exact hat i hi⟩) hlies, .mk _ _ _ _ _ _ _ h.l (fun i h1 h2 => h.b i h1 h2), .mk _ _ _ _ _ Q (fun x e => ?_) (fun i hi => (h.y i hi).2.1) h.d (fun i b hb => ⟨(h.q i b hb).1, (h.q i b hb).2.1⟩), .mk _ _ _ _ hrow hown⟩
    cases e
    exact ⟨⟨h.r.nb b rfl, h.r.row.lt b rfl⟩, rfl, rfl, fun i hq => (h.q i b hq).2.2 rfl⟩
set_option maxRecDepth 100000 in
set_option maxHeartbeats 4000000 in
theorem copy_any : ∀ (m : Nd) (w : World), Lies w m → size m ≤ 900000000 → Calls Tryd.prog 20 #[.agg m.vals] w (Copied m w) := by
  refine Nd.ind fun h a c ks ih w hl hz => ?_
  have hn : ks.length ≤ 900000000 := by have := len_sizes ks; simp only [size] at hz; omega
  obtain ⟨W, eW⟩ : ∃ W, (w.alloc (.cells (Nd.mk h a c ks).vals 28)).alloc (.cells #[.int .u8 0, .int .u8 0, .int .u8 0, .int .i64 0, .int .u8 0, .string ⟨#[]⟩, .slice none 0 0, .int .i64 0] 28) = W := ⟨_, rfl⟩
  have hbW : Below w.heap.size w W := by rw [← eW]; exact below_two _ _ _
  have HI : Hid (∀ k ∈ ks, ∀ (w : World), Lies w k → Calls Tryd.prog 20 #[.agg k.vals] w (Copied k w)) := fun k hk v hv => ih k hk v hv (Nat.le_trans (size_kid hk) hz)
  have h0 : NdH W w.heap.size (.mk h a c ks) := by rw [← eW]; exact heap_old (heap_new _ _) (by rw [size_alloc]; omega)
  have h1 : W.heap[w.heap.size + 1]? = some (.cells #[.int .u8 0, .int .u8 0, .int .u8 0, .int .i64 0, .int .u8 0, .string ⟨#[]⟩, .slice none 0 0, .int .i64 0] 28 (0, 0)) := by
    rw [← eW, ← size_alloc w (.cells (Nd.mk h a c ks).vals 28)]; exact heap_new _ _
  have HBW : Hid (Below w.heap.size w W) := hbW
  have HL : Hid (Lies W (.mk h a c ks)) := hl.on hbW
  have HRg : Hid (Rg h) := hl.rg
  have HWS : Hid (W.heap.size = w.heap.size + 2) := by show _ = _; rw [← eW, size_alloc, size_alloc]
  have H0 := h0.hid
  have H1 : Hid (W.heap[w.heap.size + 1]? = some (.cells #[.int .u8 0, .int .u8 0, .int .u8 0, .int .i64 0, .int .u8 0, .string ⟨#[]⟩, .slice none 0 0, .int .i64 0] 28 (0, 0))) := h1
  have HN : Hid (ks.length ≤ 900000000) := hn
  clear ih hl hz hn hbW h0 h1
  unfold Nd.vals hdA at eW
  show Calls Tryd.prog 20 #[.agg #[.int .u8 h.k, .int .u8 h.o, .int .u8 h.t, .int .i64 h.n, .int .u8 h.f, .string h.x, .slice a ks.length c, .int .i64 h.p]] w _
  simp only [Nd.h, Nd.a, Nd.c, Nd.ks] at eW
  go_enter Tryd.func20, Tryd.ntmps20
  go_wp2_with fail
  clear eW
  go_loopw [3, 4] (fun v t wr => ∃ (i : Nat) (L : List Nd) (Q : Nat → Nat → Prop), i ≤ ks.length ∧ t = .int .i64 i ∧ Hid (Cpd W wr v ks L i Q)) (fun _ t _ => ks.length - (intOf t).toNat)
  case atStart => exact ⟨0, [], fun _ _ => False, by omega, rfl, rfl, RN.nil W, fun j h1 h2 => by simp at h2, fun j hj => by simp at hj, fun j b hb => hb.elim, fun i j b hb => hb.elim, fun j b _ hb => hb⟩
  case round =>
    obtain ⟨i, L, Q, hi, rfl, HT⟩ := hrel
    have hN : NdH wr w.heap.size (.mk h a c ks) := H0.out.on HT.out.r.B
    have q6 : wr.cell? ⟨w.heap.size, 6, none⟩ = some (.slice a ks.length c) := cell_of hN 6
    have HNr := hN.hid
    clear hN
    by_cases hlt : i < ks.length
    · have hlt' : (i : Int) < (ks.length : Int) := by omega
      obtain ⟨b, o, e1, hat⟩ := (HL.out.on HT.out.r.B).kid i hlt
      have e2 : a = some ⟨b, o, none⟩ := e1
      have hk1 : NdAt wr b (o + i * 8) ks[i] := hat
      have cI := HI.out ks[i] (nth_mem hlt) wr ((HL.out.sub ks[i] (nth_mem hlt)).on HT.out.r.B)
      obtain ⟨k, ek⟩ : ∃ k, ks[i] = k := ⟨_, rfl⟩
      rw [ek] at hk1 cI
      rw [e2] at q6
      obtain ⟨y0, y1, y2, y3, y4, y5, y6, y7⟩ := hk1
      unfold Nd.vals hdA at cI
      have HEK : Hid (ks[i] = k) := ek
      clear ek e1 e2 hat
      go_wp2_with fail
      refine cI.mono ?_
      rintro e w1 ⟨k', rfl, hk1, hk2, hk3, hk4, hb1⟩
      have HB1 : Hid (Below wr.heap.size wr w1) := hb1
      have HR1 : Hid (RN W w1 u3 L) := HT.out.r.call hb1
      have HLn : Hid (L.length ≤ 1000000000) := by have h1 := HN.out; have h2 := HT.out.l; show _ ≤ _; omega
      have HK1 : Hid (Lies w1 k') := hk1
      have HK2 : Hid (Twin k k') := hk2
      have HK3 : Hid (Sp k' (fun b => wr.heap.size ≤ b ∧ b < w1.heap.size)) := hk3
      have hmx : (i : Int) + 1 ≤ 9223372036854775807 := by have := HN.out; omega
      have HK4 : Hid (OwnT w1 k') := hk4
      clear hk1 hk2 hk3 hk4 hb1 cI y0 y1 y2 y3 y4 y5 y6 y7 q6
      unfold Nd.vals hdA
      go_wp2_with (at_builtin; refine append_node rfl (.tmp 12) (.tmp 19) rfl k' HR1.out rfl rfl HLn.out ?_; intro v1 w2 hr2 hs2 hq2 hz2; have HX : Hid (Cpd W w2 v1 ks (L ++ [k']) (i + 1) (fun j b => Q j b ∨ (j = i ∧ wr.heap.size ≤ b ∧ b < w1.heap.size))) := HT.out.snoc hlt HB1.out HK1.out (by rw [HEK.out]; exact HK2.out) HK3.out HK4.out hr2 hs2 hq2 hz2; clear hr2 hs2 hq2 hz2)
      exact ⟨⟨i + 1, L ++ [k'], _, hlt, rfl, HX⟩, by simp only [intOf]; omega⟩
    · obtain rfl : i = ks.length := by omega
      have hnot : ¬ (ks.length : Int) < (ks.length : Int) := by omega
      have hb1 : Below W.heap.size W wr := HT.out.r.B
      obtain ⟨a', c', rfl, hL1, hL2, hL3, hL4⟩ := HT.out.nd (g := h) (a := a) (c := c) HRg.out
      have g0 : NdH wr w.heap.size (.mk h a c ks) := HNr.out
      have g1 := (hb1.block (w.heap.size + 1) (Array.getElem?_eq_some_iff.1 H1.out).1).trans H1.out
      obtain ⟨U, eU⟩ : ∃ U, wr.setCell ⟨w.heap.size, 6, none⟩ (.slice a' L.length c') = U := ⟨_, rfl⟩
      have u0 : NdH U w.heap.size (.mk h a' c' L) := by rw [← eU]; exact heap_set _ g0
      have u1 : U.heap[w.heap.size + 1]? = some (.cells #[.int .u8 0, .int .u8 0, .int .u8 0, .int .i64 0, .int .u8 0, .string ⟨#[]⟩, .slice none 0 0, .int .i64 0] 28 (0, 0)) := by
        rw [← eU]; exact (Below.heap_setCell _ _ _ _ (by simp)).trans g1
      have f6 : wr.frozen? ⟨w.heap.size, 6, none⟩ = false := frozen_of g0 6
      have HU1 : Hid (U.heap[w.heap.size + 1]? = some (.cells #[.int .u8 0, .int .u8 0, .int .u8 0, .int .i64 0, .int .u8 0, .string ⟨#[]⟩, .slice none 0 0, .int .i64 0] 28 (0, 0))) := u1
      have q0x : U.cell? ⟨w.heap.size, 0, none⟩ = some (.int .u8 h.k) := cell_of u0 0
      have q1x : U.cell? ⟨w.heap.size, 1, none⟩ = some (.int .u8 h.o) := cell_of u0 1
      have q2x : U.cell? ⟨w.heap.size, 2, none⟩ = some (.int .u8 h.t) := cell_of u0 2
      have q3x : U.cell? ⟨w.heap.size, 3, none⟩ = some (.int .i64 h.n) := cell_of u0 3
      have q4x : U.cell? ⟨w.heap.size, 4, none⟩ = some (.int .u8 h.f) := cell_of u0 4
      have q5x : U.cell? ⟨w.heap.size, 5, none⟩ = some (.string h.x) := cell_of u0 5
      have q6x : U.cell? ⟨w.heap.size, 6, none⟩ = some (.slice a' L.length c') := cell_of u0 6
      have q7x : U.cell? ⟨w.heap.size, 7, none⟩ = some (.int .i64 h.p) := cell_of u0 7
      have p0 : U.cell? ⟨w.heap.size + 1, 0, none⟩ = some (.int .u8 0) := cell_of u1 0
      have r0 : U.frozen? ⟨w.heap.size + 1, 0, none⟩ = false := frozen_of u1 0
      have p1 : U.cell? ⟨w.heap.size + 1, 1, none⟩ = some (.int .u8 0) := cell_of u1 1
      have r1 : U.frozen? ⟨w.heap.size + 1, 1, none⟩ = false := frozen_of u1 1
      have p2 : U.cell? ⟨w.heap.size + 1, 2, none⟩ = some (.int .u8 0) := cell_of u1 2
      have r2 : U.frozen? ⟨w.heap.size + 1, 2, none⟩ = false := frozen_of u1 2
      have p3 : U.cell? ⟨w.heap.size + 1, 3, none⟩ = some (.int .i64 0) := cell_of u1 3
      have r3 : U.frozen? ⟨w.heap.size + 1, 3, none⟩ = false := frozen_of u1 3
      have p4 : U.cell? ⟨w.heap.size + 1, 4, none⟩ = some (.int .u8 0) := cell_of u1 4
      have r4 : U.frozen? ⟨w.heap.size + 1, 4, none⟩ = false := frozen_of u1 4
      have p5 : U.cell? ⟨w.heap.size + 1, 5, none⟩ = some (.string ⟨#[]⟩) := cell_of u1 5
      have r5 : U.frozen? ⟨w.heap.size + 1, 5, none⟩ = false := frozen_of u1 5
      have p6 : U.cell? ⟨w.heap.size + 1, 6, none⟩ = some (.slice none 0 0) := cell_of u1 6
      have r6 : U.frozen? ⟨w.heap.size + 1, 6, none⟩ = false := frozen_of u1 6
      have p7 : U.cell? ⟨w.heap.size + 1, 7, none⟩ = some (.int .i64 0) := cell_of u1 7
      have r7 : U.frozen? ⟨w.heap.size + 1, 7, none⟩ = false := frozen_of u1 7
      have HBU : Hid (Below w.heap.size w U) := by
        show Below _ _ _
        rw [← eU]; exact (below2 HBW.out hb1).setCell (p := ⟨w.heap.size, 6, none⟩) (Nat.le_refl _) _
      have hWs : W.heap.size = w.heap.size + 2 := HWS.out
      have HLU : Hid (Lies U (.mk h a' c' L)) := by
        refine hL1.bk (P := fun b => W.heap.size ≤ b ∧ b < wr.heap.size) (fun b _ hp => ?_) hL3.bk
        rw [← eU]; exact Below.heap_setCell _ _ _ _ (by show b ≠ w.heap.size; omega)
      have HLO : Hid (OwnT U (.mk h a' c' L)) := by
        refine hL4.bk (P := fun b => W.heap.size ≤ b ∧ b < wr.heap.size) (fun b _ hp => ?_) hL3.bk
        rw [← eU]; exact Below.heap_setCell _ _ _ _ (by show b ≠ w.heap.size; omega)
      have HL2 : Hid (Twin (.mk h a c ks) (.mk h a' c' L)) := hL2
      have HUs : Hid (U.heap.size = wr.heap.size) := by show _ = _; rw [← eU]; simp [World.setCell]
      have HL3 : Hid (Sp (.mk h a' c' L) (fun b => W.heap.size ≤ b ∧ b < wr.heap.size)) := hL3
      have HEU : Hid (wr.setCell ⟨w.heap.size, 6, none⟩ (.slice a' L.length c') = U) := eU
      clear hL1 hL2 hL3 hL4 hb1 g0 g1 u0 u1 eU
      obtain ⟨Y, eY, hY1, hY2, hY3, hY4⟩ := fin8 HU1.out (.int .u8 h.k) (.int .u8 h.o) (.int .u8 h.t) (.int .i64 h.n) (.int .u8 h.f) (.string h.x) (.slice a' L.length c') (.int .i64 h.p)
      have HY : Hid (Lies Y (.mk h a' c' L) ∧ Sp (.mk h a' c' L) (fun b => w.heap.size ≤ b ∧ b < Y.heap.size) ∧ OwnT Y (.mk h a' c' L) ∧ Below w.heap.size w Y) := by
        refine ⟨HLU.out.bk (P := fun b => W.heap.size ≤ b ∧ b < wr.heap.size) (fun b _ hp => hY3 b (by omega)) HL3.out.bk, HL3.out.mono fun b hp => ⟨by omega, by rw [hY2, HUs.out]; exact hp.2⟩, HLO.out.bk (P := fun b => W.heap.size ≤ b ∧ b < wr.heap.size) (fun b _ hp => hY3 b (by omega)) HL3.out.bk, hY4 _ _ HBU.out (by omega)⟩
      have HY1 : Hid (Y.heap[w.heap.size + 1]? = some (.cells (Nd.mk h a' c' L).vals 28 (0, 0))) := hY1
      have HEY : Hid (_ = Y) := eY
      clear eY hY1 hY2 hY3 hY4
      go_upto_region 7 with fail
      rw [HEU.out]
      clear f6 q6
      go_wp2_with fail
      rw [HEY.out]
      exact bodyPost_ret (results_cell_row rfl _ _ (w.heap.size + 1) 28 (Nd.mk h a' c' L).vals (0, 0) _ rfl HY1.out Tryd.underlying28 rfl (by kernel_rfl)) rfl ⟨.mk h a' c' L, rfl, HY.out.1, HL2.out, HY.out.2.1, HY.out.2.2.1, HY.out.2.2.2⟩
end Go.Proofs.YtighocmdlifheaaDoor

/-
  SameNode of an expression and its twin; Nodes: all nodes, a node ahead of its kids.
-/
namespace Go.Proofs.YtighocmdlifheaaDoor
open Go.RowKit
theorem Twin.self : ∀ m : Nd, Twin m m := Nd.ind fun h a c ks ih => .mk h a a c c ks ks rfl (fun _ h1 _ => ih _ (nth_mem h1))
theorem Twin.cut (m : Nd) : Twin (cutN m) m := by
  cases m with
  | mk h a c ks => exact .mk h a a _ c ks ks rfl (fun _ _ _ => Twin.self _)
set_option maxRecDepth 100000 in
set_option maxHeartbeats 8000000 in
theorem twin_any : ∀ (m k : Nd) (w : World), Twin m k → Lies w m → Lies w k → Calls Tryd.prog 18 #[.agg m.vals, .agg k.vals] w fun e w' => e = .returned (.bool true) ∧ Below w.heap.size w w' := by
  refine Nd.ind fun h a c ks ih k w ht hl hl' => ?_
  cases ht with
  | mk _ _ a' _ c' _ ks' hlen hk =>
  have HI : Hid (∀ j (h1 : j < ks.length) (h2 : j < ks'.length) (w : World), Lies w ks[j] → Lies w ks'[j] → Calls Tryd.prog 18 #[.agg ks[j].vals, .agg ks'[j].vals] w fun e w' => e = .returned (.bool true) ∧ Below w.heap.size w w') := fun j h1 h2 v hv hv' => ih _ (nth_mem h1) _ v (hk j h1 h2) hv hv'
  have HL := hl.hid
  have HL' := hl'.hid
  have HE : Hid (ks'.length = ks.length) := hlen
  show Calls Tryd.prog 18 #[.agg #[.int .u8 h.k, .int .u8 h.o, .int .u8 h.t, .int .i64 h.n, .int .u8 h.f, .string h.x, .slice a ks.length c, .int .i64 h.p], .agg #[.int .u8 h.k, .int .u8 h.o, .int .u8 h.t, .int .i64 h.n, .int .u8 h.f, .string h.x, .slice a' ks'.length c', .int .i64 h.p]] w _
  rw [hlen]
  clear ih hl hl' hk hlen
  go_enter Tryd.func18, Tryd.ntmps18
  go_wp2_with fail
  obtain ⟨W0, eW0⟩ : ∃ W0, (w.alloc (.cells #[.int .u8 h.k, .int .u8 h.o, .int .u8 h.t, .int .i64 h.n, .int .u8 h.f, .string h.x, .slice a ks.length c, .int .i64 h.p] 28)).alloc (.cells #[.int .u8 h.k, .int .u8 h.o, .int .u8 h.t, .int .i64 h.n, .int .u8 h.f, .string h.x, .slice a' ks.length c', .int .i64 h.p] 28) = W0 := ⟨_, rfl⟩
  have HB : Hid (Below w.heap.size w W0) := by rw [← eW0]; exact below_two _ _ _
  have HN0 : Hid (W0.heap[w.heap.size]? = some (.cells #[.int .u8 h.k, .int .u8 h.o, .int .u8 h.t, .int .i64 h.n, .int .u8 h.f, .string h.x, .slice a ks.length c, .int .i64 h.p] 28 (0, 0))) := by rw [← eW0]; exact heap_old (heap_new _ _) (by rw [size_alloc]; omega)
  have HN1 : Hid (W0.heap[w.heap.size + 1]? = some (.cells #[.int .u8 h.k, .int .u8 h.o, .int .u8 h.t, .int .i64 h.n, .int .u8 h.f, .string h.x, .slice a' ks.length c', .int .i64 h.p] 28 (0, 0))) := by rw [← eW0, ← size_alloc w (.cells #[.int .u8 h.k, .int .u8 h.o, .int .u8 h.t, .int .i64 h.n, .int .u8 h.f, .string h.x, .slice a ks.length c, .int .i64 h.p] 28)]; exact heap_new _ _
  rw [eW0]
  clear eW0
  go_loopw [5, 6] (fun t _ wr => ∃ i : Nat, i ≤ ks.length ∧ t = .int .i64 i ∧ Hid (Below W0.heap.size W0 wr)) (fun t _ _ => ks.length - (intOf t).toNat)
  case atStart => exact ⟨0, by omega, rfl, Below.refl _ _⟩
  case round =>
    obtain ⟨i, hi, rfl, HR⟩ := hrel
    have q0 : wr.heap[w.heap.size]? = some (.cells #[.int .u8 h.k, .int .u8 h.o, .int .u8 h.t, .int .i64 h.n, .int .u8 h.f, .string h.x, .slice a ks.length c, .int .i64 h.p] 28 (0, 0)) := (HR.out.block _ (Array.getElem?_eq_some_iff.1 HN0.out).1).trans HN0.out
    have q1 : wr.heap[w.heap.size + 1]? = some (.cells #[.int .u8 h.k, .int .u8 h.o, .int .u8 h.t, .int .i64 h.n, .int .u8 h.f, .string h.x, .slice a' ks.length c', .int .i64 h.p] 28 (0, 0)) := (HR.out.block _ (Array.getElem?_eq_some_iff.1 HN1.out).1).trans HN1.out
    have HQ0 : Hid (wr.heap[w.heap.size]? = some (.cells #[.int .u8 h.k, .int .u8 h.o, .int .u8 h.t, .int .i64 h.n, .int .u8 h.f, .string h.x, .slice a ks.length c, .int .i64 h.p] 28 (0, 0))) := q0
    have HQ1 : Hid (wr.heap[w.heap.size + 1]? = some (.cells #[.int .u8 h.k, .int .u8 h.o, .int .u8 h.t, .int .i64 h.n, .int .u8 h.f, .string h.x, .slice a' ks.length c', .int .i64 h.p] 28 (0, 0))) := q1
    have c6 : wr.cell? ⟨w.heap.size, 6, none⟩ = some (.slice a ks.length c) := cell_of q0 6
    have d6 : wr.cell? ⟨w.heap.size + 1, 6, none⟩ = some (.slice a' ks.length c') := cell_of q1 6
    clear q0 q1
    have HBr : Hid (Below w.heap.size w wr) := below2 HB.out HR.out
    by_cases hlt : i < ks.length
    · have hlt' : (i : Int) < (ks.length : Int) := by omega
      have hlt2 : i < ks'.length := by have := HE.out; omega
      obtain ⟨b, o, e1, hat⟩ := (HL.out.on HBr.out).kid i hlt
      have e1' : a = some ⟨b, o, none⟩ := e1
      have hk1 : NdAt wr b (o + i * 8) ks[i] := hat
      obtain ⟨b', o', e2, hat'⟩ := (HL'.out.on HBr.out).kid i hlt2
      have e2' : a' = some ⟨b', o', none⟩ := e2
      have hk2 : NdAt wr b' (o' + i * 8) ks'[i] := hat'
      have cI := fun v (hv : Below wr.heap.size wr v) => HI.out i hlt hlt2 v (((HL.out.sub _ (nth_mem hlt)).on HBr.out).on hv) (((HL'.out.sub _ (nth_mem hlt2)).on HBr.out).on hv)
      obtain ⟨k, ek⟩ : ∃ k, ks[i] = k := ⟨_, rfl⟩
      obtain ⟨k', ek'⟩ : ∃ k, ks'[i] = k := ⟨_, rfl⟩
      rw [ek] at hk1 cI
      rw [ek'] at hk2 cI
      have HK1 := hk1.hid
      have HK2 := hk2.hid
      have cI : ∀ v, Below wr.heap.size wr v → Calls Tryd.prog 18 #[.agg #[.int .u8 k.h.k, .int .u8 k.h.o, .int .u8 k.h.t, .int .i64 k.h.n, .int .u8 k.h.f, .string k.h.x, .slice k.a k.ks.length k.c, .int .i64 k.h.p], .agg #[.int .u8 k'.h.k, .int .u8 k'.h.o, .int .u8 k'.h.t, .int .i64 k'.h.n, .int .u8 k'.h.f, .string k'.h.x, .slice k'.a k'.ks.length k'.c, .int .i64 k'.h.p]] v fun e w' => e = .returned (.bool true) ∧ Below v.heap.size v w' := cI
      rw [e1'] at c6 HQ0
      rw [e2'] at d6 HQ1
      have HKP : Hid (∀ v, GB wr v → v.cell? ⟨w.heap.size, 6, none⟩ = some (.slice (some ⟨b, o, none⟩) ks.length c) ∧ v.cell? ⟨w.heap.size + 1, 6, none⟩ = some (.slice (some ⟨b', o', none⟩) ks.length c') ∧ v.cell? ⟨b, o + i * 8, none⟩ = some (.int .u8 k.h.k) ∧ v.cell? ⟨b, o + i * 8 + 1, none⟩ = some (.int .u8 k.h.o) ∧ v.cell? ⟨b, o + i * 8 + 2, none⟩ = some (.int .u8 k.h.t) ∧ v.cell? ⟨b, o + i * 8 + 3, none⟩ = some (.int .i64 k.h.n) ∧ v.cell? ⟨b, o + i * 8 + 4, none⟩ = some (.int .u8 k.h.f) ∧ v.cell? ⟨b, o + i * 8 + 5, none⟩ = some (.string k.h.x) ∧ v.cell? ⟨b, o + i * 8 + 6, none⟩ = some (.slice k.a k.ks.length k.c) ∧ v.cell? ⟨b, o + i * 8 + 7, none⟩ = some (.int .i64 k.h.p) ∧ v.cell? ⟨b', o' + i * 8, none⟩ = some (.int .u8 k'.h.k) ∧ v.cell? ⟨b', o' + i * 8 + 1, none⟩ = some (.int .u8 k'.h.o) ∧ v.cell? ⟨b', o' + i * 8 + 2, none⟩ = some (.int .u8 k'.h.t) ∧ v.cell? ⟨b', o' + i * 8 + 3, none⟩ = some (.int .i64 k'.h.n) ∧ v.cell? ⟨b', o' + i * 8 + 4, none⟩ = some (.int .u8 k'.h.f) ∧ v.cell? ⟨b', o' + i * 8 + 5, none⟩ = some (.string k'.h.x) ∧ v.cell? ⟨b', o' + i * 8 + 6, none⟩ = some (.slice k'.a k'.ks.length k'.c) ∧ v.cell? ⟨b', o' + i * 8 + 7, none⟩ = some (.int .i64 k'.h.p) ∧ GB wr v) := fun v hv => by
        have hk1' := HK1.out.on hv
        have hk2' := HK2.out.on hv
        exact ⟨cell_of ((hv.block _ (Array.getElem?_eq_some_iff.1 HQ0.out).1).trans HQ0.out) 6, cell_of ((hv.block _ (Array.getElem?_eq_some_iff.1 HQ1.out).1).trans HQ1.out) 6, hk1'.c0, hk1'.c1, hk1'.c2, hk1'.c3, hk1'.c4, hk1'.c5, hk1'.c6, hk1'.c7, hk2'.c0, hk2'.c1, hk2'.c2, hk2'.c3, hk2'.c4, hk2'.c5, hk2'.c6, hk2'.c7, hv⟩
      have hmx : (i : Int) + 1 ≤ 9223372036854775807 := by
        have h1 := HL.out.max
        have h2 := HL.out.cap
        simp only [Nd.ks, Nd.c] at h1 h2
        omega
      clear ek ek' e1 e2 e1' e2' hat hat' hk1 hk2
      go_upto_region 6 with fail
      go_region_held3 (fun v => v.cell? ⟨w.heap.size, 6, none⟩ = some (.slice (some ⟨b, o, none⟩) ks.length c) ∧ v.cell? ⟨w.heap.size + 1, 6, none⟩ = some (.slice (some ⟨b', o', none⟩) ks.length c') ∧ v.cell? ⟨b, o + i * 8, none⟩ = some (.int .u8 k.h.k) ∧ v.cell? ⟨b, o + i * 8 + 1, none⟩ = some (.int .u8 k.h.o) ∧ v.cell? ⟨b, o + i * 8 + 2, none⟩ = some (.int .u8 k.h.t) ∧ v.cell? ⟨b, o + i * 8 + 3, none⟩ = some (.int .i64 k.h.n) ∧ v.cell? ⟨b, o + i * 8 + 4, none⟩ = some (.int .u8 k.h.f) ∧ v.cell? ⟨b, o + i * 8 + 5, none⟩ = some (.string k.h.x) ∧ v.cell? ⟨b, o + i * 8 + 6, none⟩ = some (.slice k.a k.ks.length k.c) ∧ v.cell? ⟨b, o + i * 8 + 7, none⟩ = some (.int .i64 k.h.p) ∧ v.cell? ⟨b', o' + i * 8, none⟩ = some (.int .u8 k'.h.k) ∧ v.cell? ⟨b', o' + i * 8 + 1, none⟩ = some (.int .u8 k'.h.o) ∧ v.cell? ⟨b', o' + i * 8 + 2, none⟩ = some (.int .u8 k'.h.t) ∧ v.cell? ⟨b', o' + i * 8 + 3, none⟩ = some (.int .i64 k'.h.n) ∧ v.cell? ⟨b', o' + i * 8 + 4, none⟩ = some (.int .u8 k'.h.f) ∧ v.cell? ⟨b', o' + i * 8 + 5, none⟩ = some (.string k'.h.x) ∧ v.cell? ⟨b', o' + i * 8 + 6, none⟩ = some (.slice k'.a k'.ks.length k'.c) ∧ v.cell? ⟨b', o' + i * 8 + 7, none⟩ = some (.int .i64 k'.h.p) ∧ GB wr v)
        (exact HKP.out _ (by (repeat (first | with_reducible assumption | with_reducible exact GB.refl _ | with_reducible apply GB.drew | with_reducible apply GB.alloc | with_reducible refine GB.call (by with_reducible assumption) ?_))))
        (first | (go_at_call 18; refine (cI _ ((Below.refl _ _).drew)).mono ?_; rintro e w6 ⟨rfl, hb6⟩))
      all_goals (
        have HB6 : Hid (Below W0.heap.size W0 w6) := below2 HR.out (below2 (Below.refl _ _).drew hb6)
        clear hb6
        go_wp2_with fail
        exact ⟨⟨i + 1, hlt, rfl, HB6⟩, by simp only [intOf]; omega⟩)
    · obtain rfl : i = ks.length := by omega
      have hnot : ¬ (ks.length : Int) < (ks.length : Int) := by omega
      go_wp2_with fail
      go_ret
      exact ⟨rfl, HBr.out⟩
theorem pres_append (a b : List Nd) : pres (a ++ b) = pres a ++ pres b := by
  induction a with
  | nil => simp [pres]
  | cons k a ih => simp only [List.cons_append, pres, ih, List.append_assoc]
theorem pres_take {ks : List Nd} {i : Nat} (hi : i < ks.length) : pres (ks.take (i + 1)) = pres (ks.take i) ++ pre ks[i] := by
  rw [List.take_add_one, pres_append, List.getElem?_eq_getElem hi]
  simp [pres]
theorem pres_len : ∀ ks : List Nd, (pres ks).length = sizes ks
  | [] => rfl
  | k :: ks => by simp only [pres, sizes, List.length_append, pres_len ks, size_pre]
theorem sizes_take' {ks : List Nd} {i : Nat} (hi : i < ks.length) : sizes (ks.take i) + size ks[i] ≤ sizes ks := by
  rw [← pres_len, ← pres_len, ← size_pre, ← List.length_append, ← pres_take hi]
  have := congrArg List.length (pres_append (ks.take (i + 1)) (ks.drop (i + 1)))
  rw [List.take_append_drop, List.length_append] at this
  omega
/-- A list has grown; all else is as it was. -/
structure Grw (w w' : World) (v v' : Value) : Prop where
  s : w.heap.size ≤ w'.heap.size
  k : ∀ b, b < w.heap.size → v.ownBlock ≠ some b → w'.heap[b]? = w.heap[b]?
  o : v'.ownBlock = v.ownBlock ∨ ∃ g, v'.ownBlock = some g ∧ w.heap.size ≤ g
theorem Grw.refl (w : World) (v : Value) : Grw w w v v := ⟨Nat.le_refl _, fun _ _ _ => rfl, .inl rfl⟩
theorem Grw.ne {w w' : World} {v v' : Value} (h : Grw w w' v v') {b : Nat} (hb : b < w.heap.size) (hn : v.ownBlock ≠ some b) : v'.ownBlock ≠ some b := fun e => by
  rcases h.o with e1 | ⟨g, e1, hg⟩
  · exact hn (e1.symm.trans e)
  · rw [e1] at e; cases e; omega
theorem Grw.trans {w1 w2 w3 : World} {v1 v2 v3 : Value} (h : Grw w1 w2 v1 v2) (k : Grw w2 w3 v2 v3) : Grw w1 w3 v1 v3 := by
  refine ⟨Nat.le_trans h.s k.s, fun b hb hn => (k.k b (Nat.lt_of_lt_of_le hb h.s) (h.ne hb hn)).trans (h.k b hb hn), ?_⟩
  rcases k.o with e | ⟨g, e, hg⟩
  · rcases h.o with e1 | ⟨g, e1, hg⟩
    · exact .inl (e.trans e1)
    · exact .inr ⟨g, e.trans e1, hg⟩
  · exact .inr ⟨g, e, Nat.le_trans h.s hg⟩
set_option maxRecDepth 100000 in
set_option maxHeartbeats 4000000 in
theorem below_any : ∀ (m : Nd) (W w : World) (v : Value) (L : List Nd), Lies W m → RN W w v L → L.length + size m ≤ 900000000 → Calls Tryd.prog 42 #[v, .agg m.vals] w fun e w' => ∃ v', e = .returned v' ∧ RN W w' v' (L ++ pre m) ∧ Grw w w' v v' := by
  refine Nd.ind fun h a c ks ih W w v L hl hr hz => ?_
  have HI : Hid (∀ k ∈ ks, ∀ (W w : World) (v : Value) (L : List Nd), Lies W k → RN W w v L → L.length + size k ≤ 900000000 → Calls Tryd.prog 42 #[v, .agg k.vals] w fun e w' => ∃ v', e = .returned v' ∧ RN W w' v' (L ++ pre k) ∧ Grw w w' v v') := ih
  have HL := hl.hid
  have HZ : Hid (L.length + size (.mk h a c ks) ≤ 900000000) := hz
  have HR : Hid (RN W (w.alloc (.cells (Nd.mk h a c ks).vals 28)) v L) := hr.alloc _
  have HLn : Hid (L.length ≤ 1000000000) := by show _ ≤ _; simp only [size] at hz; omega
  have HNO : Hid (v.ownBlock ≠ some w.heap.size) := fun e => by have := hr.row.lt _ e; omega
  clear ih hl hr hz
  show Calls Tryd.prog 42 #[v, .agg #[.int .u8 h.k, .int .u8 h.o, .int .u8 h.t, .int .i64 h.n, .int .u8 h.f, .string h.x, .slice a ks.length c, .int .i64 h.p]] w _
  unfold Nd.vals hdA at HR
  go_enter Tryd.func42, Tryd.ntmps42
  go_wp2_with (at_builtin; refine append_node rfl (.tmp 6) (.tmp 8) rfl (.mk h a c ks) HR.out rfl (by show Value.slice (some ⟨w.heap.size + 1, 0, none⟩) 1 1 = _; rw [size_alloc]) HLn.out ?_; intro v1 w2 hr2 hs2 hq2 hz2; have HX := hr2.hid; have HS2 : Hid (w2.heap[w.heap.size]? = some (.cells #[.int .u8 h.k, .int .u8 h.o, .int .u8 h.t, .int .i64 h.n, .int .u8 h.f, .string h.x, .slice a ks.length c, .int .i64 h.p] 28 (0, 0))) := (hq2 w.heap.size (by rw [size_alloc]; omega) (HNO.out)).trans (heap_new _ _); have HG2 : Hid (Grw w w2 v v1 ∧ v1.ownBlock ≠ some w.heap.size ∧ w.heap.size < w2.heap.size) := (by have s1 := size_alloc w (.cells (Nd.mk h a c ks).vals 28); exact ⟨⟨by rw [size_alloc] at hs2; omega, fun b hb hn => (hq2 b (by rw [size_alloc]; omega) hn).trans (Below.heap_alloc _ _ _ hb), hz2.elim .inl (fun ⟨g, e, hg⟩ => .inr ⟨g, e, by rw [size_alloc] at hg; omega⟩)⟩, fun e => (by rcases hz2 with e1 | ⟨g, e1, hg⟩; exact HNO.out (e1.symm.trans e); (rw [e1] at e; cases e; rw [size_alloc] at hg; omega)), by rw [size_alloc] at hs2; omega⟩); clear hr2 hs2 hq2 hz2)
  have HB2 : Hid (Below W.heap.size W w2) := HX.out.B
  go_loopw [0, 5] (fun v t wr => ∃ i : Nat, i ≤ ks.length ∧ t = .int .i64 i ∧ Hid (RN W wr v (L ++ .mk h a c ks :: pres (ks.take i))) ∧ Hid (Grw w2 wr v1 v)) (fun _ t _ => ks.length - (intOf t).toNat)
  case atStart => exact ⟨0, by omega, rfl, HX, Grw.refl _ _⟩
  case round =>
    obtain ⟨i, hi, rfl, HRr, HGr⟩ := hrel
    have HSr : Hid (wr.heap[w.heap.size]? = some (.cells #[.int .u8 h.k, .int .u8 h.o, .int .u8 h.t, .int .i64 h.n, .int .u8 h.f, .string h.x, .slice a ks.length c, .int .i64 h.p] 28 (0, 0))) := (HGr.out.k _ HG2.out.2.2 HG2.out.2.1).trans HS2.out
    have q6 : wr.cell? ⟨w.heap.size, 6, none⟩ = some (.slice a ks.length c) := cell_of HSr.out 6
    by_cases hlt : i < ks.length
    · have hlt' : (i : Int) < (ks.length : Int) := by omega
      obtain ⟨b, o, e1, hat⟩ := (HL.out.on HRr.out.B).kid i hlt
      have e1' : a = some ⟨b, o, none⟩ := e1
      have hk1 : NdAt wr b (o + i * 8) ks[i] := hat
      have cI := HI.out ks[i] (nth_mem hlt) W wr u0 _ (HL.out.sub _ (nth_mem hlt)) HRr.out (by
        have h1 := HZ.out
        have h2 := sizes_take' hlt
        simp only [size] at h1
        rw [List.length_append, List.length_cons, pres_len]
        omega)
      obtain ⟨k, ek⟩ : ∃ k, ks[i] = k := ⟨_, rfl⟩
      have HE : Hid (L ++ .mk h a c ks :: pres (ks.take i) ++ pre k = L ++ .mk h a c ks :: pres (ks.take (i + 1))) := by
        show _ = _
        rw [pres_take hlt, ek, List.append_assoc, List.cons_append]
      rw [ek] at hk1 cI
      rw [e1'] at q6
      obtain ⟨y0, y1, y2, y3, y4, y5, y6, y7⟩ := hk1
      unfold Nd.vals hdA at cI
      have hmx : (i : Int) + 1 ≤ 9223372036854775807 := by
        have h1 := HL.out.max
        have h2 := HL.out.cap
        simp only [Nd.ks, Nd.c] at h1 h2
        omega
      clear ek e1 e1' hat
      go_wp2_with fail
      refine cI.mono ?_
      rintro e w5 ⟨v5, rfl, hr5, hg5⟩
      have HR5 : Hid (RN W w5 v5 (L ++ .mk h a c ks :: pres (ks.take (i + 1)))) := by rw [← HE.out]; exact hr5
      have HG5 : Hid (Grw w2 w5 v1 v5) := HGr.out.trans hg5
      clear hr5 hg5 cI y0 y1 y2 y3 y4 y5 y6 y7 q6
      go_wp2_with fail
      exact ⟨⟨i + 1, hlt, rfl, HR5, HG5⟩, by simp only [intOf]; omega⟩
    · obtain rfl : i = ks.length := by omega
      have hnot : ¬ (ks.length : Int) < (ks.length : Int) := by omega
      go_wp2_with fail
      go_ret
      exact ⟨_, rfl, by have := HRr.out; rw [List.take_length] at this; exact this, HG2.out.1.trans HGr.out⟩
set_option maxRecDepth 100000 in
theorem nodes_any (m : Nd) (w : World) (hl : Lies w m) (hz : size m ≤ 900000000) : Calls Tryd.prog 16 #[.agg m.vals] w fun e w' => ∃ v', e = .returned v' ∧ RN w w' v' (pre m) := by
  have c := below_any m w (w.alloc (.cells m.vals 28)) (.slice none 0 0) [] hl ((RN.nil w).alloc _) (by simpa using hz)
  unfold Nd.vals hdA at c ⊢
  go_enter Tryd.func16, Tryd.ntmps16
  go_wp2_with fail
  refine c.mono ?_
  rintro e w1 ⟨v', rfl, hr, _⟩
  go_wp2_with fail
  go_ret
  exact ⟨_, rfl, hr⟩
end Go.Proofs.YtighocmdlifheaaDoor
