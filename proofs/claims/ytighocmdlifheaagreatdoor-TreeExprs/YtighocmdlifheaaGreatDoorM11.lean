import Derived.Test.YtighocmdlifheaaGreatDoorM10
import Derived.Test.YtighocmdlifheaaGreatDoorM8
import Derived.Test.YtighocmdlifheaaGreatDoorDp
import Derived.Laws.MakeOwn
import Derived.Deep.MidRow
import Derived.Test.YtighocmdlifheaaGreatDoorM1
/-
  LendNode: a copy each of whose lists has two things of room behind, that have marks.
-/
namespace Go.Proofs.YtighocmdlifheaaGreatDoor
open Go.RowKit
set_option linter.unusedVariables false
set_option linter.unusedSimpArgs false
theorem below_row {w V : World} (h : Below w.heap.size w V) {R : Nat} (hR : w.heap.size ≤ R) (cs : Array Value) : Below w.heap.size w (V.setRow R cs) := by
  have hsz : (V.setRow R cs).heap.size = V.heap.size := by unfold World.setRow; simp
  exact ⟨h.os, h.tape, h.output, by rw [hsz]; exact h.size, fun k hk => by rw [setRow_other _ _ _ _ (show k ≠ R by omega)]; exact h.block k hk⟩
/-- An expression that was lent: where its lists lie, with marks behind them. -/
inductive Lnt (w : World) (lo : Nat) : Nd → Prop
  | mk (h : Hd) (b c : Nat) (ks : List Nd) (hr : Rg h) (hc : c = ks.length + 2) (hm : ks.length ≤ 1000000000000) (hb : lo ≤ b)
      (m0 : w.cell? ⟨b, ks.length * 8 + 7, none⟩ = some (.int .i64 (-771))) (m1 : w.cell? ⟨b, (ks.length + 1) * 8 + 7, none⟩ = some (.int .i64 (-772)))
      (hk : ∀ i (hi : i < ks.length), NdAt w b (i * 8) ks[i]) (hs : ∀ k ∈ ks, Lnt w lo k) : Lnt w lo (.mk h (some ⟨b, 0, none⟩) c ks)
theorem Lnt.lies {w : World} {lo : Nat} {m : Nd} (h : Lnt w lo m) : Lies w m := by
  induction h with
  | mk h b c ks hr hc hm hb m0 m1 hk hs ih =>
    refine .mk h _ c ks hr (by omega) (by omega) (fun i hi => ⟨b, 0, rfl, ?_⟩) ih
    rw [Nat.zero_add]
    exact hk i hi
theorem Lnt.blk {w w' : World} {lo : Nat} {m : Nd} (h : Lnt w lo m) (k : ∀ b, lo ≤ b → b < w.heap.size → w'.heap[b]? = w.heap[b]?) : Lnt w' lo m := by
  induction h with
  | mk h b c ks hr hc hm hb m0 m1 hk hs ih =>
    have e := k b hb (World.block_lt_of_cell? w _ m0)
    exact .mk h b c ks hr hc hm hb (by rw [World.cell?_of_block e]; exact m0) (by rw [World.cell?_of_block e]; exact m1) (fun i hi => (hk i hi).blk e) ih
theorem Lnt.on {w w' : World} {lo : Nat} {m : Nd} (h : Lnt w lo m) (k : Below w.heap.size w w') : Lnt w' lo m := h.blk fun b _ hb => k.block b hb
theorem Lnt.lo {w : World} {lo lo' : Nat} {m : Nd} (h : Lnt w lo m) (k : lo' ≤ lo) : Lnt w lo' m := by
  induction h with
  | mk h b c ks hr hc hm hb m0 m1 hk hs ih => exact .mk h b c ks hr hc hm (Nat.le_trans k hb) m0 m1 hk ih
theorem below_cellsL {w : World} {B R : Nat} (hR : B ≤ R) : ∀ (cs : List Value) (o : Nat) {V : World}, Below B w V → Below B w (V.setCells R o cs)
  | [], _, _, h => h
  | v :: r, o, V, h => by
    rw [World.setCells]
    exact below_cellsL hR r (o + 1) (h.setCell hR v)
theorem heap_cellsL (R : Nat) : ∀ (cs : List Value) (o : Nat) (V : World) (b : Nat), b ≠ R → (V.setCells R o cs).heap[b]? = V.heap[b]?
  | [], _, _, _, _ => rfl
  | v :: r, o, V, b, h => by
    rw [World.setCells]
    exact (heap_cellsL R r (o + 1) _ b h).trans (Below.heap_setCell _ _ _ _ h)
theorem size_cellsL (R : Nat) : ∀ (cs : List Value) (o : Nat) (V : World), (V.setCells R o cs).heap.size = V.heap.size
  | [], _, _ => rfl
  | v :: r, o, V => by
    rw [World.setCells]
    exact (size_cellsL R r (o + 1) _).trans (World.size_setCell ..)
/-- A list that is being lent, i of its things. -/
structure Ln (wr : World) (G n : Nat) (L : List Nd) : Prop where
  lt : G < wr.heap.size
  th : ∀ k, k < (n + 2) * 8 → (wr.cell? ⟨G, k, none⟩).isSome = true ∧ wr.frozen? ⟨G, k, none⟩ = false
  at_ : ∀ j (hj : j < L.length), NdAt wr G (j * 8) L[j]
  sub : ∀ k ∈ L, Lnt wr (G + 1) k
theorem Ln.on {w w' : World} {G n : Nat} {L : List Nd} (h : Ln w G n L) (k : Below w.heap.size w w') : Ln w' G n L := by
  have e := k.block G h.lt
  exact ⟨Nat.lt_of_lt_of_le h.lt k.size, fun j hj => by rw [World.cell?_of_block e, World.frozen?_of_block e]; exact h.th j hj, fun j hj => (h.at_ j hj).blk e, fun x hx => (h.sub x hx).on k⟩
theorem Ln.put {w w1 : World} {G n : Nat} {L : List Nd} {k : Nd} (h : Ln w G n L) (hb : Below w.heap.size w w1) (hk : Lnt w1 w.heap.size k) (hl : L.length < n) : Ln (w1.setCells G (L.length * 8) k.vals.toList) G n (L ++ [k]) := by
  have h1 := h.on hb
  have hsz : k.vals.toList.length = 8 := rfl
  have hth : w1.there G (L.length * 8) k.vals.toList.length := fun j hj => by rw [hsz] at hj; exact h1.th _ (by omega)
  refine ⟨by rw [size_cellsL]; exact h1.lt, fun j hj => ⟨World.isSome_setCells _ _ _ _ _ (h1.th j hj).1, by rw [World.frozen?_setCells]; exact (h1.th j hj).2⟩, fun j hj => ?_, fun x hx => ?_⟩
  · rcases Nat.lt_or_ge j L.length with h2 | h2
    · rw [List.getElem_append_left h2]
      have ho : ∀ i, i < 8 → (w1.setCells G (L.length * 8) k.vals.toList).cell? ⟨G, j * 8 + i, none⟩ = w1.cell? ⟨G, j * 8 + i, none⟩ := fun i hi => World.cell?_setCells_out _ _ _ _ _ (fun _ _ => .inl (by show j * 8 + i < _; omega))
      obtain ⟨c0, c1, c2, c3, c4, c5, c6, c7⟩ := h1.at_ j h2
      exact ⟨(ho 0 (by omega)).trans c0, (ho 1 (by omega)).trans c1, (ho 2 (by omega)).trans c2, (ho 3 (by omega)).trans c3, (ho 4 (by omega)).trans c4, (ho 5 (by omega)).trans c5, (ho 6 (by omega)).trans c6, (ho 7 (by omega)).trans c7⟩
    · have e : j = L.length := by rw [List.length_append, List.length_singleton] at hj; omega
      subst e
      rw [List.getElem_append_right (Nat.le_refl _)]
      simp only [Nat.sub_self, List.getElem_cons_zero]
      have hr := World.rangeAt_setCells_same w1 G (L.length * 8) k.vals.toList hth
      exact ⟨hr 0 _ rfl, hr 1 _ rfl, hr 2 _ rfl, hr 3 _ rfl, hr 4 _ rfl, hr 5 _ rfl, hr 6 _ rfl, hr 7 _ rfl⟩
  · have hx2 : Lnt w1 (G + 1) x := by
      rcases List.mem_append.1 hx with h3 | h3
      · exact h1.sub x h3
      · rw [List.mem_singleton.1 h3]; exact hk.lo h.lt
    exact hx2.blk fun b h4 _ => heap_cellsL _ _ _ _ _ (by omega)
/-- A mark behind it. -/
theorem Ln.mark {w : World} {G n : Nat} {L : List Nd} (h : Ln w G n L) (hl : L.length ≤ n) (o : Nat) (ho : n * 8 ≤ o) (v : Value) : Ln (w.setCell ⟨G, o, none⟩ v) G n L := by
  have hne : ∀ j, j ≠ o → (w.setCell ⟨G, o, none⟩ v).cell? ⟨G, j, none⟩ = w.cell? ⟨G, j, none⟩ := fun j hj => World.cell?_setCell_other _ _ _ _ (fun e => hj (by injection e with _ e2; exact e2.symm))
  refine ⟨by rw [World.size_setCell]; exact h.lt, fun j hj => ⟨?_, by rw [World.frozen?_setCell]; exact (h.th j hj).2⟩, fun j hj => ?_, fun x hx => (h.sub x hx).blk fun b h4 _ => Below.heap_setCell _ _ _ _ (by show b ≠ G; omega)⟩
  · obtain ⟨u, hu⟩ := Option.isSome_iff_exists.1 (h.th j hj).1
    by_cases e : j = o
    · subst e; rw [World.cell?_setCell_same _ _ _ hu]; rfl
    · rw [hne j e, hu]; rfl
  · obtain ⟨c0, c1, c2, c3, c4, c5, c6, c7⟩ := h.at_ j hj
    exact ⟨(hne _ (by omega)).trans c0, (hne _ (by omega)).trans c1, (hne _ (by omega)).trans c2, (hne _ (by omega)).trans c3, (hne _ (by omega)).trans c4, (hne _ (by omega)).trans c5, (hne _ (by omega)).trans c6, (hne _ (by omega)).trans c7⟩
theorem sizeN : (Tryz.prog.info? 55).map (·.size) = some 8 := by kernel_rfl
theorem allN (m : Nd) : m.vals.all (·.oneCell') = true := by simp [Nd.vals, hdA, Value.oneCell']
theorem size_memN : ∀ {ks : List Nd} {k : Nd}, k ∈ ks → size k ≤ sizes ks
  | x :: l, k, h => by
    simp only [sizes]
    rcases List.mem_cons.1 h with e | e
    · rw [e]; omega
    · have := size_memN e; omega
theorem size_kidN {h : Hd} {a : Option Addr} {c : Nat} {ks : List Nd} {k : Nd} (hk : k ∈ ks) : size k ≤ size (.mk h a c ks) := by
  have := size_memN hk
  simp only [size]
  omega
theorem infN : (Tryz.prog.info? 55).map (fun i => (i.zero, i.size, i.bytes)) = some (some (.agg #[.int .u8 0, .int .u8 0, .int .u8 0, .int .i64 0, .int .u8 0, .string ⟨#[]⟩, .slice none 0 0, .int .i64 0]), 8, 72) := by kernel_rfl
theorem madeN (w : World) (n : Nat) : Ln (w.alloc (.cells (madeCells #[.int .u8 0, .int .u8 0, .int .u8 0, .int .i64 0, .int .u8 0, .string ⟨#[]⟩, .slice none 0 0, .int .i64 0] ((n + 2) * 8)) 55)) w.heap.size n [] := by
  have hn := heap_new w (.cells (madeCells #[.int .u8 0, .int .u8 0, .int .u8 0, .int .i64 0, .int .u8 0, .string ⟨#[]⟩, .slice none 0 0, .int .i64 0] ((n + 2) * 8)) 55)
  refine ⟨(Array.getElem?_eq_some_iff.1 hn).1, fun k hk => ⟨?_, frozen_of hn k⟩, fun j hj => absurd hj (Nat.not_lt_zero _), fun k hk => by cases hk⟩
  rw [cell_of hn, Array.getElem?_eq_getElem (by rw [size_madeCells]; exact hk)]
  rfl
theorem take_trees {ks L : List Nd} {i : Nat} {k : Nd} (h : treesOf L = (treesOf ks).take i) (hi : i < ks.length) (hk : treeOf k = treeOf ks[i]) : treesOf (L ++ [k]) = (treesOf ks).take (i + 1) := by
  have e1 : ∀ l : List Nd, treesOf l = l.map treeOf := fun l => by
    induction l with
    | nil => rfl
    | cons x l ih => simp only [treesOf, List.map_cons, ih]
  rw [e1, e1] at h
  rw [e1, e1, List.map_append, h, List.take_add_one, List.getElem?_map, List.getElem?_eq_getElem hi]
  simp [hk]
/-- What LendNode hands back. -/
def Lent (m : Nd) (w : World) (e : Ending) (w' : World) : Prop := ∃ m', e = .returned (.agg m'.vals) ∧ Lnt w' w.heap.size m' ∧ treeOf m' = treeOf m ∧ Below w.heap.size w w'
set_option maxRecDepth 100000 in
set_option maxHeartbeats 8000000 in
theorem lend_any : ∀ (m : Nd) (w : World), Lies w m → size m ≤ 900000000 → Calls Tryz.prog 19 #[.agg m.vals] w (Lent m w) := by
  refine Nd.ind fun h a c ks ih w hl hz => ?_
  have hn : ks.length ≤ 900000000 := by have := len_sizes ks; simp only [size] at hz; omega
  obtain ⟨i0, hi, hz0, hz1, hz2⟩ := info_parts infN
  obtain ⟨M, eM⟩ : ∃ M : Int, (ks.length : Int) + 2 = M := ⟨_, rfl⟩
  have hmk : ∀ W : World, (Instr.makeSlice 53 (.int .i64 M) (.int .i64 M)).run Tryz.prog W = .ok (.slice (some ⟨W.heap.size, 0, none⟩) (ks.length + 2) (ks.length + 2)) (W.alloc (.cells (madeCells #[.int .u8 0, .int .u8 0, .int .u8 0, .int .i64 0, .int .u8 0, .string ⟨#[]⟩, .slice none 0 0, .int .i64 0] ((ks.length + 2) * 8)) 55)) := by
    intro W
    have := run_make (P := Tryz.prog) W 53 55 i0 _ Tryz.underlying53 hi hz0 .i64 .i64 M M (by omega) (Int.le_refl _) (by rw [hz2]; omega) (by omega)
    rw [this, hz1, show M.toNat = ks.length + 2 by omega]
    rfl
  obtain ⟨K, eK⟩ : ∃ K, ks.length + 2 = K := ⟨_, rfl⟩
  obtain ⟨W, eW⟩ : ∃ W, (w.alloc (.cells (Nd.mk h a c ks).vals 55)).alloc (.cells #[.int .u8 0, .int .u8 0, .int .u8 0, .int .i64 0, .int .u8 0, .string ⟨#[]⟩, .slice none 0 0, .int .i64 0] 55) = W := ⟨_, rfl⟩
  have hbW : Below w.heap.size w W := by rw [← eW]; exact below_two _ _ _
  have HI : Hid (∀ k ∈ ks, ∀ (w : World), Lies w k → Calls Tryz.prog 19 #[.agg k.vals] w (Lent k w)) := fun k hk v hv => ih k hk v hv (Nat.le_trans (size_kidN hk) hz)
  have h0 : NdH W w.heap.size (.mk h a c ks) := by rw [← eW]; exact heap_old (heap_new _ _) (by rw [size_alloc]; omega)
  have h1 : W.heap[w.heap.size + 1]? = some (.cells #[.int .u8 0, .int .u8 0, .int .u8 0, .int .i64 0, .int .u8 0, .string ⟨#[]⟩, .slice none 0 0, .int .i64 0] 55 (0, 0)) := by
    rw [← eW, ← size_alloc w (.cells (Nd.mk h a c ks).vals 55)]; exact heap_new _ _
  have HBW : Hid (Below w.heap.size w W) := hbW
  have HL : Hid (Lies W (.mk h a c ks)) := hl.on hbW
  have HRg : Hid (Rg h) := hl.rg
  have HWS : Hid (W.heap.size = w.heap.size + 2) := by show _ = _; rw [← eW, size_alloc, size_alloc]
  have H0 := h0.hid
  have H1 : Hid (W.heap[w.heap.size + 1]? = some (.cells #[.int .u8 0, .int .u8 0, .int .u8 0, .int .i64 0, .int .u8 0, .string ⟨#[]⟩, .slice none 0 0, .int .i64 0] 55 (0, 0))) := h1
  have HN : Hid (ks.length ≤ 900000000) := hn
  have HMD : Hid (Ln (W.alloc (.cells (madeCells #[.int .u8 0, .int .u8 0, .int .u8 0, .int .i64 0, .int .u8 0, .string ⟨#[]⟩, .slice none 0 0, .int .i64 0] ((ks.length + 2) * 8)) 55)) W.heap.size ks.length []) := madeN W ks.length
  have HMB : Hid (Below W.heap.size W (W.alloc (.cells (madeCells #[.int .u8 0, .int .u8 0, .int .u8 0, .int .i64 0, .int .u8 0, .string ⟨#[]⟩, .slice none 0 0, .int .i64 0] ((ks.length + 2) * 8)) 55))) := below_new _ _
  have HKK : Hid (ks.length + 2 = K) := eK
  rw [eK] at hmk HMD HMB
  have HEW : Hid ((w.alloc (.cells #[.int .u8 h.k, .int .u8 h.o, .int .u8 h.t, .int .i64 h.n, .int .u8 h.f, .string h.x, .slice a ks.length c, .int .i64 h.p] 55)).alloc (.cells #[.int .u8 0, .int .u8 0, .int .u8 0, .int .i64 0, .int .u8 0, .string ⟨#[]⟩, .slice none 0 0, .int .i64 0] 55) = W) := eW
  have q6 : W.cell? ⟨w.heap.size, 6, none⟩ = some (.slice a ks.length c) := cell_of h0 6
  have hM0 : (ks.length : Int) + 2 ≤ 9223372036854775807 := by omega
  clear ih hl hz hn hbW h0 h1 eW eK hi hz0 hz1 hz2
  show Calls Tryz.prog 19 #[.agg #[.int .u8 h.k, .int .u8 h.o, .int .u8 h.t, .int .i64 h.n, .int .u8 h.f, .string h.x, .slice a ks.length c, .int .i64 h.p]] w _
  go_enter Tryz.func19, Tryz.ntmps19
  go_upto_region 1 with fail
  rw [HEW.out]
  clear HEW
  go_upto_region 2 with fail
  generalize World.alloc W _ = V at HMD HMB ⊢
  obtain ⟨G, eG⟩ : ∃ G, W.heap.size = G := ⟨_, rfl⟩
  have HGG : Hid (G = w.heap.size + 2) := by show _ = _; rw [← eG]; exact HWS.out
  rw [eG] at HMD ⊢
  clear eG hmk eM hM0 q6
  go_wp2_with fail
  go_loopw [4] (fun t wr => ∃ (i : Nat) (L : List Nd), i ≤ ks.length ∧ t = .int .i64 i ∧ Hid (L.length = i) ∧ Hid (Below W.heap.size W wr) ∧ Hid (Ln wr G ks.length L) ∧ Hid (treesOf L = (treesOf ks).take i)) (fun t _ => ks.length - (intOf t).toNat)
  case atStart => exact ⟨0, [], by omega, rfl, rfl, HMB, HMD, rfl⟩
  case round =>
    obtain ⟨i, L, hi, rfl, HLI, HBR, HLN, HTT⟩ := hrel
    have hN : NdH wr w.heap.size (.mk h a c ks) := H0.out.on HBR.out
    have q6 : wr.cell? ⟨w.heap.size, 6, none⟩ = some (.slice a ks.length c) := cell_of hN 6
    have HNr := hN.hid
    clear hN
    have HK8 : Hid ((K : Int) = (ks.length : Int) + 2) := by have := HKK.out; show _ = _; omega
    by_cases hlt : i < ks.length
    · have hlt' : (i : Int) < (ks.length : Int) := by omega
      have hltK : (i : Int) < (K : Int) := by have := HK8.out; omega
      obtain ⟨b, o, e1, hat⟩ := (HL.out.on HBR.out).kid i hlt
      have e2 : a = some ⟨b, o, none⟩ := e1
      have hk1 : NdAt wr b (o + i * 8) ks[i] := hat
      have cI := HI.out ks[i] (nth_mem hlt) wr ((HL.out.sub ks[i] (nth_mem hlt)).on HBR.out)
      obtain ⟨k, ek⟩ : ∃ k, ks[i] = k := ⟨_, rfl⟩
      rw [ek] at hk1 cI
      rw [e2] at q6
      obtain ⟨y0, y1, y2, y3, y4, y5, y6, y7⟩ := hk1
      unfold Nd.vals hdA at cI
      have HEK : Hid (ks[i] = k) := ek
      have hmx : (i : Int) + 1 ≤ 9223372036854775807 := by have := HN.out; omega
      clear ek e1 e2 hat
      go_wp2_with fail
      refine cI.mono ?_
      rintro e w1 ⟨k', rfl, hk1, hk2, hb1⟩
      have HPT : Hid (Ln (w1.setCells G (L.length * 8) k'.vals.toList) G ks.length (L ++ [k'])) := HLN.out.put hb1 hk1 (by rw [HLI.out]; exact hlt)
      have HP2 : Hid (Below W.heap.size W (w1.setCells G (L.length * 8) k'.vals.toList)) := below_cellsL (by have h1 := HGG.out; have h2 := HWS.out; omega) _ _ (below2 HBR.out hb1)
      have HTH : Hid (w1.there G (L.length * 8) k'.vals.size) := fun j hj => by
        have hj8 : j < 8 := hj
        exact (HLN.out.on hb1).th _ (by have := HLI.out; omega)
      have HTK : Hid (treesOf (L ++ [k']) = (treesOf ks).take (i + 1)) := take_trees HTT.out hlt (by rw [hk2, HEK.out])
      rw [HLI.out] at HPT HP2 HTH
      clear cI y0 y1 y2 y3 y4 y5 y6 y7 q6 hk1 hk2 hb1
      go_upto_region 4 with (refine wpList_store_mid rfl 55 (.tmp 25) (.tmp 24) rfl G (i * 8) k'.vals (by simp [Act.eval]) rfl HTH.out sizeN (allN k') ?_)
      generalize World.setCells _ _ _ _ = Y at HPT HP2 ⊢
      go_wp2_with fail
      exact ⟨⟨i + 1, L ++ [k'], hlt, rfl, by show _ = _; rw [List.length_append, List.length_singleton, HLI.out], HP2, HPT, HTK⟩, by simp only [intOf]; omega⟩
    · obtain rfl : i = ks.length := by omega
      have hnot : ¬ (ks.length : Int) < (ks.length : Int) := by omega
      have hM : L.length = ks.length := HLI.out
      have hLt : treesOf L = treesOf ks := by rw [HTT.out, ← trees_len ks, List.take_length]
      have HLT : Hid (treesOf L = treesOf ks) := hLt
      have k0 : (ks.length : Int) < (K : Int) := by have := HK8.out; omega
      have k1 : (ks.length : Int) + 1 < (K : Int) := by have := HK8.out; omega
      have k2 : (ks.length : Int) ≤ (K : Int) := by omega
      have hmx : (ks.length : Int) + 1 ≤ 9223372036854775807 := by have := HN.out; omega
      obtain ⟨t0a, t0b⟩ := HLN.out.th (ks.length * 8 + 7) (by omega)
      obtain ⟨v0, e0⟩ := Option.isSome_iff_exists.1 t0a
      have HM1 := HLN.out.mark (by omega) (ks.length * 8 + 7) (by omega) (.int .i64 (-771))
      obtain ⟨t1a, t1b⟩ := HM1.th ((ks.length + 1) * 8 + 7) (by omega)
      obtain ⟨v1, e1⟩ := Option.isSome_iff_exists.1 t1a
      have HM2 := HM1.mark (by omega) ((ks.length + 1) * 8 + 7) (by omega) (.int .i64 (-772))
      have g0 : (wr.setCell ⟨G, ks.length * 8 + 7, none⟩ (.int .i64 (-771))).cell? ⟨G, ks.length * 8 + 7, none⟩ = some (.int .i64 (-771)) := World.cell?_setCell_same _ _ _ e0
      have g1 : ((wr.setCell ⟨G, ks.length * 8 + 7, none⟩ (.int .i64 (-771))).setCell ⟨G, (ks.length + 1) * 8 + 7, none⟩ (.int .i64 (-772))).cell? ⟨G, (ks.length + 1) * 8 + 7, none⟩ = some (.int .i64 (-772)) := World.cell?_setCell_same _ _ _ e1
      have g2 : ((wr.setCell ⟨G, ks.length * 8 + 7, none⟩ (.int .i64 (-771))).setCell ⟨G, (ks.length + 1) * 8 + 7, none⟩ (.int .i64 (-772))).cell? ⟨G, ks.length * 8 + 7, none⟩ = some (.int .i64 (-771)) := (World.cell?_setCell_other _ _ _ _ (fun e => by injection e with _ e2; omega)).trans g0
      have hGw : w.heap.size + 2 = G := HGG.out.symm
      have hB1 : Below W.heap.size W (wr.setCell ⟨G, ks.length * 8 + 7, none⟩ (.int .i64 (-771))) := HBR.out.setCell (by have := HWS.out; show _ ≤ G; omega) _
      have hB2 : Below W.heap.size W ((wr.setCell ⟨G, ks.length * 8 + 7, none⟩ (.int .i64 (-771))).setCell ⟨G, (ks.length + 1) * 8 + 7, none⟩ (.int .i64 (-772))) := hB1.setCell (by have := HWS.out; show _ ≤ G; omega) _
      have x0 : (wr.setCell ⟨G, ks.length * 8 + 7, none⟩ (.int .i64 (-771))).cell? ⟨w.heap.size, 6, none⟩ = some (.slice a ks.length c) := (World.cell?_of_block (Below.heap_setCell _ _ _ _ (by show w.heap.size ≠ G; omega))).trans q6
      have nd2 : NdH ((wr.setCell ⟨G, ks.length * 8 + 7, none⟩ (.int .i64 (-771))).setCell ⟨G, (ks.length + 1) * 8 + 7, none⟩ (.int .i64 (-772))) w.heap.size (.mk h a c ks) := H0.out.on hB2
      have nr2 : ((wr.setCell ⟨G, ks.length * 8 + 7, none⟩ (.int .i64 (-771))).setCell ⟨G, (ks.length + 1) * 8 + 7, none⟩ (.int .i64 (-772))).heap[w.heap.size + 1]? = some (.cells #[.int .u8 0, .int .u8 0, .int .u8 0, .int .i64 0, .int .u8 0, .string ⟨#[]⟩, .slice none 0 0, .int .i64 0] 55 (0, 0)) := (hB2.block _ (Array.getElem?_eq_some_iff.1 H1.out).1).trans H1.out
      have HM2h : Hid (Ln ((wr.setCell ⟨G, ks.length * 8 + 7, none⟩ (.int .i64 (-771))).setCell ⟨G, (ks.length + 1) * 8 + 7, none⟩ (.int .i64 (-772))) G ks.length L) := HM2
      have HB2h : Hid (Below W.heap.size W ((wr.setCell ⟨G, ks.length * 8 + 7, none⟩ (.int .i64 (-771))).setCell ⟨G, (ks.length + 1) * 8 + 7, none⟩ (.int .i64 (-772)))) := hB2
      have HG12 : Hid (((wr.setCell ⟨G, ks.length * 8 + 7, none⟩ (.int .i64 (-771))).setCell ⟨G, (ks.length + 1) * 8 + 7, none⟩ (.int .i64 (-772))).cell? ⟨G, (ks.length + 1) * 8 + 7, none⟩ = some (.int .i64 (-772)) ∧ ((wr.setCell ⟨G, ks.length * 8 + 7, none⟩ (.int .i64 (-771))).setCell ⟨G, (ks.length + 1) * 8 + 7, none⟩ (.int .i64 (-772))).cell? ⟨G, ks.length * 8 + 7, none⟩ = some (.int .i64 (-771))) := ⟨g1, g2⟩
      have HND2 : Hid (NdH ((wr.setCell ⟨G, ks.length * 8 + 7, none⟩ (.int .i64 (-771))).setCell ⟨G, (ks.length + 1) * 8 + 7, none⟩ (.int .i64 (-772))) w.heap.size (.mk h a c ks)) := nd2
      have HNR2 : Hid (((wr.setCell ⟨G, ks.length * 8 + 7, none⟩ (.int .i64 (-771))).setCell ⟨G, (ks.length + 1) * 8 + 7, none⟩ (.int .i64 (-772))).heap[w.heap.size + 1]? = some (.cells #[.int .u8 0, .int .u8 0, .int .u8 0, .int .i64 0, .int .u8 0, .string ⟨#[]⟩, .slice none 0 0, .int .i64 0] 55 (0, 0))) := nr2
      clear t0a t1a HM1 HM2 g0 g1 g2 hB1 hB2 nd2 nr2 hGw hLt HTT hM HLN HBR HNr
      go_upto_region 8 with fail
      generalize hU : World.setCell (World.setCell wr _ _) _ _ = U at HM2h HB2h HG12 HND2 HNR2 ⊢
      clear hU e0 e1 t0b t1b x0 q6
      have u6 : U.cell? ⟨w.heap.size, 6, none⟩ = some (.slice a ks.length c) := cell_of HND2.out 6
      have f6 : U.frozen? ⟨w.heap.size, 6, none⟩ = false := frozen_of HND2.out 6
      obtain ⟨Y, eY⟩ : ∃ Y, U.setCell ⟨w.heap.size, 6, none⟩ (.slice (some ⟨G, 0, none⟩) ks.length K) = Y := ⟨_, rfl⟩
      have HEY : Hid (U.setCell ⟨w.heap.size, 6, none⟩ (.slice (some ⟨G, 0, none⟩) ks.length K) = Y) := eY
      have HYN : Hid (Y.heap[w.heap.size]? = some (.cells (Nd.mk h (some ⟨G, 0, none⟩) K L).vals 55 (0, 0))) := by
        show _ = _
        rw [← eY]
        have := heap_set (.slice (some ⟨G, 0, none⟩) ks.length K) HND2.out (j := 6)
        rw [this]
        have hl : L.length = ks.length := HLI.out
        simp [Nd.vals, hdA, Nd.h, Nd.a, Nd.ks, Nd.c, hl]
      have HYR : Hid (Y.heap[w.heap.size + 1]? = some (.cells #[.int .u8 0, .int .u8 0, .int .u8 0, .int .i64 0, .int .u8 0, .string ⟨#[]⟩, .slice none 0 0, .int .i64 0] 55 (0, 0))) := by
        show _ = _
        rw [← eY]; exact (Below.heap_setCell _ _ _ _ (by simp)).trans HNR2.out
      have HYO : Hid (∀ b, b ≠ w.heap.size → Y.heap[b]? = U.heap[b]?) := fun b hb => by rw [← eY]; exact Below.heap_setCell _ _ _ _ hb
      have HYB : Hid (Below w.heap.size w Y) := by
        show Below _ _ _
        rw [← eY]
        exact (below2 HBW.out HB2h.out).setCell (Nat.le_refl _) _
      have HYS : Hid (Y.heap.size = U.heap.size) := by show _ = _; rw [← eY]; exact World.size_setCell ..
      clear eY
      go_upto_region 9 with fail
      rw [HEY.out]
      clear HEY u6 f6
      have HSR : Hid ((Y.setRow (w.heap.size + 1) (Nd.mk h (some ⟨G, 0, none⟩) K L).vals).heap[w.heap.size + 1]? = some (.cells (Nd.mk h (some ⟨G, 0, none⟩) K L).vals 55 (0, 0))) := setRow_heap _ _ _ _ _ _ HYR.out
      have HSB : Hid (Below w.heap.size w (Y.setRow (w.heap.size + 1) (Nd.mk h (some ⟨G, 0, none⟩) K L).vals)) := below_row HYB.out (by omega) _
      have HLL : Hid (Lnt (Y.setRow (w.heap.size + 1) (Nd.mk h (some ⟨G, 0, none⟩) K L).vals) w.heap.size (.mk h (some ⟨G, 0, none⟩) K L)) := by
        have hG : G = w.heap.size + 2 := HGG.out
        have hl : L.length = ks.length := HLI.out
        have hoth : ∀ b, G ≤ b → (Y.setRow (w.heap.size + 1) (Nd.mk h (some ⟨G, 0, none⟩) K L).vals).heap[b]? = U.heap[b]? := fun b hb => (setRow_other _ _ _ _ (by omega)).trans (HYO.out b (by omega))
        have eG := hoth G (Nat.le_refl _)
        refine .mk h G K L HRg.out (by have := HKK.out; omega) (by have := HN.out; omega) (by omega) ?_ ?_ (fun i hi => (HM2h.out.at_ i hi).blk eG) (fun k hk => ((HM2h.out.sub k hk).blk fun b hb _ => hoth b (by omega)).lo (by omega))
        · rw [World.cell?_of_block eG, hl]; exact HG12.out.2
        · rw [World.cell?_of_block eG, hl]; exact HG12.out.1
      go_wp2_with (first | (refine wpList_load_row rfl 55 (.tmp 1) rfl w.heap.size rfl 55 (Nd.mk h (some ⟨G, 0, none⟩) K L).vals (0, 0) _ HYN.out Tryz.underlying55 rfl sizeN ?_) | (refine wpList_store_row rfl 55 (.tmp 2) (.tmp 45) rfl (w.heap.size + 1) (Nd.mk h (some ⟨G, 0, none⟩) K L).vals rfl rfl 55 #[.int .u8 0, .int .u8 0, .int .u8 0, .int .i64 0, .int .u8 0, .string ⟨#[]⟩, .slice none 0 0, .int .i64 0] HYR.out sizeN rfl (allN _) ?_))
      exact bodyPost_ret (results_cell_row rfl _ _ (w.heap.size + 1) 55 (Nd.mk h (some ⟨G, 0, none⟩) K L).vals (0, 0) _ rfl HSR.out Tryz.underlying55 rfl sizeN) rfl ⟨_, rfl, HLL.out, by rw [treeOf, treeOf, HLT.out], HSB.out⟩
end Go.Proofs.YtighocmdlifheaaGreatDoor

/-
  The owner's look: marks.
-/
namespace Go.Proofs.YtighocmdlifheaaGreatDoor
open Go.RowKit
set_option linter.unusedVariables false
set_option linter.unusedSimpArgs false

theorem spot_any (i k : Nat) (hi : i ≤ 3000000) (hk : k ≤ 1000000000) (w : World) : Calls Tryz.prog 98 #[.int .i64 i, .int .i64 k] w fun e w' => e = .returned (.int .i64 ((i : Int) * 20000 + (k : Int))) ∧ w' = w := by
  go_enter Tryz.func98, Tryz.ntmps98
  go_wp2
  go_ret
  exact ⟨rfl, rfl⟩
theorem behindR_any (i k : Nat) (hi : i ≤ 3000000) (hk : k ≤ 1000) (w : World) : Calls Tryz.prog 99 #[.int .i64 i, .int .i64 k] w fun e w' => e = .returned (.int .i64 (-1 - (i : Int) * 20 - (k : Int))) ∧ w' = w := by
  go_enter Tryz.func99, Tryz.ntmps99
  go_wp2
  go_ret
  exact ⟨rfl, rfl⟩
def spI (i k : Nat) : Int := (i : Int) * 20000 + (k : Int)
def bhI (i k : Nat) : Int := -1 - (i : Int) * 20 - (k : Int)
theorem spot_sp (i k : Nat) (hi : i ≤ 3000000) (hk : k ≤ 1000000000) (w : World) : Calls Tryz.prog 98 #[.int .i64 i, .int .i64 k] w fun e w' => e = .returned (.int .i64 (spI i k)) ∧ w' = w := spot_any i k hi hk w
theorem behind_bh (i k : Nat) (hi : i ≤ 3000000) (hk : k ≤ 1000) (w : World) : Calls Tryz.prog 99 #[.int .i64 i, .int .i64 k] w fun e w' => e = .returned (.int .i64 (bhI i k)) ∧ w' = w := behindR_any i k hi hk w
theorem drewN_addO (w : World) (a b : Nat) : (w.drewN a).drewN b = w.drewN (a + b) := by
  unfold World.drewN; simp [Nat.add_assoc]
theorem below_drewMv {w v : World} {F : Nat → Prop} (h : Mv w v F) (n : Nat) : Mv w (v.drewN n) F := ⟨h.os, h.tape, h.output, h.size, h.block⟩
end Go.Proofs.YtighocmdlifheaaGreatDoor
