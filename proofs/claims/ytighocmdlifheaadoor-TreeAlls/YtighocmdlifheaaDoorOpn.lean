/-
  Expressions that came in, opened.
-/
import Derived.Test.YtighocmdlifheaaDoorNd
import Derived.Deep.Slices
import Derived.ProofKit
import Derived.OpenShut
import Derived.ChangeArms
import Derived.SizedLaws
namespace Go.Proofs.YtighocmdlifheaaDoor
open Go.ChangeShapes Go.WideShapes Go.ChangeAt Go.RowKit
theorem mem_all {H : Type} {P : Program} {e : TypeId} : ∀ {l : List (DataW H)} {j : Nat} {d : DataW H}, l[j]? = some d → ∀ n ∈ d.weights P e, n ∈ DataW.weightsAll P e l
  | d0 :: l, 0, d, hd, n, hn => by
    simp only [List.getElem?_cons_zero, Option.some.injEq] at hd
    subst hd
    simp only [DataW.weightsAll, List.mem_append]
    exact Or.inl hn
  | d0 :: l, j + 1, d, hd, n, hn => by
    simp only [List.getElem?_cons_succ] at hd
    simp only [DataW.weightsAll, List.mem_append]
    exact Or.inr (mem_all hd n hn)
  | [], _, _, hd, _, _ => by simp at hd
set_option maxRecDepth 100000 in
theorem nd_open {H : Type} {enc : TypeId × Value → H} {W : World} {held : Bool} : ∀ (fuel : Nat) (cs : List Value) (x : DataW H × List MemPlace), DataW.trod enc Tryd.prog W 0 (fun _ => true) held fuel 28 cs = some x →
    (∀ z ∈ x.1.weights Tryd.prog 28, z ≤ reachBytes) → ∃ m : Nd, cs = m.vals.toList ∧ Lies W m := by
  intro fuel
  induction fuel using Nat.strongRecOn with
  | _ fuel ih =>
  intro cs x h hz
  obtain ⟨xs, k, hk, hx, hlen, hxl, hf⟩ := DataW.trod_struct Tryd.underlying28 h
  rw [show Tryd.prog.cellsOf 28 = 8 by kernel_rfl] at hlen
  match cs, hlen with
  | [v0, v1, v2, v3, v4, v5, v6, v7], _ =>
    have hx8 : xs.length = 8 := hxl
    match xs, hx8 with
    | [y0, y1, y2, y3, y4, y5, y6, y7], _ =>
      have g0 : DataW.trod enc Tryd.prog W 0 (fun _ => true) held k 22 (([v0, v1, v2, v3, v4, v5, v6, v7].drop 0).take (Tryd.prog.cellsOf 22)) = some y0 := hf 0 _ rfl
      have g1 : DataW.trod enc Tryd.prog W 0 (fun _ => true) held k 23 (([v0, v1, v2, v3, v4, v5, v6, v7].drop 1).take (Tryd.prog.cellsOf 23)) = some y1 := hf 1 _ rfl
      have g2 : DataW.trod enc Tryd.prog W 0 (fun _ => true) held k 24 (([v0, v1, v2, v3, v4, v5, v6, v7].drop 2).take (Tryd.prog.cellsOf 24)) = some y2 := hf 2 _ rfl
      have g3 : DataW.trod enc Tryd.prog W 0 (fun _ => true) held k 2 (([v0, v1, v2, v3, v4, v5, v6, v7].drop 3).take (Tryd.prog.cellsOf 2)) = some y3 := hf 3 _ rfl
      have g4 : DataW.trod enc Tryd.prog W 0 (fun _ => true) held k 25 (([v0, v1, v2, v3, v4, v5, v6, v7].drop 4).take (Tryd.prog.cellsOf 25)) = some y4 := hf 4 _ rfl
      have g5 : DataW.trod enc Tryd.prog W 0 (fun _ => true) held k 9 (([v0, v1, v2, v3, v4, v5, v6, v7].drop 5).take (Tryd.prog.cellsOf 9)) = some y5 := hf 5 _ rfl
      have g6 : DataW.trod enc Tryd.prog W 0 (fun _ => true) held k 26 (([v0, v1, v2, v3, v4, v5, v6, v7].drop 6).take (Tryd.prog.cellsOf 26)) = some y6 := hf 6 _ rfl
      have g7 : DataW.trod enc Tryd.prog W 0 (fun _ => true) held k 3 (([v0, v1, v2, v3, v4, v5, v6, v7].drop 7).take (Tryd.prog.cellsOf 3)) = some y7 := hf 7 _ rfl
      rw [show Tryd.prog.cellsOf 22 = 1 by kernel_rfl] at g0
      rw [show Tryd.prog.cellsOf 23 = 1 by kernel_rfl] at g1
      rw [show Tryd.prog.cellsOf 24 = 1 by kernel_rfl] at g2
      rw [show Tryd.prog.cellsOf 2 = 1 by kernel_rfl] at g3
      rw [show Tryd.prog.cellsOf 25 = 1 by kernel_rfl] at g4
      rw [show Tryd.prog.cellsOf 9 = 1 by kernel_rfl] at g5
      rw [show Tryd.prog.cellsOf 26 = 1 by kernel_rfl] at g6
      rw [show Tryd.prog.cellsOf 3 = 1 by kernel_rfl] at g7
      obtain ⟨n0, e0, _, w0⟩ := DataW.trod_int (show Tryd.prog.underlying 22 = some (.int .u8) by kernel_rfl) (show DataW.trod enc Tryd.prog W 0 (fun _ => true) held k 22 [v0] = some y0 from g0)
      obtain ⟨n1, e1, _, w1⟩ := DataW.trod_int (show Tryd.prog.underlying 23 = some (.int .u8) by kernel_rfl) (show DataW.trod enc Tryd.prog W 0 (fun _ => true) held k 23 [v1] = some y1 from g1)
      obtain ⟨n2, e2, _, w2⟩ := DataW.trod_int (show Tryd.prog.underlying 24 = some (.int .u8) by kernel_rfl) (show DataW.trod enc Tryd.prog W 0 (fun _ => true) held k 24 [v2] = some y2 from g2)
      obtain ⟨n3, e3, _, w3⟩ := DataW.trod_int (show Tryd.prog.underlying 2 = some (.int .i64) by kernel_rfl) (show DataW.trod enc Tryd.prog W 0 (fun _ => true) held k 2 [v3] = some y3 from g3)
      obtain ⟨n4, e4, _, w4⟩ := DataW.trod_int (show Tryd.prog.underlying 25 = some (.int .u8) by kernel_rfl) (show DataW.trod enc Tryd.prog W 0 (fun _ => true) held k 25 [v4] = some y4 from g4)
      obtain ⟨n5, e5, d5, w5⟩ := DataW.trod_string (show Tryd.prog.underlying 9 = some .string by kernel_rfl) (show DataW.trod enc Tryd.prog W 0 (fun _ => true) held k 9 [v5] = some y5 from g5)
      obtain ⟨n7, e7, _, w7⟩ := DataW.trod_int (show Tryd.prog.underlying 3 = some (.int .i64) by kernel_rfl) (show DataW.trod enc Tryd.prog W 0 (fun _ => true) held k 3 [v7] = some y7 from g7)
      cases e0; cases e1; cases e2; cases e3; cases e4; cases e5; cases e7
      have hz' : ∀ (j : Nat) (t : TypeId) (d : DataW H), [22, 23, 24, 2, 25, 9, 26, 3][j]? = some t → ([y0, y1, y2, y3, y4, y5, y6, y7].map (·.1))[j]? = some d → ∀ z ∈ d.weights Tryd.prog t, z ≤ reachBytes := by
        intro j t d h1 h2 z hz1
        refine hz z ?_
        rw [hx]
        have := DataW.weights_mem_each (P := Tryd.prog) h1 h2 z hz1
        rw [show (DataW.weights Tryd.prog 28 (.agg ([y0, y1, y2, y3, y4, y5, y6, y7].map (·.1)) : DataW H)) = DataW.weightsEach Tryd.prog [22, 23, 24, 2, 25, 9, 26, 3] ([y0, y1, y2, y3, y4, y5, y6, y7].map (·.1)) by
          rw [DataW.weights, Tryd.underlying28]; rfl]
        exact this
      have hr : Rg ⟨n0, n1, n2, n3, n4, n5, n7⟩ := by
        refine ⟨(bounds_u8 w0).1, (bounds_u8 w0).2, (bounds_u8 w1).1, (bounds_u8 w1).2, (bounds_u8 w2).1, (bounds_u8 w2).2, (bounds_i64 w3).1, (bounds_i64 w3).2, (bounds_u8 w4).1, (bounds_u8 w4).2, (bounds_i64 w7).1, (bounds_i64 w7).2, ?_⟩
        have := hz' 5 9 y5.1 rfl rfl n5.size (by rw [d5]; simp [DataW.weights])
        have h2 : reachBytes ≤ 140737488355328 := by decide
        exact Nat.le_trans this h2
      rcases DataW.trod_slice Tryd.underlying26 (show DataW.trod enc Tryd.prog W 0 (fun _ => true) held k 26 [v6] = some y6 from g6) with ⟨hcs, _⟩ | ⟨a, len, cap, elems, rest, n, hn, hcs, hx6, hb, hl, hm, hlen', hel, hsp, hns⟩
      · cases hcs
        exact ⟨.mk ⟨n0, n1, n2, n3, n4, n5, n7⟩ none 0 [], rfl, .mk _ _ _ _ hr (Nat.le_refl _) (by decide) (fun i hi => by simp at hi) (fun k hk => by cases hk)⟩
      · cases hcs
        have each : ∀ i, i < len → ∃ q : Nd, (∀ j, j < 8 → W.cell? (a.add (i * 8 + j)) = q.vals.toList[j]?) ∧ Lies W q := by
          intro i hi
          have h1 := hel i hi
          rw [show Tryd.prog.cellsOf 28 = 8 by kernel_rfl] at h1
          have h2 : elems[i]? = some elems[i] := List.getElem?_eq_getElem (by omega)
          rw [h2] at h1
          obtain ⟨cs', h3, h4⟩ := Option.bind_eq_some_iff.1 h1
          obtain ⟨q, hq, hlq⟩ := ih n (by omega) cs' elems[i] h4 (fun z hz1 => hz' 6 26 y6.1 rfl rfl z (by
            rw [hx6, DataW.weights, Tryd.underlying26]
            refine List.mem_cons_of_mem _ (List.mem_append_left _ ?_)
            exact mem_all (j := i) (by simp [h2]) z hz1))
          obtain ⟨_, hlen, hcell⟩ := World.cells?_some h3
          refine ⟨q, fun j hj => ?_, hlq⟩
          have e0 := hcell j (by omega)
          rw [Go.Deep.add_add] at e0
          rw [e0, hq]
        have : Inhabited Nd := ⟨.mk ⟨0, 0, 0, 0, 0, ⟨#[]⟩, 0⟩ none 0 []⟩
        obtain ⟨A, hA⟩ := Go.Deep.choose_lt each
        refine ⟨.mk ⟨n0, n1, n2, n3, n4, n5, n7⟩ (some a) cap ((List.range len).map A), by simp [Nd.vals, hdA, Nd.h, Nd.a, Nd.ks, Nd.c], .mk _ _ _ _ hr (by simpa using hl) (by unfold maxLen at hm; omega) (fun i hi => ?_) (fun k hk => ?_)⟩
        · have hi' : i < len := by simpa using hi
          have g := (hA i hi').1
          have hc0 := (hA 0 (by omega)).1 0 (by omega)
          obtain ⟨b, off, spot⟩ := a
          have hspot : spot = none := by simpa [Addr.add] using World.cell?_spot hc0
          subst hspot
          refine ⟨b, off, rfl, ?_⟩
          rw [List.getElem_map, List.getElem_range]
          refine ⟨?_, ?_, ?_, ?_, ?_, ?_, ?_, ?_⟩
          · have := g 0 (by omega); rw [Addr.add_lit] at this; exact this
          · have := g 1 (by omega); rw [Addr.add_lit, ← Nat.add_assoc] at this; exact this
          · have := g 2 (by omega); rw [Addr.add_lit, ← Nat.add_assoc] at this; exact this
          · have := g 3 (by omega); rw [Addr.add_lit, ← Nat.add_assoc] at this; exact this
          · have := g 4 (by omega); rw [Addr.add_lit, ← Nat.add_assoc] at this; exact this
          · have := g 5 (by omega); rw [Addr.add_lit, ← Nat.add_assoc] at this; exact this
          · have := g 6 (by omega); rw [Addr.add_lit, ← Nat.add_assoc] at this; exact this
          · have := g 7 (by omega); rw [Addr.add_lit, ← Nat.add_assoc] at this; exact this
        · obtain ⟨i, hi, rfl⟩ := List.mem_map.1 hk
          exact (hA i (List.mem_range.1 hi)).2
theorem nd_in {H : Type} {enc : TypeId × Value → H} {W : World} {held : Bool} {fuel : Nat} {cs : Array Value} {x : DataW H × List MemPlace}
    (h : DataW.trod enc Tryd.prog W 0 (fun _ => true) held fuel 28 (Value.agg cs).cells.toList = some x) (hz : ∀ z ∈ x.1.weights Tryd.prog 28, z ≤ reachBytes) : ∃ m : Nd, cs = m.vals ∧ Lies W m := by
  obtain ⟨m, hm, hl⟩ := nd_open fuel _ x h hz
  exact ⟨m, Array.toList_inj.1 hm, hl⟩
end Go.Proofs.YtighocmdlifheaaDoor
