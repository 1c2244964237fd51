/-
  Tables that came in, opened.
-/
import Derived.Test.YteedmmljahgpjabDoorM4
import Derived.Deep.Slices
import Derived.ProofKit
import Derived.OpenShut
import Derived.ChangeArms
import Derived.SizedLaws
namespace Go.Proofs.YteedmmljahgpjabDoor
open Go.ChangeShapes Go.WideShapes Go.ChangeAt Go.RowKit
set_option linter.unusedVariables false
theorem mem_all {H : Type} {P : Program} {e : TypeId} : ∀ {l : List (DataW H)} {j : Nat} {d : DataW H}, l[j]? = some d → ∀ n ∈ d.weights P e, n ∈ DataW.weightsAll P e l
  | d0 :: l, 0, d, hd, n, hn => by
    simp only [List.getElem?_cons_zero, Option.some.injEq] at hd
    subst hd
    simp only [DataW.weightsAll, List.mem_append]
    exact Or.inl hn
  | d0 :: l, j + 1, d, hd, n, hn => by
    simp only [List.getElem?_cons_succ] at hd
    simp only [DataW.weightsAll, List.mem_append]
    exact Or.inr (mem_all hd n hn)
  | [], _, _, hd, _, _ => by simp at hd
def Lim (n : Nat) : Prop := n ≤ 140737488355328
/-- A slice that came in: its elements, each opened. -/
theorem sl_open {H : Type} {enc : TypeId × Value → H} {W : World} {held : Bool} {α : Type} (dflt : α) {sty ety : TypeId} {n : Nat} (hu : Tryd.prog.underlying sty = some (.slice ety)) (hc : Tryd.prog.cellsOf ety = n) (hn : 0 < n) (hby : 1 ≤ Tryd.prog.bytesOf ety) (f : α → Array Value) (hfs : ∀ a, (f a).size = n) (P : α → Prop)
    (one : ∀ fuel cs (x : DataW H × List MemPlace), DataW.trod enc Tryd.prog W 0 (fun _ => true) held fuel ety cs = some x → (∀ z ∈ x.1.weights Tryd.prog ety, z ≤ reachBytes) → ∃ a, cs = (f a).toList ∧ P a)
    {fuel : Nat} {v : Value} {y : DataW H × List MemPlace} (h : DataW.trod enc Tryd.prog W 0 (fun _ => true) held fuel sty [v] = some y) (hz : ∀ z ∈ y.1.weights Tryd.prog sty, z ≤ reachBytes) :
    ∃ (a : Option Addr) (c : Nat) (l : List α), v = .slice a l.length c ∧ SlAt W n a c (l.map f) ∧ (∀ x ∈ l, P x) ∧ Lim l.length := by
  have hR : reachBytes ≤ 140737488355328 := by decide
  rcases DataW.trod_slice hu h with ⟨hcs, _⟩ | ⟨a, len, cap, elems, rest, m, hm0, hcs, hx, hb, hl, hm, hlen', hel, hsp, hns⟩
  · cases hcs
    exact ⟨none, 0, [], rfl, ⟨Nat.le_refl _, Nat.zero_le _, fun i hi => by simp at hi⟩, (fun x hx => nomatch hx), Nat.zero_le _⟩
  · cases hcs
    have each : ∀ i, i < len → ∃ q : α, (∀ j, j < n → W.cell? (a.add (i * n + j)) = (f q).toList[j]?) ∧ P q := by
      intro i hi
      have h1 := hel i hi
      rw [hc] at h1
      have h2 : elems[i]? = some elems[i] := List.getElem?_eq_getElem (by omega)
      rw [h2] at h1
      obtain ⟨cs', h3, h4⟩ := Option.bind_eq_some_iff.1 h1
      obtain ⟨q, hq, hlq⟩ := one m cs' elems[i] h4 (fun z hz1 => hz z (by
        rw [hx, DataW.weights, hu]
        refine List.mem_cons_of_mem _ (List.mem_append_left _ ?_)
        exact mem_all (j := i) (by simp [h2]) z hz1))
      obtain ⟨_, hlen, hcell⟩ := World.cells?_some h3
      refine ⟨q, fun j hj => ?_, hlq⟩
      have e0 := hcell j (by omega)
      rw [Go.Deep.add_add] at e0
      rw [e0, hq]
    have : Inhabited α := ⟨dflt⟩
    obtain ⟨A, hA⟩ := Go.Deep.choose_lt each
    refine ⟨some a, cap, (List.range len).map A, by simp, ⟨by simpa using hl, by unfold maxLen at hm; omega, fun i hi => ?_⟩, fun k hk => ?_, ?_⟩
    · have hi' : i < len := by simpa using hi
      have g := (hA i hi').1
      have hc0 := (hA 0 (by omega)).1 0 hn
      obtain ⟨b, off, spot⟩ := a
      have hz0 : ((f (A 0)).toList[0]?).isSome := by
        rw [List.getElem?_eq_getElem (by rw [Array.length_toList, hfs]; exact hn)]; rfl
      obtain ⟨v0, hv0⟩ := Option.isSome_iff_exists.1 hz0
      rw [hv0] at hc0
      have hspot : spot = none := by simpa [Addr.add] using World.cell?_spot hc0
      subst hspot
      refine ⟨b, off, rfl, fun j hj => ?_⟩
      have := g j hj
      rw [Addr.add_lit, ← Nat.add_assoc] at this
      simp only [List.getElem_map, List.getElem_range]
      rw [this, Array.getElem?_toList]
    · obtain ⟨i, hi, rfl⟩ := List.mem_map.1 hk
      exact (hA i (List.mem_range.1 hi)).2
    · have h5 := hz ((elems.length + rest.length) * Tryd.prog.bytesOf ety) (by
        rw [hx, DataW.weights, hu]
        simp)
      show ((List.range len).map A).length ≤ _
      rw [List.length_map, List.length_range]
      have h6 : (elems.length + rest.length) * 1 ≤ (elems.length + rest.length) * Tryd.prog.bytesOf ety := Nat.mul_le_mul (Nat.le_refl _) hby
      omega
set_option maxRecDepth 100000 in
theorem i64_open {H : Type} {enc : TypeId × Value → H} {W : World} {held : Bool} (fuel : Nat) (cs : List Value) (x : DataW H × List MemPlace) (h : DataW.trod enc Tryd.prog W 0 (fun _ => true) held fuel 2 cs = some x) (hz : ∀ z ∈ x.1.weights Tryd.prog 2, z ≤ reachBytes) : ∃ a : Int, cs = (nvals a).toList ∧ I64 a := by
  match cs, h with
  | cs, h =>
    obtain ⟨n, e, _, w⟩ := DataW.trod_int (show Tryd.prog.underlying 2 = some (.int .i64) by kernel_rfl) h
    cases e
    exact ⟨n, rfl, (bounds_i64 w).1, (bounds_i64 w).2⟩
set_option maxRecDepth 100000 in
theorem sp_open {H : Type} {enc : TypeId × Value → H} {W : World} {held : Bool} (fuel : Nat) (cs : List Value) (x : DataW H × List MemPlace) (h : DataW.trod enc Tryd.prog W 0 (fun _ => true) held fuel 48 cs = some x) (hz : ∀ z ∈ x.1.weights Tryd.prog 48, z ≤ reachBytes) : ∃ a : Sp, cs = a.vals.toList ∧ SpI a := by
  obtain ⟨xs, k, hk, hx, hlen, hxl, hf⟩ := DataW.trod_struct Tryd.underlying48 h
  rw [show Tryd.prog.cellsOf 48 = 2 by kernel_rfl] at hlen
  match cs, hlen with
  | [v0, v1], _ =>
    have hx8 : xs.length = 2 := hxl
    match xs, hx8 with
    | [y0, y1], _ =>
      have hz' : ∀ (j : Nat) (t : TypeId) (d : DataW H), [3, 3][j]? = some t → ([y0, y1].map (·.1))[j]? = some d → ∀ z ∈ d.weights Tryd.prog t, z ≤ reachBytes := by
        intro j t d h1 h2 z hz1
        refine hz z ?_
        rw [hx]
        have := DataW.weights_mem_each (P := Tryd.prog) h1 h2 z hz1
        rw [show (DataW.weights Tryd.prog 48 (.agg ([y0, y1].map (·.1)) : DataW H)) = DataW.weightsEach Tryd.prog [3, 3] ([y0, y1].map (·.1)) by
          rw [DataW.weights, Tryd.underlying48]; rfl]
        exact this
      have g0 : DataW.trod enc Tryd.prog W 0 (fun _ => true) held k 3 (([v0, v1].drop 0).take (Tryd.prog.cellsOf 3)) = some y0 := hf 0 _ rfl
      rw [show Tryd.prog.cellsOf 3 = 1 by kernel_rfl] at g0
      have g0' : DataW.trod enc Tryd.prog W 0 (fun _ => true) held k 3 [v0] = some y0 := g0
      have g1 : DataW.trod enc Tryd.prog W 0 (fun _ => true) held k 3 (([v0, v1].drop 1).take (Tryd.prog.cellsOf 3)) = some y1 := hf 1 _ rfl
      rw [show Tryd.prog.cellsOf 3 = 1 by kernel_rfl] at g1
      have g1' : DataW.trod enc Tryd.prog W 0 (fun _ => true) held k 3 [v1] = some y1 := g1
      obtain ⟨n0, e0, _, w0⟩ := DataW.trod_int (show Tryd.prog.underlying 3 = some (.int .i64) by kernel_rfl) g0'
      cases e0
      obtain ⟨n1, e1, _, w1⟩ := DataW.trod_int (show Tryd.prog.underlying 3 = some (.int .i64) by kernel_rfl) g1'
      cases e1
      exact ⟨⟨n0, n1⟩, rfl, ⟨(bounds_i64 w0).1, (bounds_i64 w0).2⟩, ⟨(bounds_i64 w1).1, (bounds_i64 w1).2⟩⟩
set_option maxRecDepth 100000 in
theorem in_open {H : Type} {enc : TypeId × Value → H} {W : World} {held : Bool} (fuel : Nat) (cs : List Value) (x : DataW H × List MemPlace) (h : DataW.trod enc Tryd.prog W 0 (fun _ => true) held fuel 44 cs = some x) (hz : ∀ z ∈ x.1.weights Tryd.prog 44, z ≤ reachBytes) : ∃ a : InM, cs = a.vals.toList ∧ (B8 a.k ∧ I64 a.a) := by
  obtain ⟨xs, k, hk, hx, hlen, hxl, hf⟩ := DataW.trod_struct Tryd.underlying44 h
  rw [show Tryd.prog.cellsOf 44 = 2 by kernel_rfl] at hlen
  match cs, hlen with
  | [v0, v1], _ =>
    have hx8 : xs.length = 2 := hxl
    match xs, hx8 with
    | [y0, y1], _ =>
      have hz' : ∀ (j : Nat) (t : TypeId) (d : DataW H), [42, 3][j]? = some t → ([y0, y1].map (·.1))[j]? = some d → ∀ z ∈ d.weights Tryd.prog t, z ≤ reachBytes := by
        intro j t d h1 h2 z hz1
        refine hz z ?_
        rw [hx]
        have := DataW.weights_mem_each (P := Tryd.prog) h1 h2 z hz1
        rw [show (DataW.weights Tryd.prog 44 (.agg ([y0, y1].map (·.1)) : DataW H)) = DataW.weightsEach Tryd.prog [42, 3] ([y0, y1].map (·.1)) by
          rw [DataW.weights, Tryd.underlying44]; rfl]
        exact this
      have g0 : DataW.trod enc Tryd.prog W 0 (fun _ => true) held k 42 (([v0, v1].drop 0).take (Tryd.prog.cellsOf 42)) = some y0 := hf 0 _ rfl
      rw [show Tryd.prog.cellsOf 42 = 1 by kernel_rfl] at g0
      have g0' : DataW.trod enc Tryd.prog W 0 (fun _ => true) held k 42 [v0] = some y0 := g0
      have g1 : DataW.trod enc Tryd.prog W 0 (fun _ => true) held k 3 (([v0, v1].drop 1).take (Tryd.prog.cellsOf 3)) = some y1 := hf 1 _ rfl
      rw [show Tryd.prog.cellsOf 3 = 1 by kernel_rfl] at g1
      have g1' : DataW.trod enc Tryd.prog W 0 (fun _ => true) held k 3 [v1] = some y1 := g1
      obtain ⟨n0, e0, _, w0⟩ := DataW.trod_int (show Tryd.prog.underlying 42 = some (.int .u8) by kernel_rfl) g0'
      cases e0
      obtain ⟨n1, e1, _, w1⟩ := DataW.trod_int (show Tryd.prog.underlying 3 = some (.int .i64) by kernel_rfl) g1'
      cases e1
      exact ⟨⟨n0, n1⟩, rfl, bounds_u8 w0, bounds_i64 w1⟩
set_option maxRecDepth 100000 in
theorem row_open {H : Type} {enc : TypeId × Value → H} {W : World} {held : Bool} (fuel : Nat) (cs : List Value) (x : DataW H × List MemPlace) (h : DataW.trod enc Tryd.prog W 0 (fun _ => true) held fuel 72 cs = some x) (hz : ∀ z ∈ x.1.weights Tryd.prog 72, z ≤ reachBytes) : ∃ a : RowM, cs = a.vals.toList ∧ RowI a := by
  obtain ⟨xs, k, hk, hx, hlen, hxl, hf⟩ := DataW.trod_struct Tryd.underlying72 h
  rw [show Tryd.prog.cellsOf 72 = 11 by kernel_rfl] at hlen
  match cs, hlen with
  | [v0, v1, v2, v3, v4, v5, v6, v7, v8, v9, v10], _ =>
    have hx8 : xs.length = 7 := hxl
    match xs, hx8 with
    | [y0, y1, y2, y3, y4, y5, y6], _ =>
      have hz' : ∀ (j : Nat) (t : TypeId) (d : DataW H), [69, 70, 3, 48, 48, 48, 48][j]? = some t → ([y0, y1, y2, y3, y4, y5, y6].map (·.1))[j]? = some d → ∀ z ∈ d.weights Tryd.prog t, z ≤ reachBytes := by
        intro j t d h1 h2 z hz1
        refine hz z ?_
        rw [hx]
        have := DataW.weights_mem_each (P := Tryd.prog) h1 h2 z hz1
        rw [show (DataW.weights Tryd.prog 72 (.agg ([y0, y1, y2, y3, y4, y5, y6].map (·.1)) : DataW H)) = DataW.weightsEach Tryd.prog [69, 70, 3, 48, 48, 48, 48] ([y0, y1, y2, y3, y4, y5, y6].map (·.1)) by
          rw [DataW.weights, Tryd.underlying72]; rfl]
        exact this
      have g0 : DataW.trod enc Tryd.prog W 0 (fun _ => true) held k 69 (([v0, v1, v2, v3, v4, v5, v6, v7, v8, v9, v10].drop 0).take (Tryd.prog.cellsOf 69)) = some y0 := hf 0 _ rfl
      rw [show Tryd.prog.cellsOf 69 = 1 by kernel_rfl] at g0
      have g0' : DataW.trod enc Tryd.prog W 0 (fun _ => true) held k 69 [v0] = some y0 := g0
      have g1 : DataW.trod enc Tryd.prog W 0 (fun _ => true) held k 70 (([v0, v1, v2, v3, v4, v5, v6, v7, v8, v9, v10].drop 1).take (Tryd.prog.cellsOf 70)) = some y1 := hf 1 _ rfl
      rw [show Tryd.prog.cellsOf 70 = 1 by kernel_rfl] at g1
      have g1' : DataW.trod enc Tryd.prog W 0 (fun _ => true) held k 70 [v1] = some y1 := g1
      have g2 : DataW.trod enc Tryd.prog W 0 (fun _ => true) held k 3 (([v0, v1, v2, v3, v4, v5, v6, v7, v8, v9, v10].drop 2).take (Tryd.prog.cellsOf 3)) = some y2 := hf 2 _ rfl
      rw [show Tryd.prog.cellsOf 3 = 1 by kernel_rfl] at g2
      have g2' : DataW.trod enc Tryd.prog W 0 (fun _ => true) held k 3 [v2] = some y2 := g2
      have g3 : DataW.trod enc Tryd.prog W 0 (fun _ => true) held k 48 (([v0, v1, v2, v3, v4, v5, v6, v7, v8, v9, v10].drop 3).take (Tryd.prog.cellsOf 48)) = some y3 := hf 3 _ rfl
      rw [show Tryd.prog.cellsOf 48 = 2 by kernel_rfl] at g3
      have g3' : DataW.trod enc Tryd.prog W 0 (fun _ => true) held k 48 [v3, v4] = some y3 := g3
      have g4 : DataW.trod enc Tryd.prog W 0 (fun _ => true) held k 48 (([v0, v1, v2, v3, v4, v5, v6, v7, v8, v9, v10].drop 5).take (Tryd.prog.cellsOf 48)) = some y4 := hf 4 _ rfl
      rw [show Tryd.prog.cellsOf 48 = 2 by kernel_rfl] at g4
      have g4' : DataW.trod enc Tryd.prog W 0 (fun _ => true) held k 48 [v5, v6] = some y4 := g4
      have g5 : DataW.trod enc Tryd.prog W 0 (fun _ => true) held k 48 (([v0, v1, v2, v3, v4, v5, v6, v7, v8, v9, v10].drop 7).take (Tryd.prog.cellsOf 48)) = some y5 := hf 5 _ rfl
      rw [show Tryd.prog.cellsOf 48 = 2 by kernel_rfl] at g5
      have g5' : DataW.trod enc Tryd.prog W 0 (fun _ => true) held k 48 [v7, v8] = some y5 := g5
      have g6 : DataW.trod enc Tryd.prog W 0 (fun _ => true) held k 48 (([v0, v1, v2, v3, v4, v5, v6, v7, v8, v9, v10].drop 9).take (Tryd.prog.cellsOf 48)) = some y6 := hf 6 _ rfl
      rw [show Tryd.prog.cellsOf 48 = 2 by kernel_rfl] at g6
      have g6' : DataW.trod enc Tryd.prog W 0 (fun _ => true) held k 48 [v9, v10] = some y6 := g6
      obtain ⟨n0, e0, _, w0⟩ := DataW.trod_int (show Tryd.prog.underlying 69 = some (.int .u8) by kernel_rfl) g0'
      cases e0
      obtain ⟨n1, e1, _, w1⟩ := DataW.trod_int (show Tryd.prog.underlying 70 = some (.int .u8) by kernel_rfl) g1'
      cases e1
      obtain ⟨n2, e2, _, w2⟩ := DataW.trod_int (show Tryd.prog.underlying 3 = some (.int .i64) by kernel_rfl) g2'
      cases e2
      obtain ⟨s3, q3, p3⟩ := sp_open k _ _ g3' (hz' 3 48 y3.1 rfl rfl)
      obtain ⟨a3, b3⟩ := s3
      cases q3
      obtain ⟨s4, q4, p4⟩ := sp_open k _ _ g4' (hz' 4 48 y4.1 rfl rfl)
      obtain ⟨a4, b4⟩ := s4
      cases q4
      obtain ⟨s5, q5, p5⟩ := sp_open k _ _ g5' (hz' 5 48 y5.1 rfl rfl)
      obtain ⟨a5, b5⟩ := s5
      cases q5
      obtain ⟨s6, q6, p6⟩ := sp_open k _ _ g6' (hz' 6 48 y6.1 rfl rfl)
      obtain ⟨a6, b6⟩ := s6
      cases q6
      exact ⟨⟨n0, n1, n2, ⟨a3, b3⟩, ⟨a4, b4⟩, ⟨a5, b5⟩, ⟨a6, b6⟩⟩, rfl, bounds_u8 w0, bounds_u8 w1, bounds_i64 w2, p3, p4, p5, p6⟩
set_option maxRecDepth 100000 in
theorem gd_open {H : Type} {enc : TypeId × Value → H} {W : World} {held : Bool} (fuel : Nat) (cs : List Value) (x : DataW H × List MemPlace) (h : DataW.trod enc Tryd.prog W 0 (fun _ => true) held fuel 51 cs = some x) (hz : ∀ z ∈ x.1.weights Tryd.prog 51, z ≤ reachBytes) : ∃ a : GdM, cs = a.vals.toList ∧ (GdL W a ∧ Lim a.rs.length) := by
  obtain ⟨xs, k, hk, hx, hlen, hxl, hf⟩ := DataW.trod_struct Tryd.underlying51 h
  rw [show Tryd.prog.cellsOf 51 = 5 by kernel_rfl] at hlen
  match cs, hlen with
  | [v0, v1, v2, v3, v4], _ =>
    have hx8 : xs.length = 4 := hxl
    match xs, hx8 with
    | [y0, y1, y2, y3], _ =>
      have hz' : ∀ (j : Nat) (t : TypeId) (d : DataW H), [48, 46, 45, 49][j]? = some t → ([y0, y1, y2, y3].map (·.1))[j]? = some d → ∀ z ∈ d.weights Tryd.prog t, z ≤ reachBytes := by
        intro j t d h1 h2 z hz1
        refine hz z ?_
        rw [hx]
        have := DataW.weights_mem_each (P := Tryd.prog) h1 h2 z hz1
        rw [show (DataW.weights Tryd.prog 51 (.agg ([y0, y1, y2, y3].map (·.1)) : DataW H)) = DataW.weightsEach Tryd.prog [48, 46, 45, 49] ([y0, y1, y2, y3].map (·.1)) by
          rw [DataW.weights, Tryd.underlying51]; rfl]
        exact this
      have g0 : DataW.trod enc Tryd.prog W 0 (fun _ => true) held k 48 (([v0, v1, v2, v3, v4].drop 0).take (Tryd.prog.cellsOf 48)) = some y0 := hf 0 _ rfl
      rw [show Tryd.prog.cellsOf 48 = 2 by kernel_rfl] at g0
      have g0' : DataW.trod enc Tryd.prog W 0 (fun _ => true) held k 48 [v0, v1] = some y0 := g0
      have g1 : DataW.trod enc Tryd.prog W 0 (fun _ => true) held k 46 (([v0, v1, v2, v3, v4].drop 2).take (Tryd.prog.cellsOf 46)) = some y1 := hf 1 _ rfl
      rw [show Tryd.prog.cellsOf 46 = 1 by kernel_rfl] at g1
      have g1' : DataW.trod enc Tryd.prog W 0 (fun _ => true) held k 46 [v2] = some y1 := g1
      have g2 : DataW.trod enc Tryd.prog W 0 (fun _ => true) held k 45 (([v0, v1, v2, v3, v4].drop 3).take (Tryd.prog.cellsOf 45)) = some y2 := hf 2 _ rfl
      rw [show Tryd.prog.cellsOf 45 = 1 by kernel_rfl] at g2
      have g2' : DataW.trod enc Tryd.prog W 0 (fun _ => true) held k 45 [v3] = some y2 := g2
      have g3 : DataW.trod enc Tryd.prog W 0 (fun _ => true) held k 49 (([v0, v1, v2, v3, v4].drop 4).take (Tryd.prog.cellsOf 49)) = some y3 := hf 3 _ rfl
      rw [show Tryd.prog.cellsOf 49 = 1 by kernel_rfl] at g3
      have g3' : DataW.trod enc Tryd.prog W 0 (fun _ => true) held k 49 [v4] = some y3 := g3
      obtain ⟨s0, q0, p0⟩ := sp_open k _ _ g0' (hz' 0 48 y0.1 rfl rfl)
      obtain ⟨a0, b0⟩ := s0
      cases q0
      obtain ⟨n1, e1, _, w1⟩ := DataW.trod_int (show Tryd.prog.underlying 46 = some (.int .u16) by kernel_rfl) g1'
      cases e1
      obtain ⟨n2, e2, _, w2⟩ := DataW.trod_int (show Tryd.prog.underlying 45 = some (.int .u16) by kernel_rfl) g2'
      cases e2
      obtain ⟨a, c, l, q3, h1, h2, h3⟩ := sl_open (α := RowM) ⟨0, 0, 0, ⟨0, 0⟩, ⟨0, 0⟩, ⟨0, 0⟩, ⟨0, 0⟩⟩ (show Tryd.prog.underlying 49 = some (.slice 72) by kernel_rfl) (show Tryd.prog.cellsOf 72 = 11 by kernel_rfl) (by decide) (show 1 ≤ Tryd.prog.bytesOf 72 by decide +kernel) RowM.vals RowM.sz RowI row_open g3' (hz' 3 49 y3.1 rfl rfl)
      cases q3
      exact ⟨⟨⟨a0, b0⟩, n1, n2, a, c, l⟩, rfl, ⟨p0, ⟨(bounds_u16 w1).1, (bounds_u16 w1).2⟩, ⟨(bounds_u16 w2).1, (bounds_u16 w2).2⟩, h1, h2⟩, h3⟩
set_option maxRecDepth 100000 in
theorem st_open {H : Type} {enc : TypeId × Value → H} {W : World} {held : Bool} (fuel : Nat) (cs : List Value) (x : DataW H × List MemPlace) (h : DataW.trod enc Tryd.prog W 0 (fun _ => true) held fuel 52 cs = some x) (hz : ∀ z ∈ x.1.weights Tryd.prog 52, z ≤ reachBytes) : ∃ a : StM, cs = a.vals.toList ∧ (StL W a ∧ (∀ g ∈ a.gs, Lim g.rs.length) ∧ Lim a.gs.length) := by
  have hu : Tryd.prog.underlying 52 = some (.slice 51) := Tryd.underlying52
  obtain ⟨v, rfl⟩ : ∃ v, cs = [v] := by
    rcases DataW.trod_slice hu h with ⟨hcs, _⟩ | ⟨a, len, cap, elems, rest, m, hm0, hcs, _⟩
    · exact ⟨_, hcs⟩
    · exact ⟨_, hcs⟩
  obtain ⟨a, c, l, q, h1, h2, h3⟩ := sl_open (α := GdM) ⟨⟨0, 0⟩, 0, 0, none, 0, []⟩ hu (show Tryd.prog.cellsOf 51 = 5 by kernel_rfl) (by decide) (show 1 ≤ Tryd.prog.bytesOf 51 by decide +kernel) GdM.vals GdM.sz (fun a => GdL W a ∧ Lim a.rs.length) gd_open h hz
  cases q
  exact ⟨⟨a, c, l⟩, rfl, ⟨h1, fun g hg => (h2 g hg).1⟩, fun g hg => (h2 g hg).2, h3⟩
def StZ (s : StM) : Prop := (∀ g ∈ s.gs, Lim g.rs.length) ∧ Lim s.gs.length
structure TbZ (t : TbM) : Prop where
  R : Lim t.rs.length
  C : Lim t.cs.length
  D : Lim t.ds.length
  T : Lim t.ts.length
  S : ∀ s ∈ t.ts, StZ s
set_option maxRecDepth 100000 in
theorem tb_open {H : Type} {enc : TypeId × Value → H} {W : World} {held : Bool} (fuel : Nat) (cs : List Value) (x : DataW H × List MemPlace) (h : DataW.trod enc Tryd.prog W 0 (fun _ => true) held fuel 26 cs = some x) (hz : ∀ z ∈ x.1.weights Tryd.prog 26, z ≤ reachBytes) : ∃ a : TbM, cs = a.vals.toList ∧ TbL W a ∧ TbZ a := by
  obtain ⟨xs, k, hk, hx, hlen, hxl, hf⟩ := DataW.trod_struct Tryd.underlying26 h
  rw [show Tryd.prog.cellsOf 26 = 6 by kernel_rfl] at hlen
  match cs, hlen with
  | [v0, v1, v2, v3, v4, v5], _ =>
    have hx8 : xs.length = 6 := hxl
    match xs, hx8 with
    | [y0, y1, y2, y3, y4, y5], _ =>
      have hz' : ∀ (j : Nat) (t : TypeId) (d : DataW H), [9, 22, 3, 22, 23, 24][j]? = some t → ([y0, y1, y2, y3, y4, y5].map (·.1))[j]? = some d → ∀ z ∈ d.weights Tryd.prog t, z ≤ reachBytes := by
        intro j t d h1 h2 z hz1
        refine hz z ?_
        rw [hx]
        have := DataW.weights_mem_each (P := Tryd.prog) h1 h2 z hz1
        rw [show (DataW.weights Tryd.prog 26 (.agg ([y0, y1, y2, y3, y4, y5].map (·.1)) : DataW H)) = DataW.weightsEach Tryd.prog [9, 22, 3, 22, 23, 24] ([y0, y1, y2, y3, y4, y5].map (·.1)) by
          rw [DataW.weights, Tryd.underlying26]; rfl]
        exact this
      have g0 : DataW.trod enc Tryd.prog W 0 (fun _ => true) held k 9 (([v0, v1, v2, v3, v4, v5].drop 0).take (Tryd.prog.cellsOf 9)) = some y0 := hf 0 _ rfl
      rw [show Tryd.prog.cellsOf 9 = 1 by kernel_rfl] at g0
      have g0' : DataW.trod enc Tryd.prog W 0 (fun _ => true) held k 9 [v0] = some y0 := g0
      have g1 : DataW.trod enc Tryd.prog W 0 (fun _ => true) held k 22 (([v0, v1, v2, v3, v4, v5].drop 1).take (Tryd.prog.cellsOf 22)) = some y1 := hf 1 _ rfl
      rw [show Tryd.prog.cellsOf 22 = 1 by kernel_rfl] at g1
      have g1' : DataW.trod enc Tryd.prog W 0 (fun _ => true) held k 22 [v1] = some y1 := g1
      have g2 : DataW.trod enc Tryd.prog W 0 (fun _ => true) held k 3 (([v0, v1, v2, v3, v4, v5].drop 2).take (Tryd.prog.cellsOf 3)) = some y2 := hf 2 _ rfl
      rw [show Tryd.prog.cellsOf 3 = 1 by kernel_rfl] at g2
      have g2' : DataW.trod enc Tryd.prog W 0 (fun _ => true) held k 3 [v2] = some y2 := g2
      have g3 : DataW.trod enc Tryd.prog W 0 (fun _ => true) held k 22 (([v0, v1, v2, v3, v4, v5].drop 3).take (Tryd.prog.cellsOf 22)) = some y3 := hf 3 _ rfl
      rw [show Tryd.prog.cellsOf 22 = 1 by kernel_rfl] at g3
      have g3' : DataW.trod enc Tryd.prog W 0 (fun _ => true) held k 22 [v3] = some y3 := g3
      have g4 : DataW.trod enc Tryd.prog W 0 (fun _ => true) held k 23 (([v0, v1, v2, v3, v4, v5].drop 4).take (Tryd.prog.cellsOf 23)) = some y4 := hf 4 _ rfl
      rw [show Tryd.prog.cellsOf 23 = 1 by kernel_rfl] at g4
      have g4' : DataW.trod enc Tryd.prog W 0 (fun _ => true) held k 23 [v4] = some y4 := g4
      have g5 : DataW.trod enc Tryd.prog W 0 (fun _ => true) held k 24 (([v0, v1, v2, v3, v4, v5].drop 5).take (Tryd.prog.cellsOf 24)) = some y5 := hf 5 _ rfl
      rw [show Tryd.prog.cellsOf 24 = 1 by kernel_rfl] at g5
      have g5' : DataW.trod enc Tryd.prog W 0 (fun _ => true) held k 24 [v5] = some y5 := g5
      obtain ⟨n0, e0, d0, w0⟩ := DataW.trod_string (show Tryd.prog.underlying 9 = some .string by kernel_rfl) g0'
      cases e0
      obtain ⟨a1, c1, l1, q1, h1, k1, z1⟩ := sl_open (α := Int) 0 (show Tryd.prog.underlying 22 = some (.slice 2) by kernel_rfl) (show Tryd.prog.cellsOf 2 = 1 by kernel_rfl) (by decide) (show 1 ≤ Tryd.prog.bytesOf 2 by decide +kernel) nvals nvals_sz I64 i64_open g1' (hz' 1 22 y1.1 rfl rfl)
      cases q1
      obtain ⟨n2, e2, _, w2⟩ := DataW.trod_int (show Tryd.prog.underlying 3 = some (.int .i64) by kernel_rfl) g2'
      cases e2
      obtain ⟨a3, c3, l3, q3, h3, k3, z3⟩ := sl_open (α := Int) 0 (show Tryd.prog.underlying 22 = some (.slice 2) by kernel_rfl) (show Tryd.prog.cellsOf 2 = 1 by kernel_rfl) (by decide) (show 1 ≤ Tryd.prog.bytesOf 2 by decide +kernel) nvals nvals_sz I64 i64_open g3' (hz' 3 22 y3.1 rfl rfl)
      cases q3
      obtain ⟨a4, c4, l4, q4, h4, k4, z4⟩ := sl_open (α := InM) ⟨0, 0⟩ (show Tryd.prog.underlying 23 = some (.slice 44) by kernel_rfl) (show Tryd.prog.cellsOf 44 = 2 by kernel_rfl) (by decide) (show 1 ≤ Tryd.prog.bytesOf 44 by decide +kernel) InM.vals InM.sz (fun d => B8 d.k ∧ I64 d.a) in_open g4' (hz' 4 23 y4.1 rfl rfl)
      cases q4
      obtain ⟨a5, c5, l5, q5, h5, k5, z5⟩ := sl_open (α := StM) ⟨none, 0, []⟩ (show Tryd.prog.underlying 24 = some (.slice 52) by kernel_rfl) (show Tryd.prog.cellsOf 52 = 1 by kernel_rfl) (by decide) (show 1 ≤ Tryd.prog.bytesOf 52 by decide +kernel) StM.vals StM.sz (fun s => StL W s ∧ StZ s) st_open g5' (hz' 5 24 y5.1 rfl rfl)
      cases q5
      have hnm : n0.size ≤ 140737488355328 := by
        have := hz' 0 9 y0.1 rfl rfl n0.size (by rw [d0]; simp [DataW.weights])
        have h2 : reachBytes ≤ 140737488355328 := by decide
        exact Nat.le_trans this h2
      exact ⟨⟨n0, a1, c1, l1, n2, a3, c3, l3, a4, c4, l4, a5, c5, l5⟩, rfl, ⟨h1, k1, ⟨(bounds_i64 w2).1, (bounds_i64 w2).2⟩, h3, k3, h4, k4, h5, fun s hs => (k5 s hs).1, hnm⟩, ⟨z1, z3, z4, z5, fun s hs => (k5 s hs).2⟩⟩
theorem tb_in {H : Type} {enc : TypeId × Value → H} {W : World} {held : Bool} {fuel : Nat} {cs : Array Value} {x : DataW H × List MemPlace}
    (h : DataW.trod enc Tryd.prog W 0 (fun _ => true) held fuel 26 (Value.agg cs).cells.toList = some x) (hz : ∀ z ∈ x.1.weights Tryd.prog 26, z ≤ reachBytes) : ∃ m : TbM, cs = m.vals ∧ TbL W m ∧ TbZ m := by
  obtain ⟨m, hm, hl⟩ := tb_open fuel _ x h hz
  exact ⟨m, Array.toList_inj.1 hm, hl⟩
end Go.Proofs.YteedmmljahgpjabDoor
