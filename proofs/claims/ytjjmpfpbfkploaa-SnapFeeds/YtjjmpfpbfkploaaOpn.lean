/-
  Snapshots, tops, feeds and events that came in, opened.
-/
import Derived.Test.YtjjmpfpbfkploaaLs
import Derived.Test.YtjjmpfpbfkploaaEvl
import Derived.Deep.Slices
import Derived.ProofKit
import Derived.OpenShut
import Derived.ChangeArms
namespace Go.Proofs.Ytjjmpfpbfkploaa
open Go.ChangeShapes Go.WideShapes Go.ChangeAt Go.RowKit

set_option maxRecDepth 100000 in
theorem sn_open {H : Type} {enc : TypeId × Value → H} {W : World} {base : Nat} {spare : Nat → Bool} {held : Bool} {n : Nat} {cs : List Value} {x : DataW H × List MemPlace}
    (h : DataW.trod enc Try.prog W base spare held n 23 cs = some x) : ∃ r : Sn, cs = (snA r).toList := by
  obtain ⟨xs, k, _, _, hlen, hxl, hf⟩ := DataW.trod_struct Try.underlying23 h
  rw [show Try.prog.cellsOf 23 = 6 by kernel_rfl] at hlen
  match cs, hlen with
  | [v0, v1, v2, v3, v4, v5], _ =>
    have hx : xs.length = 6 := hxl
    match xs, hx with
    | [y0, y1, y2, y3, y4, y5], _ =>
      have c2 : Try.prog.cellsOf 2 = 1 := by kernel_rfl
      have g0 : DataW.trod enc Try.prog W base spare held k 2 (([v0, v1, v2, v3, v4, v5].drop 0).take (Try.prog.cellsOf 2)) = some y0 := hf 0 _ rfl
      have g1 : DataW.trod enc Try.prog W base spare held k 2 (([v0, v1, v2, v3, v4, v5].drop 1).take (Try.prog.cellsOf 2)) = some y1 := hf 1 _ rfl
      have g2 : DataW.trod enc Try.prog W base spare held k 2 (([v0, v1, v2, v3, v4, v5].drop 2).take (Try.prog.cellsOf 2)) = some y2 := hf 2 _ rfl
      have g3 : DataW.trod enc Try.prog W base spare held k 2 (([v0, v1, v2, v3, v4, v5].drop 3).take (Try.prog.cellsOf 2)) = some y3 := hf 3 _ rfl
      have g4 : DataW.trod enc Try.prog W base spare held k 2 (([v0, v1, v2, v3, v4, v5].drop 4).take (Try.prog.cellsOf 2)) = some y4 := hf 4 _ rfl
      have g5 : DataW.trod enc Try.prog W base spare held k 2 (([v0, v1, v2, v3, v4, v5].drop 5).take (Try.prog.cellsOf 2)) = some y5 := hf 5 _ rfl
      rw [c2] at g0
      rw [c2] at g1
      rw [c2] at g2
      rw [c2] at g3
      rw [c2] at g4
      rw [c2] at g5
      obtain ⟨n0, e0, _, w0⟩ := DataW.trod_int Try.underlying2 (show DataW.trod enc Try.prog W base spare held k 2 [v0] = some y0 from g0)
      obtain ⟨n1, e1, _, w1⟩ := DataW.trod_int Try.underlying2 (show DataW.trod enc Try.prog W base spare held k 2 [v1] = some y1 from g1)
      obtain ⟨n2, e2, _, w2⟩ := DataW.trod_int Try.underlying2 (show DataW.trod enc Try.prog W base spare held k 2 [v2] = some y2 from g2)
      obtain ⟨n3, e3, _, w3⟩ := DataW.trod_int Try.underlying2 (show DataW.trod enc Try.prog W base spare held k 2 [v3] = some y3 from g3)
      obtain ⟨n4, e4, _, w4⟩ := DataW.trod_int Try.underlying2 (show DataW.trod enc Try.prog W base spare held k 2 [v4] = some y4 from g4)
      obtain ⟨n5, e5, _, w5⟩ := DataW.trod_int Try.underlying2 (show DataW.trod enc Try.prog W base spare held k 2 [v5] = some y5 from g5)
      cases e0; cases e1; cases e2; cases e3; cases e4; cases e5
      exact ⟨⟨n0, n1, n2, n3, n4, n5⟩, rfl⟩
theorem sn_in {H : Type} {enc : TypeId × Value → H} {W : World} {base : Nat} {spare : Nat → Bool} {held : Bool} {n : Nat} {cs : Array Value} {x : DataW H × List MemPlace}
    (h : DataW.trod enc Try.prog W base spare held n 23 (Value.agg cs).cells.toList = some x) : ∃ r : Sn, cs = snA r := by
  obtain ⟨r, hr⟩ := sn_open h
  exact ⟨r, Array.toList_inj.1 hr⟩
set_option maxRecDepth 100000 in
theorem tp_open {H : Type} {enc : TypeId × Value → H} {W : World} {base : Nat} {spare : Nat → Bool} {held : Bool} {n : Nat} {cs : List Value} {x : DataW H × List MemPlace}
    (h : DataW.trod enc Try.prog W base spare held n 41 cs = some x) : ∃ r : Tp, cs = (tpA r).toList := by
  obtain ⟨xs, k, _, _, hlen, hxl, hf⟩ := DataW.trod_struct Try.underlying41 h
  rw [show Try.prog.cellsOf 41 = 4 by kernel_rfl] at hlen
  match cs, hlen with
  | [v0, v1, v2, v3], _ =>
    have hx : xs.length = 4 := hxl
    match xs, hx with
    | [y0, y1, y2, y3], _ =>
      have c2 : Try.prog.cellsOf 2 = 1 := by kernel_rfl
      have g0 : DataW.trod enc Try.prog W base spare held k 2 (([v0, v1, v2, v3].drop 0).take (Try.prog.cellsOf 2)) = some y0 := hf 0 _ rfl
      have g1 : DataW.trod enc Try.prog W base spare held k 2 (([v0, v1, v2, v3].drop 1).take (Try.prog.cellsOf 2)) = some y1 := hf 1 _ rfl
      have g2 : DataW.trod enc Try.prog W base spare held k 2 (([v0, v1, v2, v3].drop 2).take (Try.prog.cellsOf 2)) = some y2 := hf 2 _ rfl
      have g3 : DataW.trod enc Try.prog W base spare held k 2 (([v0, v1, v2, v3].drop 3).take (Try.prog.cellsOf 2)) = some y3 := hf 3 _ rfl
      rw [c2] at g0
      rw [c2] at g1
      rw [c2] at g2
      rw [c2] at g3
      obtain ⟨n0, e0, _, w0⟩ := DataW.trod_int Try.underlying2 (show DataW.trod enc Try.prog W base spare held k 2 [v0] = some y0 from g0)
      obtain ⟨n1, e1, _, w1⟩ := DataW.trod_int Try.underlying2 (show DataW.trod enc Try.prog W base spare held k 2 [v1] = some y1 from g1)
      obtain ⟨n2, e2, _, w2⟩ := DataW.trod_int Try.underlying2 (show DataW.trod enc Try.prog W base spare held k 2 [v2] = some y2 from g2)
      obtain ⟨n3, e3, _, w3⟩ := DataW.trod_int Try.underlying2 (show DataW.trod enc Try.prog W base spare held k 2 [v3] = some y3 from g3)
      cases e0; cases e1; cases e2; cases e3
      exact ⟨⟨n0, n1, n2, n3⟩, rfl⟩
theorem tp_in {H : Type} {enc : TypeId × Value → H} {W : World} {base : Nat} {spare : Nat → Bool} {held : Bool} {n : Nat} {cs : Array Value} {x : DataW H × List MemPlace}
    (h : DataW.trod enc Try.prog W base spare held n 41 (Value.agg cs).cells.toList = some x) : ∃ r : Tp, cs = tpA r := by
  obtain ⟨r, hr⟩ := tp_open h
  exact ⟨r, Array.toList_inj.1 hr⟩
set_option maxRecDepth 100000 in
theorem fd_open {H : Type} {enc : TypeId × Value → H} {W : World} {base : Nat} {spare : Nat → Bool} {held : Bool} {n : Nat} {cs : List Value} {x : DataW H × List MemPlace}
    (h : DataW.trod enc Try.prog W base spare held n 66 cs = some x) : ∃ r : Fd, cs = (fdA r).toList ∧ Wf r := by
  obtain ⟨xs, k, _, _, hlen, hxl, hf⟩ := DataW.trod_struct Try.underlying66 h
  rw [show Try.prog.cellsOf 66 = 3 by kernel_rfl] at hlen
  match cs, hlen with
  | [v0, v1, v2], _ =>
    have hx : xs.length = 3 := hxl
    match xs, hx with
    | [y0, y1, y2], _ =>
      have c2 : Try.prog.cellsOf 2 = 1 := by kernel_rfl
      have c64 : Try.prog.cellsOf 64 = 1 := by kernel_rfl
      have g0 : DataW.trod enc Try.prog W base spare held k 64 (([v0, v1, v2].drop 0).take (Try.prog.cellsOf 64)) = some y0 := hf 0 _ rfl
      have g1 : DataW.trod enc Try.prog W base spare held k 2 (([v0, v1, v2].drop 1).take (Try.prog.cellsOf 2)) = some y1 := hf 1 _ rfl
      have g2 : DataW.trod enc Try.prog W base spare held k 2 (([v0, v1, v2].drop 2).take (Try.prog.cellsOf 2)) = some y2 := hf 2 _ rfl
      rw [c64] at g0
      rw [c2] at g1
      rw [c2] at g2
      obtain ⟨n0, e0, _, w0⟩ := DataW.trod_int Try.underlying64 (show DataW.trod enc Try.prog W base spare held k 64 [v0] = some y0 from g0)
      obtain ⟨n1, e1, _, w1⟩ := DataW.trod_int Try.underlying2 (show DataW.trod enc Try.prog W base spare held k 2 [v1] = some y1 from g1)
      obtain ⟨n2, e2, _, w2⟩ := DataW.trod_int Try.underlying2 (show DataW.trod enc Try.prog W base spare held k 2 [v2] = some y2 from g2)
      cases e0; cases e1; cases e2
      exact ⟨⟨n0, n1, n2⟩, rfl, ⟨(bounds_u8 w0).1, (bounds_u8 w0).2, (bounds_i64 w1).1, (bounds_i64 w1).2⟩⟩
set_option maxRecDepth 100000 in
theorem ev_open {H : Type} {enc : TypeId × Value → H} {W : World} {base : Nat} {spare : Nat → Bool} {held : Bool} {n : Nat} {cs : List Value} {x : DataW H × List MemPlace}
    (h : DataW.trod enc Try.prog W base spare held n 70 cs = some x) : ∃ r : Ev, cs = (evA r).toList := by
  obtain ⟨xs, k, _, _, hlen, hxl, hf⟩ := DataW.trod_struct Try.underlying70 h
  rw [show Try.prog.cellsOf 70 = 9 by kernel_rfl] at hlen
  match cs, hlen with
  | [v0, v1, v2, v3, v4, v5, v6, v7, v8], _ =>
    have hx : xs.length = 9 := hxl
    match xs, hx with
    | [y0, y1, y2, y3, y4, y5, y6, y7, y8], _ =>
      have c2 : Try.prog.cellsOf 2 = 1 := by kernel_rfl
      have c3 : Try.prog.cellsOf 3 = 1 := by kernel_rfl
      have c67 : Try.prog.cellsOf 67 = 1 := by kernel_rfl
      have c68 : Try.prog.cellsOf 68 = 1 := by kernel_rfl
      have g0 : DataW.trod enc Try.prog W base spare held k 67 (([v0, v1, v2, v3, v4, v5, v6, v7, v8].drop 0).take (Try.prog.cellsOf 67)) = some y0 := hf 0 _ rfl
      have g1 : DataW.trod enc Try.prog W base spare held k 3 (([v0, v1, v2, v3, v4, v5, v6, v7, v8].drop 1).take (Try.prog.cellsOf 3)) = some y1 := hf 1 _ rfl
      have g2 : DataW.trod enc Try.prog W base spare held k 3 (([v0, v1, v2, v3, v4, v5, v6, v7, v8].drop 2).take (Try.prog.cellsOf 3)) = some y2 := hf 2 _ rfl
      have g3 : DataW.trod enc Try.prog W base spare held k 3 (([v0, v1, v2, v3, v4, v5, v6, v7, v8].drop 3).take (Try.prog.cellsOf 3)) = some y3 := hf 3 _ rfl
      have g4 : DataW.trod enc Try.prog W base spare held k 3 (([v0, v1, v2, v3, v4, v5, v6, v7, v8].drop 4).take (Try.prog.cellsOf 3)) = some y4 := hf 4 _ rfl
      have g5 : DataW.trod enc Try.prog W base spare held k 68 (([v0, v1, v2, v3, v4, v5, v6, v7, v8].drop 5).take (Try.prog.cellsOf 68)) = some y5 := hf 5 _ rfl
      have g6 : DataW.trod enc Try.prog W base spare held k 2 (([v0, v1, v2, v3, v4, v5, v6, v7, v8].drop 6).take (Try.prog.cellsOf 2)) = some y6 := hf 6 _ rfl
      have g7 : DataW.trod enc Try.prog W base spare held k 2 (([v0, v1, v2, v3, v4, v5, v6, v7, v8].drop 7).take (Try.prog.cellsOf 2)) = some y7 := hf 7 _ rfl
      have g8 : DataW.trod enc Try.prog W base spare held k 2 (([v0, v1, v2, v3, v4, v5, v6, v7, v8].drop 8).take (Try.prog.cellsOf 2)) = some y8 := hf 8 _ rfl
      rw [c67] at g0
      rw [c3] at g1
      rw [c3] at g2
      rw [c3] at g3
      rw [c3] at g4
      rw [c68] at g5
      rw [c2] at g6
      rw [c2] at g7
      rw [c2] at g8
      obtain ⟨n0, e0, _, w0⟩ := DataW.trod_int Try.underlying67 (show DataW.trod enc Try.prog W base spare held k 67 [v0] = some y0 from g0)
      obtain ⟨n1, e1, _, w1⟩ := DataW.trod_int Try.underlying3 (show DataW.trod enc Try.prog W base spare held k 3 [v1] = some y1 from g1)
      obtain ⟨n2, e2, _, w2⟩ := DataW.trod_int Try.underlying3 (show DataW.trod enc Try.prog W base spare held k 3 [v2] = some y2 from g2)
      obtain ⟨n3, e3, _, w3⟩ := DataW.trod_int Try.underlying3 (show DataW.trod enc Try.prog W base spare held k 3 [v3] = some y3 from g3)
      obtain ⟨n4, e4, _, w4⟩ := DataW.trod_int Try.underlying3 (show DataW.trod enc Try.prog W base spare held k 3 [v4] = some y4 from g4)
      obtain ⟨n5, e5, _, w5⟩ := DataW.trod_int Try.underlying68 (show DataW.trod enc Try.prog W base spare held k 68 [v5] = some y5 from g5)
      obtain ⟨n6, e6, _, w6⟩ := DataW.trod_int Try.underlying2 (show DataW.trod enc Try.prog W base spare held k 2 [v6] = some y6 from g6)
      obtain ⟨n7, e7, _, w7⟩ := DataW.trod_int Try.underlying2 (show DataW.trod enc Try.prog W base spare held k 2 [v7] = some y7 from g7)
      obtain ⟨n8, e8, _, w8⟩ := DataW.trod_int Try.underlying2 (show DataW.trod enc Try.prog W base spare held k 2 [v8] = some y8 from g8)
      cases e0; cases e1; cases e2; cases e3; cases e4; cases e5; cases e6; cases e7; cases e8
      exact ⟨⟨n0, n1, n2, n3, n4, n5, n6, n7, n8⟩, rfl⟩
set_option maxRecDepth 100000 in
theorem fds_in {H : Type} {enc : TypeId × Value → H} {W : World} {held : Bool} {fuel : Nat} {a : Option Addr} {len cap : Nat} {x : DataW H × List MemPlace}
    (h : DataW.trod enc Try.prog W 0 (fun _ => true) held fuel 25 [.slice a len cap] = some x) : ∃ A, Fds W a len A ∧ (a = none → len = 0 ∧ cap = 0) ∧ len ≤ 9223372036854775807 := by
  rcases Go.Deep.open_slice Try.underlying25 h with ⟨hcs, _⟩ | ⟨ad, l, c, m, n, D, Pl, hcs, _, hl, hm, hmm, _, hx⟩
  · simp at hcs
    obtain ⟨rfl, rfl, rfl⟩ := hcs
    exact ⟨fun _ => ⟨0, 0, 0⟩, fun h => by omega, fun _ => ⟨rfl, rfl⟩, by omega⟩
  · simp at hcs
    obtain ⟨rfl, rfl, rfl⟩ := hcs
    have cE : Try.prog.cellsOf 66 = 3 := by kernel_rfl
    have hmm' : m = cap := by simpa using hmm
    rw [cE] at hx
    have each : ∀ i, i < m → ∃ q : Fd, (∀ j, j < 3 → W.cell? (ad.add (i * 3 + j)) = (fdA q).toList[j]?) ∧ Wf q := by
      intro i hi
      obtain ⟨cs', h1, h2⟩ := hx i hi
      obtain ⟨q, rfl, hw⟩ := fd_open h2
      obtain ⟨_, hlen, hcell⟩ := World.cells?_some h1
      refine ⟨q, fun j hj => ?_, hw⟩
      have e0 := hcell j (by omega)
      rw [Go.Deep.add_add] at e0
      rw [e0]
    have : Inhabited Fd := ⟨⟨0, 0, 0⟩⟩
    obtain ⟨A, hA⟩ := Go.Deep.choose_lt each
    refine ⟨A, fun h0 => ?_, (fun e => by cases e), by unfold maxLen at hm; omega⟩
    have hc0 := (hA 0 (by omega)).1 0 (by omega)
    obtain ⟨b, off, spot⟩ := ad
    have hspot : spot = none := by simpa [Addr.add] using World.cell?_spot hc0
    subst hspot
    refine ⟨b, off, rfl, World.block_lt_of_cell? W _ hc0, fun j hj => ?_⟩
    obtain ⟨g, hw⟩ := hA j (by omega)
    refine ⟨⟨?_, ?_, ?_⟩, hw⟩
    · have := g 0 (by omega); rw [Addr.add_lit] at this; exact this
    · have := g 1 (by omega); rw [Addr.add_lit, ← Nat.add_assoc] at this; exact this
    · have := g 2 (by omega); rw [Addr.add_lit, ← Nat.add_assoc] at this; exact this
set_option maxRecDepth 100000 in
theorem evs_in {H : Type} {enc : TypeId × Value → H} {W : World} {held : Bool} {fuel : Nat} {a : Option Addr} {len cap : Nat} {x : DataW H × List MemPlace}
    (h : DataW.trod enc Try.prog W 0 (fun _ => true) held fuel 42 [.slice a len cap] = some x) : ∃ A, Evs W a len A ∧ (a = none → len = 0 ∧ cap = 0) ∧ len ≤ 9223372036854775807 := by
  rcases Go.Deep.open_slice Try.underlying42 h with ⟨hcs, _⟩ | ⟨ad, l, c, m, n, D, Pl, hcs, _, hl, hm, hmm, _, hx⟩
  · simp at hcs
    obtain ⟨rfl, rfl, rfl⟩ := hcs
    exact ⟨fun _ => ⟨0, 0, 0, 0, 0, 0, 0, 0, 0⟩, fun h => by omega, fun _ => ⟨rfl, rfl⟩, by omega⟩
  · simp at hcs
    obtain ⟨rfl, rfl, rfl⟩ := hcs
    have cE : Try.prog.cellsOf 70 = 9 := by kernel_rfl
    have hmm' : m = cap := by simpa using hmm
    rw [cE] at hx
    have each : ∀ i, i < m → ∃ q : Ev, (∀ j, j < 9 → W.cell? (ad.add (i * 9 + j)) = (evA q).toList[j]?) := by
      intro i hi
      obtain ⟨cs', h1, h2⟩ := hx i hi
      obtain ⟨q, rfl⟩ := ev_open h2
      obtain ⟨_, hlen, hcell⟩ := World.cells?_some h1
      refine ⟨q, fun j hj => ?_⟩
      have e0 := hcell j (by omega)
      rw [Go.Deep.add_add] at e0
      rw [e0]
    have : Inhabited Ev := ⟨⟨0, 0, 0, 0, 0, 0, 0, 0, 0⟩⟩
    obtain ⟨A, hA⟩ := Go.Deep.choose_lt each
    refine ⟨A, fun h0 => ?_, (fun e => by cases e), by unfold maxLen at hm; omega⟩
    have hc0 := (hA 0 (by omega)) 0 (by omega)
    obtain ⟨b, off, spot⟩ := ad
    have hspot : spot = none := by simpa [Addr.add] using World.cell?_spot hc0
    subst hspot
    refine ⟨b, off, rfl, World.block_lt_of_cell? W _ hc0, fun j hj => ?_⟩
    have hj9 : j / 9 < cap := by omega
    have g := hA (j / 9) (by omega) (j % 9) (by omega)
    rw [Addr.add_lit, show j / 9 * 9 + j % 9 = j by omega] at g
    rw [g]
    have hr : j % 9 = 0 ∨ j % 9 = 1 ∨ j % 9 = 2 ∨ j % 9 = 3 ∨ j % 9 = 4 ∨ j % 9 = 5 ∨ j % 9 = 6 ∨ j % 9 = 7 ∨ j % 9 = 8 := by omega
    rcases hr with hr | hr | hr | hr | hr | hr | hr | hr | hr <;> (unfold evF; simp [hr, evA])
theorem fds_len {H : Type} {enc : TypeId × Value → H} {W : World} {held : Bool} {fuel : Nat} {a : Option Addr} {len cap : Nat} {x : DataW H × List MemPlace}
    (h : DataW.trod enc Try.prog W 0 (fun _ => true) held fuel 25 [.slice a len cap] = some x) : len = 0 ∨ ∃ elems spare, x.1 = .slice elems spare ∧ elems.length = len := by
  rcases Go.Deep.open_slice Try.underlying25 h with ⟨hcs, _⟩ | ⟨ad, l, c, m, n, D, Pl, hcs, _, hl, hm, hmm, hx, _⟩
  · simp at hcs
    exact .inl hcs.2.1
  · simp at hcs
    obtain ⟨rfl, rfl, rfl⟩ := hcs
    exact .inr ⟨_, _, by rw [hx], by simp⟩
theorem evs_len {H : Type} {enc : TypeId × Value → H} {W : World} {held : Bool} {fuel : Nat} {a : Option Addr} {len cap : Nat} {x : DataW H × List MemPlace}
    (h : DataW.trod enc Try.prog W 0 (fun _ => true) held fuel 42 [.slice a len cap] = some x) : len = 0 ∨ ∃ elems spare, x.1 = .slice elems spare ∧ elems.length = len := by
  rcases Go.Deep.open_slice Try.underlying42 h with ⟨hcs, _⟩ | ⟨ad, l, c, m, n, D, Pl, hcs, _, hl, hm, hmm, hx, _⟩
  · simp at hcs
    exact .inl hcs.2.1
  · simp at hcs
    obtain ⟨rfl, rfl, rfl⟩ := hcs
    exact .inr ⟨_, _, by rw [hx], by simp⟩
end Go.Proofs.Ytjjmpfpbfkploaa
