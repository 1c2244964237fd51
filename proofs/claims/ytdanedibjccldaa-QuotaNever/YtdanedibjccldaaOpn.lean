/-
  A configuration and a slice of acts that came in, opened.
-/
import Derived.Test.YtdanedibjccldaaM1
import Derived.Deep.Slices
import Derived.ProofKit
import Derived.OpenShut
import Derived.ChangeArms
namespace Go.Proofs.Ytdanedibjccldaa
open Go.ChangeShapes Go.WideShapes Go.ChangeAt Go.RowKit

theorem ok_of_wf {n : Int} (h : (Lit.int .i64 n).wf = true) : -9223372036854775808 ≤ n ∧ n ≤ 9223372036854775807 := bounds_i64 h

theorem act_open {H : Type} {enc : TypeId × Value → H} {W : World} {base : Nat} {spare : Nat → Bool} {held : Bool} {n : Nat} {cs : List Value} {x : DataW H × List MemPlace}
    (h : DataW.trod enc Try.prog W base spare held n 38 cs = some x) : ∃ a : Act4, a.ok ∧ cs = [.int .i64 a.k, .int .i64 a.r, .int .i64 a.n, .int .i64 a.v] := by
  obtain ⟨xs, k, _, _, hlen, hxl, hf⟩ := DataW.trod_struct Try.underlying38 h
  rw [show Try.prog.cellsOf 38 = 4 by kernel_rfl] at hlen
  match cs, hlen with
  | [v0, v1, v2, v3], _ =>
    have hx : xs.length = 4 := hxl
    match xs, hx with
    | [y0, y1, y2, y3], _ =>
      have c3 : Try.prog.cellsOf 3 = 1 := by kernel_rfl
      have c2 : Try.prog.cellsOf 2 = 1 := by kernel_rfl
      have g0 : DataW.trod enc Try.prog W base spare held k 3 (([v0, v1, v2, v3].drop 0).take (Try.prog.cellsOf 3)) = some y0 := hf 0 _ rfl
      have g1 : DataW.trod enc Try.prog W base spare held k 3 (([v0, v1, v2, v3].drop 1).take (Try.prog.cellsOf 3)) = some y1 := hf 1 _ rfl
      have g2 : DataW.trod enc Try.prog W base spare held k 3 (([v0, v1, v2, v3].drop 2).take (Try.prog.cellsOf 3)) = some y2 := hf 2 _ rfl
      have g3 : DataW.trod enc Try.prog W base spare held k 2 (([v0, v1, v2, v3].drop 3).take (Try.prog.cellsOf 2)) = some y3 := hf 3 _ rfl
      rw [c3] at g0 g1 g2
      rw [c2] at g3
      obtain ⟨n0, e0, _, w0⟩ := DataW.trod_int Try.underlying3 (show DataW.trod enc Try.prog W base spare held k 3 [v0] = some y0 from g0)
      obtain ⟨n1, e1, _, w1⟩ := DataW.trod_int Try.underlying3 (show DataW.trod enc Try.prog W base spare held k 3 [v1] = some y1 from g1)
      obtain ⟨n2, e2, _, w2⟩ := DataW.trod_int Try.underlying3 (show DataW.trod enc Try.prog W base spare held k 3 [v2] = some y2 from g2)
      obtain ⟨n3, e3, _, w3⟩ := DataW.trod_int Try.underlying2 (show DataW.trod enc Try.prog W base spare held k 2 [v3] = some y3 from g3)
      cases e0; cases e1; cases e2; cases e3
      exact ⟨⟨n0, n1, n2, n3⟩, ⟨ok_of_wf w0, ok_of_wf w1, ok_of_wf w2, ok_of_wf w3⟩, rfl⟩

theorem acts_open {H : Type} {enc : TypeId × Value → H} {W : World} {held : Bool} {fuel : Nat} {a : Option Addr} {len cap : Nat} {x : DataW H × List MemPlace}
    (h : DataW.trod enc Try.prog W 0 (fun _ => true) held fuel 26 [.slice a len cap] = some x) : ∃ A, Acts W a len A ∧ len ≤ 9223372036854775807 := by
  rcases Go.Deep.open_slice Try.underlying26 h with ⟨hcs, _⟩ | ⟨ad, l, c, m, n, D, Pl, hcs, _, hl, hm, hmm, _, hx⟩
  · simp at hcs
    obtain ⟨rfl, rfl, rfl⟩ := hcs
    exact ⟨fun _ => ⟨0, 0, 0, 0⟩, fun h => by omega, by omega⟩
  · simp at hcs
    obtain ⟨rfl, rfl, rfl⟩ := hcs
    have c38 : Try.prog.cellsOf 38 = 4 := by kernel_rfl
    have hmm' : m = cap := by simpa using hmm
    rw [c38] at hx
    have each : ∀ i, i < m → ∃ q : Act4, q.ok ∧ W.cell? (ad.add (i * 4)) = some (.int .i64 q.k) ∧ W.cell? (ad.add (i * 4 + 1)) = some (.int .i64 q.r) ∧ W.cell? (ad.add (i * 4 + 2)) = some (.int .i64 q.n) ∧ W.cell? (ad.add (i * 4 + 3)) = some (.int .i64 q.v) := by
      intro i hi
      obtain ⟨cs', h1, h2⟩ := hx i hi
      obtain ⟨q, hq, rfl⟩ := act_open h2
      obtain ⟨_, hlen, hcell⟩ := World.cells?_some h1
      have e0 := hcell 0 (by omega)
      have e1 := hcell 1 (by omega)
      have e2 := hcell 2 (by omega)
      have e3 := hcell 3 (by omega)
      rw [Go.Deep.add_add] at e0 e1 e2 e3
      exact ⟨q, hq, by simpa using e0, by simpa using e1, by simpa using e2, by simpa using e3⟩
    have : Inhabited Act4 := ⟨⟨0, 0, 0, 0⟩⟩
    obtain ⟨A, hA⟩ := Go.Deep.choose_lt each
    refine ⟨A, fun h0 => ?_, by unfold maxLen at hm; omega⟩
    have hc0 := (hA 0 (by omega)).2.1
    obtain ⟨b, off, spot⟩ := ad
    have hspot : spot = none := by simpa [Addr.add] using World.cell?_spot hc0
    subst hspot
    refine ⟨b, off, rfl, World.block_lt_of_cell? W _ hc0, fun j hj => ?_⟩
    obtain ⟨g0, g1, g2, g3, g4⟩ := hA j (by omega)
    rw [Addr.add_lit] at g1 g2 g3 g4
    exact ⟨g0, g1, by rwa [Nat.add_assoc], by rwa [Nat.add_assoc], by rwa [Nat.add_assoc]⟩


theorem ru_cells {H : Type} {enc : TypeId × Value → H} {W : World} {base : Nat} {spare : Nat → Bool} {held : Bool} {n : Nat} {cs : List Value} {x : DataW H × List MemPlace}
    (h : DataW.trod enc Try.prog W base spare held n 23 cs = some x) : ∃ a b c d e f, cs = [.int .i64 a, .int .i64 b, .int .i64 c, .int .i64 d, .int .i64 e, .int .i64 f] := by
  obtain ⟨xs, k, _, _, hlen, hxl, hf⟩ := DataW.trod_struct Try.underlying23 h
  rw [show Try.prog.cellsOf 23 = 6 by kernel_rfl] at hlen
  match cs, hlen with
  | [v0, v1, v2, v3, v4, v5], _ =>
    have hx : xs.length = 6 := hxl
    match xs, hx with
    | [y0, y1, y2, y3, y4, y5], _ =>
      have c3 : Try.prog.cellsOf 3 = 1 := by kernel_rfl
      have c2 : Try.prog.cellsOf 2 = 1 := by kernel_rfl
      have g0 : DataW.trod enc Try.prog W base spare held k 3 (([v0, v1, v2, v3, v4, v5].drop 0).take (Try.prog.cellsOf 3)) = some y0 := hf 0 _ rfl
      have g1 : DataW.trod enc Try.prog W base spare held k 2 (([v0, v1, v2, v3, v4, v5].drop 1).take (Try.prog.cellsOf 2)) = some y1 := hf 1 _ rfl
      have g2 : DataW.trod enc Try.prog W base spare held k 2 (([v0, v1, v2, v3, v4, v5].drop 2).take (Try.prog.cellsOf 2)) = some y2 := hf 2 _ rfl
      have g3 : DataW.trod enc Try.prog W base spare held k 2 (([v0, v1, v2, v3, v4, v5].drop 3).take (Try.prog.cellsOf 2)) = some y3 := hf 3 _ rfl
      have g4 : DataW.trod enc Try.prog W base spare held k 2 (([v0, v1, v2, v3, v4, v5].drop 4).take (Try.prog.cellsOf 2)) = some y4 := hf 4 _ rfl
      have g5 : DataW.trod enc Try.prog W base spare held k 2 (([v0, v1, v2, v3, v4, v5].drop 5).take (Try.prog.cellsOf 2)) = some y5 := hf 5 _ rfl
      rw [c3] at g0
      rw [c2] at g1 g2 g3 g4 g5
      obtain ⟨n0, e0, _, _⟩ := DataW.trod_int Try.underlying3 (show DataW.trod enc Try.prog W base spare held k 3 [v0] = some y0 from g0)
      obtain ⟨n1, e1, _, _⟩ := DataW.trod_int Try.underlying2 (show DataW.trod enc Try.prog W base spare held k 2 [v1] = some y1 from g1)
      obtain ⟨n2, e2, _, _⟩ := DataW.trod_int Try.underlying2 (show DataW.trod enc Try.prog W base spare held k 2 [v2] = some y2 from g2)
      obtain ⟨n3, e3, _, _⟩ := DataW.trod_int Try.underlying2 (show DataW.trod enc Try.prog W base spare held k 2 [v3] = some y3 from g3)
      obtain ⟨n4, e4, _, _⟩ := DataW.trod_int Try.underlying2 (show DataW.trod enc Try.prog W base spare held k 2 [v4] = some y4 from g4)
      obtain ⟨n5, e5, _, _⟩ := DataW.trod_int Try.underlying2 (show DataW.trod enc Try.prog W base spare held k 2 [v5] = some y5 from g5)
      cases e0; cases e1; cases e2; cases e3; cases e4; cases e5
      exact ⟨n0, n1, n2, n3, n4, n5, rfl⟩
theorem cf_open {H : Type} {enc : TypeId × Value → H} {W : World} {base : Nat} {spare : Nat → Bool} {held : Bool} {n : Nat} {cs : List Value} {x : DataW H × List MemPlace}
    (h : DataW.trod enc Try.prog W base spare held n 25 cs = some x) : ∃ c : Cf, cs = (cfA c).toList := by
  obtain ⟨xs, k, _, _, hlen, hxl, hf⟩ := DataW.trod_struct Try.underlying25 h
  rw [show Try.prog.cellsOf 25 = 15 by kernel_rfl] at hlen
  match cs, hlen with
  | [v0, v1, v2, v3, v4, v5, v6, v7, v8, v9, v10, v11, v12, v13, v14], _ =>
    have hx : xs.length = 10 := hxl
    match xs, hx with
    | [y0, y1, y2, y3, y4, y5, y6, y7, y8, y9], _ =>
      have c3 : Try.prog.cellsOf 3 = 1 := by kernel_rfl
      have c2 : Try.prog.cellsOf 2 = 1 := by kernel_rfl
      have c23 : Try.prog.cellsOf 23 = 6 := by kernel_rfl
      have g0 : DataW.trod enc Try.prog W base spare held k 23 (([v0, v1, v2, v3, v4, v5, v6, v7, v8, v9, v10, v11, v12, v13, v14].drop 0).take (Try.prog.cellsOf 23)) = some y0 := hf 0 _ rfl
      rw [c23] at g0
      obtain ⟨r0, r1, r2, r3, r4, r5, er⟩ := ru_cells (show DataW.trod enc Try.prog W base spare held k 23 [v0, v1, v2, v3, v4, v5] = some y0 from g0)
      have g1 : DataW.trod enc Try.prog W base spare held k 3 (([v0, v1, v2, v3, v4, v5, v6, v7, v8, v9, v10, v11, v12, v13, v14].drop 6).take (Try.prog.cellsOf 3)) = some y1 := hf 1 _ rfl
      have g2 : DataW.trod enc Try.prog W base spare held k 3 (([v0, v1, v2, v3, v4, v5, v6, v7, v8, v9, v10, v11, v12, v13, v14].drop 7).take (Try.prog.cellsOf 3)) = some y2 := hf 2 _ rfl
      have g3 : DataW.trod enc Try.prog W base spare held k 2 (([v0, v1, v2, v3, v4, v5, v6, v7, v8, v9, v10, v11, v12, v13, v14].drop 8).take (Try.prog.cellsOf 2)) = some y3 := hf 3 _ rfl
      have g4 : DataW.trod enc Try.prog W base spare held k 3 (([v0, v1, v2, v3, v4, v5, v6, v7, v8, v9, v10, v11, v12, v13, v14].drop 9).take (Try.prog.cellsOf 3)) = some y4 := hf 4 _ rfl
      have g5 : DataW.trod enc Try.prog W base spare held k 3 (([v0, v1, v2, v3, v4, v5, v6, v7, v8, v9, v10, v11, v12, v13, v14].drop 10).take (Try.prog.cellsOf 3)) = some y5 := hf 5 _ rfl
      have g6 : DataW.trod enc Try.prog W base spare held k 3 (([v0, v1, v2, v3, v4, v5, v6, v7, v8, v9, v10, v11, v12, v13, v14].drop 11).take (Try.prog.cellsOf 3)) = some y6 := hf 6 _ rfl
      have g7 : DataW.trod enc Try.prog W base spare held k 3 (([v0, v1, v2, v3, v4, v5, v6, v7, v8, v9, v10, v11, v12, v13, v14].drop 12).take (Try.prog.cellsOf 3)) = some y7 := hf 7 _ rfl
      have g8 : DataW.trod enc Try.prog W base spare held k 3 (([v0, v1, v2, v3, v4, v5, v6, v7, v8, v9, v10, v11, v12, v13, v14].drop 13).take (Try.prog.cellsOf 3)) = some y8 := hf 8 _ rfl
      have g9 : DataW.trod enc Try.prog W base spare held k 2 (([v0, v1, v2, v3, v4, v5, v6, v7, v8, v9, v10, v11, v12, v13, v14].drop 14).take (Try.prog.cellsOf 2)) = some y9 := hf 9 _ rfl
      rw [c3] at g1 g2 g4 g5 g6 g7 g8
      rw [c2] at g3 g9
      obtain ⟨n1, e1, _, _⟩ := DataW.trod_int Try.underlying3 (show DataW.trod enc Try.prog W base spare held k 3 [v6] = some y1 from g1)
      obtain ⟨n2, e2, _, _⟩ := DataW.trod_int Try.underlying3 (show DataW.trod enc Try.prog W base spare held k 3 [v7] = some y2 from g2)
      obtain ⟨n3, e3, _, _⟩ := DataW.trod_int Try.underlying2 (show DataW.trod enc Try.prog W base spare held k 2 [v8] = some y3 from g3)
      obtain ⟨n4, e4, _, _⟩ := DataW.trod_int Try.underlying3 (show DataW.trod enc Try.prog W base spare held k 3 [v9] = some y4 from g4)
      obtain ⟨n5, e5, _, _⟩ := DataW.trod_int Try.underlying3 (show DataW.trod enc Try.prog W base spare held k 3 [v10] = some y5 from g5)
      obtain ⟨n6, e6, _, _⟩ := DataW.trod_int Try.underlying3 (show DataW.trod enc Try.prog W base spare held k 3 [v11] = some y6 from g6)
      obtain ⟨n7, e7, _, _⟩ := DataW.trod_int Try.underlying3 (show DataW.trod enc Try.prog W base spare held k 3 [v12] = some y7 from g7)
      obtain ⟨n8, e8, _, _⟩ := DataW.trod_int Try.underlying3 (show DataW.trod enc Try.prog W base spare held k 3 [v13] = some y8 from g8)
      obtain ⟨n9, e9, _, _⟩ := DataW.trod_int Try.underlying2 (show DataW.trod enc Try.prog W base spare held k 2 [v14] = some y9 from g9)
      cases er; cases e1; cases e2; cases e3; cases e4; cases e5; cases e6; cases e7; cases e8; cases e9
      exact ⟨⟨r0, r1, r2, r3, r4, r5, n1, n2, n3, n4, n5, n6, n7, n8, n9⟩, rfl⟩
theorem cf_in {H : Type} {enc : TypeId × Value → H} {W : World} {base : Nat} {spare : Nat → Bool} {held : Bool} {n : Nat} {cs : Array Value} {x : DataW H × List MemPlace}
    (h : DataW.trod enc Try.prog W base spare held n 25 (Value.agg cs).cells.toList = some x) : ∃ r : Cf, cs = cfA r := by
  obtain ⟨r, hr⟩ := cf_open h
  exact ⟨r, Array.toList_inj.1 hr⟩
theorem acts_in {H : Type} {enc : TypeId × Value → H} {W : World} {held : Bool} {fuel : Nat} {a : Option Addr} {len cap : Nat} {x : DataW H × List MemPlace}
    (h : DataW.trod enc Try.prog W 0 (fun _ => true) held fuel 26 (Value.slice a len cap).cells.toList = some x) : ∃ A, Acts W a len A ∧ (a = none → len = 0 ∧ cap = 0) ∧ len ≤ 9223372036854775807 := by
  have h' : DataW.trod enc Try.prog W 0 (fun _ => true) held fuel 26 [.slice a len cap] = some x := h
  obtain ⟨A, hA, hl⟩ := acts_open h'
  refine ⟨A, hA, ?_, hl⟩
  intro e
  subst e
  rcases Go.Deep.open_slice Try.underlying26 h' with ⟨hcs, _⟩ | ⟨ad, l, c, m, n, D, Pl, hcs, _⟩
  · simp at hcs; exact hcs
  · simp at hcs
theorem acts_len {H : Type} {enc : TypeId × Value → H} {W : World} {held : Bool} {fuel : Nat} {a : Option Addr} {len cap : Nat} {x : DataW H × List MemPlace}
    (h : DataW.trod enc Try.prog W 0 (fun _ => true) held fuel 26 [.slice a len cap] = some x) : len = 0 ∨ ∃ elems spare, x.1 = .slice elems spare ∧ elems.length = len := by
  rcases Go.Deep.open_slice Try.underlying26 h with ⟨hcs, _⟩ | ⟨ad, l, c, m, n, D, Pl, hcs, _, hl, hm, hmm, hx, _⟩
  · simp at hcs
    exact .inl hcs.2.1
  · simp at hcs
    obtain ⟨rfl, rfl, rfl⟩ := hcs
    exact .inr ⟨_, _, by rw [hx], by simp⟩
end Go.Proofs.Ytdanedibjccldaa
