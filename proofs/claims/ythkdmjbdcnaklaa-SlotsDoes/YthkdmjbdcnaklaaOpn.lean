/-
  A slice of acts that came in, opened.
-/
import Derived.Test.YthkdmjbdcnaklaaTot
import Derived.Deep.Slices
import Derived.ProofKit
import Derived.OpenShut
namespace Go.Proofs.Ythkdmjbdcnaklaa
open Go.ChangeShapes Go.WideShapes Go.ChangeAt Go.RowKit

theorem ok_of_wf {n : Int} (h : (Lit.int .i64 n).wf = true) : -9223372036854775808 ≤ n ∧ n ≤ 9223372036854775807 := bounds_i64 h

theorem act_open {H : Type} {enc : TypeId × Value → H} {W : World} {base : Nat} {spare : Nat → Bool} {held : Bool} {n : Nat} {cs : List Value} {x : DataW H × List MemPlace}
    (h : DataW.trod enc Try.prog W base spare held n 38 cs = some x) : ∃ a : Act4, a.ok ∧ cs = [.int .i64 a.k, .int .i64 a.r, .int .i64 a.n, .int .i64 a.v] := by
  obtain ⟨xs, k, _, _, hlen, hxl, hf⟩ := DataW.trod_struct Try.underlying38 h
  rw [show Try.prog.cellsOf 38 = 4 by kernel_rfl] at hlen
  match cs, hlen with
  | [v0, v1, v2, v3], _ =>
    have hx : xs.length = 4 := hxl
    match xs, hx with
    | [y0, y1, y2, y3], _ =>
      have c3 : Try.prog.cellsOf 3 = 1 := by kernel_rfl
      have c2 : Try.prog.cellsOf 2 = 1 := by kernel_rfl
      have g0 : DataW.trod enc Try.prog W base spare held k 3 (([v0, v1, v2, v3].drop 0).take (Try.prog.cellsOf 3)) = some y0 := hf 0 _ rfl
      have g1 : DataW.trod enc Try.prog W base spare held k 3 (([v0, v1, v2, v3].drop 1).take (Try.prog.cellsOf 3)) = some y1 := hf 1 _ rfl
      have g2 : DataW.trod enc Try.prog W base spare held k 3 (([v0, v1, v2, v3].drop 2).take (Try.prog.cellsOf 3)) = some y2 := hf 2 _ rfl
      have g3 : DataW.trod enc Try.prog W base spare held k 2 (([v0, v1, v2, v3].drop 3).take (Try.prog.cellsOf 2)) = some y3 := hf 3 _ rfl
      rw [c3] at g0 g1 g2
      rw [c2] at g3
      obtain ⟨n0, e0, _, w0⟩ := DataW.trod_int Try.underlying3 (show DataW.trod enc Try.prog W base spare held k 3 [v0] = some y0 from g0)
      obtain ⟨n1, e1, _, w1⟩ := DataW.trod_int Try.underlying3 (show DataW.trod enc Try.prog W base spare held k 3 [v1] = some y1 from g1)
      obtain ⟨n2, e2, _, w2⟩ := DataW.trod_int Try.underlying3 (show DataW.trod enc Try.prog W base spare held k 3 [v2] = some y2 from g2)
      obtain ⟨n3, e3, _, w3⟩ := DataW.trod_int Try.underlying2 (show DataW.trod enc Try.prog W base spare held k 2 [v3] = some y3 from g3)
      cases e0; cases e1; cases e2; cases e3
      exact ⟨⟨n0, n1, n2, n3⟩, ⟨ok_of_wf w0, ok_of_wf w1, ok_of_wf w2, ok_of_wf w3⟩, rfl⟩

theorem acts_open {H : Type} {enc : TypeId × Value → H} {W : World} {held : Bool} {fuel : Nat} {a : Option Addr} {len cap : Nat} {x : DataW H × List MemPlace}
    (h : DataW.trod enc Try.prog W 0 (fun _ => true) held fuel 22 [.slice a len cap] = some x) : ∃ A, Acts W a len A ∧ len ≤ 9223372036854775807 := by
  rcases Go.Deep.open_slice Try.underlying22 h with ⟨hcs, _⟩ | ⟨ad, l, c, m, n, D, Pl, hcs, _, hl, hm, hmm, _, hx⟩
  · simp at hcs
    obtain ⟨rfl, rfl, rfl⟩ := hcs
    exact ⟨fun _ => ⟨0, 0, 0, 0⟩, fun h => by omega, by omega⟩
  · simp at hcs
    obtain ⟨rfl, rfl, rfl⟩ := hcs
    have c38 : Try.prog.cellsOf 38 = 4 := by kernel_rfl
    have hmm' : m = cap := by simpa using hmm
    rw [c38] at hx
    have each : ∀ i, i < m → ∃ q : Act4, q.ok ∧ W.cell? (ad.add (i * 4)) = some (.int .i64 q.k) ∧ W.cell? (ad.add (i * 4 + 1)) = some (.int .i64 q.r) ∧ W.cell? (ad.add (i * 4 + 2)) = some (.int .i64 q.n) ∧ W.cell? (ad.add (i * 4 + 3)) = some (.int .i64 q.v) := by
      intro i hi
      obtain ⟨cs', h1, h2⟩ := hx i hi
      obtain ⟨q, hq, rfl⟩ := act_open h2
      obtain ⟨_, hlen, hcell⟩ := World.cells?_some h1
      have e0 := hcell 0 (by omega)
      have e1 := hcell 1 (by omega)
      have e2 := hcell 2 (by omega)
      have e3 := hcell 3 (by omega)
      rw [Go.Deep.add_add] at e0 e1 e2 e3
      exact ⟨q, hq, by simpa using e0, by simpa using e1, by simpa using e2, by simpa using e3⟩
    have : Inhabited Act4 := ⟨⟨0, 0, 0, 0⟩⟩
    obtain ⟨A, hA⟩ := Go.Deep.choose_lt each
    refine ⟨A, fun h0 => ?_, by unfold maxLen at hm; omega⟩
    have hc0 := (hA 0 (by omega)).2.1
    obtain ⟨b, off, spot⟩ := ad
    have hspot : spot = none := by simpa [Addr.add] using World.cell?_spot hc0
    subst hspot
    refine ⟨b, off, rfl, World.block_lt_of_cell? W _ hc0, fun j hj => ?_⟩
    obtain ⟨g0, g1, g2, g3, g4⟩ := hA j (by omega)
    rw [Addr.add_lit] at g1 g2 g3 g4
    exact ⟨g0, g1, by rwa [Nat.add_assoc], by rwa [Nat.add_assoc], by rwa [Nat.add_assoc]⟩

end Go.Proofs.Ythkdmjbdcnaklaa
