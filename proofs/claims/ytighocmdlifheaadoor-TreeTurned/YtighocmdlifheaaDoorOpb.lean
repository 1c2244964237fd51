/-
  A row of bytes that came in, opened.
-/
import Derived.Test.YtighocmdlifheaaDoorTn
import Derived.Test.YtighocmdlifheaaDoorOpn
namespace Go.Proofs.YtighocmdlifheaaDoor
open Go.ChangeShapes Go.WideShapes Go.ChangeAt Go.RowKit
theorem bts_in {H : Type} {enc : TypeId × Value → H} {W : World} {held : Bool} {fuel : Nat} {a : Option Addr} {len cap : Nat} {x : DataW H × List MemPlace}
    (h : DataW.trod enc Tryd.prog W 0 (fun _ => true) held fuel 60 [.slice a len cap] = some x) : Bts W a len := by
  rcases Go.Deep.open_slice1 (show Tryd.prog.underlying 60 = some (.slice 5) by kernel_rfl) (by kernel_rfl) h with ⟨hcs, _⟩ | ⟨ad, l, c, m, n, V, D, Pl, hcs, _, hl, hm, hmm, _, hx⟩
  · simp at hcs
    obtain ⟨rfl, rfl, rfl⟩ := hcs
    exact ⟨by omega, fun i hi => by omega⟩
  · simp at hcs
    obtain ⟨rfl, rfl, rfl⟩ := hcs
    have hmm' : m = cap := by simpa using hmm
    refine ⟨by unfold maxLen at hm; omega, fun i hi => ?_⟩
    obtain ⟨h0, _⟩ := hx 0 (by omega)
    obtain ⟨h1, h2⟩ := hx i (by omega)
    obtain ⟨z, e, _, hw⟩ := DataW.trod_int (show Tryd.prog.underlying 5 = some (.int .u8) by kernel_rfl) h2
    obtain ⟨b, off, spot⟩ := ad
    have hspot : spot = none := by simpa [Addr.add] using World.cell?_spot h0
    subst hspot
    have e' : V i = .int .u8 z := by simpa using e
    rw [Addr.add_lit, e'] at h1
    exact ⟨b, off, z, rfl, h1, (bounds_u8 hw).1, (bounds_u8 hw).2⟩
end Go.Proofs.YtighocmdlifheaaDoor
