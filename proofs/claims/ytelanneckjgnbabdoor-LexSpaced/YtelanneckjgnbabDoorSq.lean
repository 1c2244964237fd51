/-
  Plain: other gaps between the tokens.
-/
import Derived.Test.YtelanneckjgnbabDoorJp
namespace Go.Proofs.YtelanneckjgnbabDoor
open Go.RowKit

def zp : List Tk → (Nat → List UInt8) → Nat → List (Tk × List UInt8)
  | [], _, _ => []
  | t :: L, γ, i => (t, γ i) :: zp L γ (i + 1)
theorem zp_len (γ : Nat → List UInt8) : ∀ (L : List Tk) (i : Nat), (zp L γ i).length = L.length
  | [], i => rfl
  | t :: L, i => by rw [zp, List.length_cons, List.length_cons, zp_len γ L]
theorem zp_at (γ : Nat → List UInt8) : ∀ (L : List Tk) (i j : Nat) (h : j < (zp L γ i).length), ((zp L γ i)[j]).1 = lsF L j
  | [], i, j, h => absurd h (by simp [zp])
  | t :: L, i, 0, h => rfl
  | t :: L, i, j + 1, h => zp_at γ L (i + 1) j (by simpa [zp] using h)
theorem zp_fine {s : ByteArray} {γ : Nat → List UInt8} (hγ : ∀ j, Gap (γ j)) {f : Nat} {L : List Tk} (h : Chain s f L) : ∀ i, Fine (zp L γ i) := by
  induction h with
  | fin f h1 h2 => intro i; exact .fin _ _ ⟨rfl, rfl, rfl, rfl⟩ (hγ i)
  | more f p t L hg hp h1 h2 h3 h4 h5 ih => intro i; exact .more _ _ _ hg (hγ i) (ih (i + 1))
theorem drop_lsF {L : List Tk} {i : Nat} (h : i < L.length) : L.drop i = lsF L i :: L.drop (i + 1) := by
  rw [List.drop_eq_getElem_cons h]
  unfold lsF
  simp [List.getD, h]
/-- The six gaps. -/
def gapT : List (List UInt8) := [[32], [10], [9, 13], [32, 32], [35, 32, 120, 32, 35, 10], [35, 10, 10]]
def gapA (k : Nat) : List UInt8 := gapT.getD k [32]
theorem gap_all : ∀ k, Gap (gapA k) := by
  have h : ∀ g ∈ gapT, ov g false = g.length ∧ g.foldl remB false = false ∧ stopB (g.headD 0) = true ∧ g ≠ [] := by decide
  have h2 : ∀ g, g ∈ gapT → Gap g := fun g hg => by
    obtain ⟨h1, h2, h3, h4⟩ := h g hg
    cases g with
    | nil => exact absurd rfl h4
    | cons c m => exact ⟨h1, h2, c, m, rfl, h3⟩
  intro k
  unfold gapA
  by_cases hk : k < gapT.length
  · rw [List.getD_eq_getElem?_getD, List.getElem?_eq_getElem hk]
    exact h2 _ (List.getElem_mem hk)
  · rw [List.getD_eq_getElem?_getD, List.getElem?_eq_none (by omega)]
    exact h2 [32] (by decide)
theorem gap_len (k : Nat) : (gapA k).length ≤ 6 := by
  have h : ∀ g ∈ gapT, g.length ≤ 6 := by decide
  unfold gapA
  by_cases hk : k < gapT.length
  · rw [List.getD_eq_getElem?_getD, List.getElem?_eq_getElem hk]
    exact h _ (List.getElem_mem hk)
  · rw [List.getD_eq_getElem?_getD, List.getElem?_eq_none (by omega)]
    decide
/-- Which gap stands behind a token. -/
def gam (zs : List Int) (len : Nat) (i : Nat) : List UInt8 := gapA (if i < len then (zs.getD i 0).toNat % 6 else 0)
theorem gam_in {zs : List Int} {len i : Nat} (h : i < len) : gam zs len i = gapA ((zs.getD i 0).toNat % 6) := by unfold gam; rw [if_pos h]
theorem gam_out {zs : List Int} {len i : Nat} (h : ¬ i < len) : gam zs len i = [32] := by unfold gam; rw [if_neg h]; rfl
/-- The text with other gaps has the same tokens, but for places. -/
theorem spaced_all {s o : ByteArray} {γ : Nat → List UInt8} (hγ : ∀ j, Gap (γ j)) (hs : tksE s = 0) (ho : o.data.toList = outL (zp (tksL s) γ 0)) (hl : o.size ≤ 4096) :
    tksE o = 0 ∧ (tksL o).length = (tksL s).length ∧ ∀ j, j < (tksL s).length → sameB (lsF (tksL o) j) (lsF (tksL s) j) := by
  obtain ⟨_, _, _, hc⟩ := tks_len hs
  obtain ⟨e1, e2, e3⟩ := spaced (zp (tksL s) γ 0) (zp_fine hγ hc 0) o [] [] rfl rfl (by rw [ho]; rfl)
  obtain ⟨a1, a2, _⟩ := tks_short' (s := o) (by omega)
  have hE : tksE o = 0 := by rw [a1]; exact e1
  refine ⟨hE, ?_, fun j hj => ?_⟩
  · rw [a2 hE]; exact e2.trans (zp_len γ _ 0)
  · have := e3 j (by rw [zp_len]; exact hj)
    rw [zp_at] at this
    rw [a2 hE]
    exact this
end Go.Proofs.YtelanneckjgnbabDoor
