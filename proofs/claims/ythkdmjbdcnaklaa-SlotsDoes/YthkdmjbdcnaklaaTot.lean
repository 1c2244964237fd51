/-
  Each call of an arena with whatever numbers: it stays an arena. The acts that came in. Marks at a function's end.
-/
import Derived.Test.YthkdmjbdcnaklaaIt
import Derived.Test.YthkdmjbdcnaklaaClr
import Derived.Test.YthkdmjbdcnaklaaWorks
import Derived.Laws.ResultCell
namespace Go.Proofs.Ythkdmjbdcnaklaa
open Go.RowKit Go.Shelf

variable {w : World} {p : Pl} {nr : Nat} {room : Int} {q : Nat → List Nat} {th : Nat → Int}

theorem row_cases (row : Int) (nr : Nat) : (∃ i : Nat, row = i ∧ i < nr) ∨ (row < 0 ∨ (nr : Int) ≤ row) := by
  by_cases h : 0 ≤ row ∧ row < nr
  · exact .inl ⟨row.toNat, by omega, by omega⟩
  · exact .inr (by omega)
theorem num_cases (nr : Nat) (q : Nat → List Nat) (n : Int) : (∃ (i k m : Nat), i < nr ∧ n = m ∧ (q i)[k]? = some m) ∨ Non nr q n := by
  by_cases h : ∃ (i : Nat) (m : Nat), i < nr ∧ n = m ∧ m ∈ q i
  · obtain ⟨i, m, hi, hm, hmem⟩ := h
    obtain ⟨k, hk⟩ := List.getElem?_of_mem hmem
    exact .inl ⟨i, k, m, hi, hm, hk⟩
  · exact .inr (fun i hi m hm hmem => h ⟨i, m, hi, hm, hmem⟩)

/-- It is an arena still. -/
def Still (w : World) (p : Pl) (nr : Nat) (room : Int) (w' : World) : Prop := ∃ p' q' th', RepI w' p' nr room q' th' ∧ Stp w p w' p'

theorem push_tot (h : RepI w p nr room q th) (row x : Int) : Calls Try.prog 15 #[.pointer (some ⟨p.A, 0, none⟩), .int .i64 row, .int .i64 x] w fun e w' => (∃ v, e = .returned v) ∧ Still w p nr room w' := by
  rcases row_cases row nr with ⟨i, rfl, hi⟩ | hr
  · have hb := h.bound
    by_cases hf : (total q nr : Int) = room
    · exact (rep_push_fullI h hi hf x).mono fun e w' ⟨he, hm⟩ => ⟨⟨_, he⟩, p, q, th, h.quiet hm, Stp.quiet p hm⟩
    · exact (rep_pushI h hi (by omega) x).mono fun e w' ⟨n, _, he, p', hr, hs⟩ => ⟨⟨_, he⟩, p', _, _, hr, hs⟩
  · exact (rep_push_badI h hr x).mono fun e w' ⟨he, hw⟩ => ⟨⟨_, he⟩, p, q, th, by rw [hw]; exact h, by rw [hw]; exact Stp.refl _ _⟩
theorem take_tot (h : RepI w p nr room q th) (n : Int) : Calls Try.prog 16 #[.pointer (some ⟨p.A, 0, none⟩), .int .i64 n] w fun e w' => (∃ v, e = .returned v) ∧ Still w p nr room w' := by
  rcases num_cases nr q n with ⟨i, k, m, hi, rfl, hk⟩ | hn
  · exact (rep_takeI h hi hk).mono fun e w' ⟨he, p', hr, hs⟩ => ⟨⟨_, he⟩, p', _, _, hr, hs⟩
  · exact (rep_take_noI h hn).mono fun e w' ⟨he, hw⟩ => ⟨⟨_, he⟩, p, q, th, by rw [hw]; exact h, by rw [hw]; exact Stp.refl _ _⟩
theorem clear_tot (h : RepI w p nr room q th) (row : Int) : Calls Try.prog 17 #[.pointer (some ⟨p.A, 0, none⟩), .int .i64 row] w fun e w' => (∃ v, e = .returned v) ∧ Still w p nr room w' := by
  rcases row_cases row nr with ⟨i, rfl, hi⟩ | hr
  · exact (rep_clear h hi).mono fun e w' ⟨he, p', hr, hs⟩ => ⟨⟨_, he⟩, p', _, _, hr, hs⟩
  · exact (rep_clear_no h hr).mono fun e w' ⟨he, hw⟩ => ⟨⟨_, he⟩, p, q, th, by rw [hw]; exact h, by rw [hw]; exact Stp.refl _ _⟩

/-- One act. -/
structure Act4 where
  k : Int
  r : Int
  n : Int
  v : Int
def Act4.ok (a : Act4) : Prop := (-9223372036854775808 ≤ a.k ∧ a.k ≤ 9223372036854775807) ∧ (-9223372036854775808 ≤ a.r ∧ a.r ≤ 9223372036854775807) ∧ (-9223372036854775808 ≤ a.n ∧ a.n ≤ 9223372036854775807) ∧ (-9223372036854775808 ≤ a.v ∧ a.v ≤ 9223372036854775807)
/-- The acts that came in. -/
def Acts (w : World) (la : Option Addr) (ll : Nat) (A : Nat → Act4) : Prop :=
  0 < ll → ∃ b off, la = some ⟨b, off, none⟩ ∧ b < w.heap.size ∧ ∀ j, j < ll → (A j).ok ∧ w.cell? ⟨b, off + j * 4, none⟩ = some (.int .i64 (A j).k) ∧ w.cell? ⟨b, off + j * 4 + 1, none⟩ = some (.int .i64 (A j).r) ∧
    w.cell? ⟨b, off + j * 4 + 2, none⟩ = some (.int .i64 (A j).n) ∧ w.cell? ⟨b, off + j * 4 + 3, none⟩ = some (.int .i64 (A j).v)

/-- The marks that loops over functions have left. -/
def mark (D : Nat) : Deferred := { target := .collected D, args := #[] }
theorem leaves_marks {fn : Func} {tmps : Array Value} {R : Ending → World → Prop} {v : Value} (Ds : List Nat) : ∀ (W : World), Ds.Nodup → (∀ D, D ∈ Ds → W.heap[D]? = some (.deferred (some []))) →
    (∀ W', Mv W W' (fun k => k ∈ Ds) → (results fn tmps).run Try.prog W' = .ok v W' ∧ R (.returned v) W') → LeavesInM Fence.wide 3 Try.prog fn tmps R (Ds.map mark) .returning W := by
  induction Ds with
  | nil => intro W _ _ h; exact ⟨v, (h W (Mv.refl _ _)).1, (h W (Mv.refl _ _)).2⟩
  | cons D Ds ih =>
    intro W hnd hD h
    rw [List.nodup_cons] at hnd
    have h0 := hD D (by simp)
    refine ⟨by simp, .inl ⟨D, _, rfl, run_takeDeferred h0, ?_⟩⟩
    have hput : Mv W (W.putObj D (.deferred none)) (fun k => k = D) := ⟨rfl, rfl, rfl, by simp, fun k _ hk => World.putObj_heap_other (fun e => hk e)⟩
    refine ih _ hnd.2 (fun D' hD' => ?_) (fun W' m => h W' ?_)
    · rw [World.putObj_heap_other (fun e => hnd.1 (by rw [← e]; exact hD'))]
      exact hD D' (by simp [hD'])
    · exact (hput.mono (F' := fun k => k ∈ D :: Ds) (fun b e => by rw [e]; simp)).trans m (fun b e => .inl (by simp [e]))

end Go.Proofs.Ythkdmjbdcnaklaa
