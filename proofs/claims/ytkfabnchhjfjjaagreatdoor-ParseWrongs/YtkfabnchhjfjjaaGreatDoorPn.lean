/-
  Plain: what is left of the tokens was there before.
-/
import Derived.Test.YtkfabnchhjfjjaaGreatDoorPm
namespace Go.Proofs.YtkfabnchhjfjjaaGreatDoor
open Go.RowKit
theorem bind_ok {α β : Type} {x : Except Ft α} {f : α → Except Ft β} {y : β} (h : (x >>= f) = .ok y) : ∃ a, x = .ok a ∧ f a = .ok y := by
  cases x with
  | error e => cases h
  | ok a => exact ⟨a, rfl, h⟩
/-- What is left was there before. -/
def Subs (p : List Tk → Except Ft (Tr × List Tk)) : Prop := ∀ ts t r, p ts = .ok (t, r) → ∀ x ∈ r, x ∈ ts
theorem gStep_sub {ts : List Tk} {q : Tk × List Tk} (h : gStep ts = .ok q) : ∀ x ∈ q.2, x ∈ ts := by
  cases ts with
  | nil => cases h
  | cons t ts => cases h; intro x hx; exact List.mem_cons_of_mem _ hx
theorem gTake_sub {y : ByteArray} {ts : List Tk} {q : Tk × List Tk} (h : gTake y ts = .ok q) : ∀ x ∈ q.2, x ∈ ts := by
  unfold gTake at h
  obtain ⟨_, _, h⟩ := bind_ok h
  obtain ⟨_, _, h⟩ := bind_ok h
  exact gStep_sub h
theorem gOpn_sub {d : Nat} {ts : List Tk} {q : Tk × List Tk} (h : gOpn d ts = .ok q) : ∀ x ∈ q.2, x ∈ ts := by
  unfold gOpn at h
  obtain ⟨_, _, h⟩ := bind_ok h
  exact gStep_sub h
theorem gLit_sub : Subs gLit := by
  intro ts t r h
  unfold gLit at h
  obtain ⟨_, _, h⟩ := bind_ok h
  obtain ⟨_, _, h⟩ := bind_ok h
  obtain ⟨q, h1, h⟩ := bind_ok h
  cases h
  exact gStep_sub h1
theorem gRowR_sub (oper : ByteArray → Int) {part : List Tk → Except Ft (Tr × List Tk)} (hp : Subs part) : ∀ m n, Subs (gRowR oper part m n) := by
  intro m
  induction m with
  | zero => intro n ts t r h x hx; cases h; exact hx
  | succ m ih =>
    intro n ts t r h
    unfold gRowR at h
    obtain ⟨u, _, h⟩ := bind_ok h
    split at h
    · cases h; exact fun x hx => hx
    · obtain ⟨q, h1, h⟩ := bind_ok h
      obtain ⟨q2, h2, h⟩ := bind_ok h
      exact fun x hx => gStep_sub h1 x (hp _ _ _ h2 x (ih _ _ _ _ h x hx))
theorem gRow_sub (oper : ByteArray → Int) {part : List Tk → Except Ft (Tr × List Tk)} (hp : Subs part) (m : Nat) : Subs (gRow oper part m) := by
  intro ts t r h
  unfold gRow at h
  obtain ⟨q, h1, h⟩ := bind_ok h
  exact fun x hx => hp _ _ _ h1 x (gRowR_sub oper hp m _ _ _ _ h x hx)
theorem gOne_sub {ex : List Tk → Except Ft (Tr × List Tk)} (he : Subs ex) (d : Nat) : Subs (gOne ex d) := by
  intro ts t r h
  unfold gOne at h
  obtain ⟨u, _, h⟩ := bind_ok h
  split at h
  · obtain ⟨q1, h1, h⟩ := bind_ok h
    obtain ⟨q2, h2, h⟩ := bind_ok h
    obtain ⟨q3, h3, h⟩ := bind_ok h
    cases h
    exact fun x hx => gOpn_sub h1 x (he _ _ _ h2 x (gTake_sub h3 x hx))
  split at h
  · obtain ⟨q1, h1, h⟩ := bind_ok h
    obtain ⟨_, _, h⟩ := bind_ok h
    obtain ⟨_, _, h⟩ := bind_ok h
    obtain ⟨q2, h2, h⟩ := bind_ok h
    cases h
    exact fun x hx => gStep_sub h1 x (gStep_sub h2 x hx)
  split at h
  · obtain ⟨q1, h1, h⟩ := bind_ok h
    obtain ⟨⟨u2, r2⟩, h2, h⟩ := bind_ok h
    simp only at h
    split at h
    · obtain ⟨q3, h3, h⟩ := bind_ok h
      obtain ⟨q4, h4, h⟩ := bind_ok h
      cases h
      exact fun x hx => gOpn_sub h1 x (gTake_sub h2 x (he _ _ _ h3 x (gTake_sub h4 x hx)))
    · obtain ⟨q3, h3, h⟩ := bind_ok h
      obtain ⟨q4, h4, h⟩ := bind_ok h
      obtain ⟨q5, h5, h⟩ := bind_ok h
      obtain ⟨q6, h6, h⟩ := bind_ok h
      cases h
      exact fun x hx => gOpn_sub h1 x (gTake_sub h2 x (he _ _ _ h3 x (gTake_sub h4 x (he _ _ _ h5 x (gTake_sub h6 x hx)))))
  split at h
  · obtain ⟨q1, h1, h⟩ := bind_ok h
    obtain ⟨q2, h2, h⟩ := bind_ok h
    obtain ⟨q3, h3, h⟩ := bind_ok h
    obtain ⟨q4, h4, h⟩ := bind_ok h
    cases h
    exact fun x hx => gOpn_sub h1 x (gTake_sub h2 x (he _ _ _ h3 x (gTake_sub h4 x hx)))
  split at h
  · obtain ⟨q1, h1, h⟩ := bind_ok h
    cases h
    exact gStep_sub h1
  split at h
  · obtain ⟨q1, h1, h⟩ := bind_ok h
    cases h
    exact gStep_sub h1
  exact gLit_sub _ _ _ h
theorem gUn_sub {ex un : List Tk → Except Ft (Tr × List Tk)} (he : Subs ex) (hu : Subs un) (d : Nat) : Subs (gUn ex un d) := by
  intro ts t r h
  unfold gUn at h
  obtain ⟨u, _, h⟩ := bind_ok h
  split at h
  · exact gOne_sub he d _ _ _ h
  · obtain ⟨q1, h1, h⟩ := bind_ok h
    obtain ⟨q2, h2, h⟩ := bind_ok h
    cases h
    exact fun x hx => gOpn_sub h1 x (hu _ _ _ h2 x hx)
theorem gEx_sub {ex un : List Tk → Except Ft (Tr × List Tk)} (he : Subs ex) (hu : Subs un) (d : Nat) : Subs (gEx ex un d) := by
  intro ts t r h
  unfold gEx at h
  obtain ⟨q, h0, h⟩ := bind_ok h
  have hr := gRow_sub orX (gRow_sub andX (gRow_sub cmpX (gRow_sub sumX (gRow_sub proX (gUn_sub he hu d) 4096) 4096) 1) 4096) 4096 _ _ _ h0
  obtain ⟨b, _, h⟩ := bind_ok h
  split at h
  · cases h; exact hr
  · obtain ⟨q1, h1, h⟩ := bind_ok h
    obtain ⟨q2, h2, h⟩ := bind_ok h
    obtain ⟨q3, h3, h⟩ := bind_ok h
    obtain ⟨q4, h4, h⟩ := bind_ok h
    cases h
    exact fun x hx => hr x (gOpn_sub h1 x (he _ _ _ h2 x (gTake_sub h3 x (he _ _ _ h4 x hx))))
theorem exF_sub : ∀ f d, Subs (exF f d) ∧ Subs (unF f d) := by
  intro f
  induction f with
  | zero => intro d; exact ⟨fun ts t r h => (by rw [exF] at h; cases h), fun ts t r h => (by rw [unF] at h; cases h)⟩
  | succ f ih =>
    intro d
    refine ⟨fun ts t r h => ?_, fun ts t r h => ?_⟩
    · rw [exF] at h; exact gEx_sub (ih (d + 1)).1 (ih (d + 1)).2 d ts t r h
    · rw [unF] at h; exact gUn_sub (ih (d + 1)).1 (ih (d + 1)).2 d ts t r h
end Go.Proofs.YtkfabnchhjfjjaaGreatDoor
