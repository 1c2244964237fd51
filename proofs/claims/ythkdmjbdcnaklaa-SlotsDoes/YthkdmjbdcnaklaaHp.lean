/-
  Plain: heaps of distinct numbers as functions on places; what one step up, one step down does.
-/
import Derived.Test.YthkdmjbdcnaklaaAr
namespace Go.Proofs.Ythkdmjbdcnaklaa

def Mem (n : Nat) (f : Nat → Int) (x : Int) : Prop := ∃ i, i < n ∧ f i = x
def Inj (n : Nat) (f : Nat → Int) : Prop := ∀ i j, i < n → j < n → f i = f j → i = j
def Heap (n : Nat) (f : Nat → Int) : Prop := ∀ k, 0 < k → k < n → f ((k - 1) / 2) ≤ f k
def swp (f : Nat → Int) (i j : Nat) (k : Nat) : Int := if k = i then f j else if k = j then f i else f k
def HeapBut (n : Nat) (f : Nat → Int) (j : Nat) : Prop :=
  (∀ k, 0 < k → k < n → k ≠ j → f ((k - 1) / 2) ≤ f k) ∧ ∀ k, 0 < k → k < n → (k - 1) / 2 = j → 0 < j → f ((j - 1) / 2) ≤ f k

theorem swp_l (f : Nat → Int) (i j : Nat) : swp f i j i = f j := by simp [swp]
theorem swp_r (f : Nat → Int) (i j : Nat) : swp f i j j = f i := by unfold swp; split <;> simp_all
theorem swp_o (f : Nat → Int) {i j k : Nat} (h1 : k ≠ i) (h2 : k ≠ j) : swp f i j k = f k := by simp [swp, h1, h2]

theorem mem_swp {n : Nat} {f : Nat → Int} {i j : Nat} (hi : i < n) (hj : j < n) (x : Int) : Mem n (swp f i j) x ↔ Mem n f x := by
  constructor
  · rintro ⟨k, hk, rfl⟩
    by_cases h1 : k = i
    · subst h1; exact ⟨j, hj, (swp_l ..).symm⟩
    by_cases h2 : k = j
    · subst h2; exact ⟨i, hi, (swp_r ..).symm⟩
    exact ⟨k, hk, (swp_o f h1 h2).symm⟩
  · rintro ⟨k, hk, rfl⟩
    by_cases h1 : k = i
    · subst h1; exact ⟨j, hj, swp_r ..⟩
    by_cases h2 : k = j
    · subst h2; exact ⟨i, hi, swp_l ..⟩
    exact ⟨k, hk, swp_o f h1 h2⟩
theorem inj_swp {n : Nat} {f : Nat → Int} {i j : Nat} (hi : i < n) (hj : j < n) (h : Inj n f) : Inj n (swp f i j) := by
  intro a b ha hb e
  by_cases a1 : a = i
  · subst a1
    rw [swp_l] at e
    by_cases b1 : b = a
    · exact b1.symm
    by_cases b2 : b = j
    · subst b2; rw [swp_r] at e; exact h _ _ hi hj e.symm
    · rw [swp_o f b1 b2] at e; exact absurd (h _ _ hj hb e).symm b2
  by_cases a2 : a = j
  · subst a2
    rw [swp_r] at e
    by_cases b1 : b = i
    · subst b1; rw [swp_l] at e; exact (h _ _ hi hj e).symm
    by_cases b2 : b = a
    · exact b2.symm
    · rw [swp_o f b1 b2] at e; exact absurd (h _ _ hi hb e).symm b1
  rw [swp_o f a1 a2] at e
  by_cases b1 : b = i
  · subst b1; rw [swp_l] at e; exact absurd (h _ _ ha hj e) a2
  by_cases b2 : b = j
  · subst b2; rw [swp_r] at e; exact absurd (h _ _ ha hi e) a1
  rw [swp_o f b1 b2] at e
  exact h _ _ ha hb e

theorem up_end {n : Nat} {f : Nat → Int} {j : Nat} (h : HeapBut n f j) (hj : j = 0 ∨ f ((j - 1) / 2) ≤ f j) : Heap n f := by
  intro k k0 kn
  by_cases e : k = j
  · subst e
    rcases hj with hj | hj
    · omega
    · exact hj
  · exact h.1 k k0 kn e

theorem up_step {n : Nat} {f : Nat → Int} {j : Nat} (h : HeapBut n f j) (hj0 : 0 < j) (hjn : j < n) (hlt : f j < f ((j - 1) / 2)) : HeapBut n (swp f ((j - 1) / 2) j) ((j - 1) / 2) := by
  obtain ⟨i, hi⟩ : ∃ i, (j - 1) / 2 = i := ⟨_, rfl⟩
  rw [hi] at hlt ⊢
  have hij : i < j := by omega
  constructor
  · intro k k0 kn ki
    by_cases kj : k = j
    · subst kj
      rw [hi, swp_l, swp_r]; omega
    · rw [swp_o f ki kj]
      by_cases p1 : (k - 1) / 2 = j
      · rw [p1, swp_r]
        have := h.2 k k0 kn p1 hj0
        rwa [hi] at this
      · by_cases p2 : (k - 1) / 2 = i
        · rw [p2, swp_l]
          have := h.1 k k0 kn kj
          rw [p2] at this
          omega
        · rw [swp_o f p2 p1]
          exact h.1 k k0 kn kj
  · intro k k0 kn pk i0
    have g1 : (i - 1) / 2 ≠ i := by omega
    have g2 : (i - 1) / 2 ≠ j := by omega
    rw [swp_o f g1 g2]
    have hgi := h.1 i i0 (by omega) (by omega)
    by_cases kj : k = j
    · subst kj; rw [swp_r]; exact hgi
    · rw [swp_o f (by omega) kj]
      have := h.1 k k0 kn kj
      rw [pk] at this
      omega

/-- Behind all others, one more. -/
def snocF (n : Nat) (f : Nat → Int) (x : Int) (k : Nat) : Int := if k < n then f k else x
theorem snoc_but {n : Nat} {f : Nat → Int} (x : Int) (h : Heap n f) : HeapBut (n + 1) (snocF n f x) n := by
  constructor
  · intro k k0 kn kne
    unfold snocF
    rw [if_pos (by omega), if_pos (by omega)]
    exact h k k0 (by omega)
  · intro k k0 kn pk n0
    omega
theorem mem_snoc {n : Nat} {f : Nat → Int} (x y : Int) : Mem (n + 1) (snocF n f x) y ↔ Mem n f y ∨ y = x := by
  constructor
  · rintro ⟨k, hk, rfl⟩
    unfold snocF
    by_cases h : k < n
    · rw [if_pos h]; exact .inl ⟨k, h, rfl⟩
    · rw [if_neg h]; exact .inr rfl
  · rintro (⟨k, hk, rfl⟩ | rfl)
    · exact ⟨k, by omega, by unfold snocF; rw [if_pos hk]⟩
    · exact ⟨n, by omega, by unfold snocF; rw [if_neg (by omega)]⟩
theorem inj_snoc {n : Nat} {f : Nat → Int} (x : Int) (h : Inj n f) (hx : ¬ Mem n f x) : Inj (n + 1) (snocF n f x) := by
  intro a b ha hb e
  unfold snocF at e
  by_cases a1 : a < n
  · by_cases b1 : b < n
    · rw [if_pos a1, if_pos b1] at e; exact h _ _ a1 b1 e
    · rw [if_pos a1, if_neg b1] at e; exact absurd ⟨a, a1, e⟩ hx
  · by_cases b1 : b < n
    · rw [if_neg a1, if_pos b1] at e; exact absurd ⟨b, b1, e.symm⟩ hx
    · omega

theorem heap_least {n : Nat} {f : Nat → Int} (h : Heap n f) : ∀ k, k < n → f 0 ≤ f k := by
  intro k
  induction k using Nat.strongRecOn with
  | ind k ih =>
    intro hk
    by_cases h0 : k = 0
    · subst h0; exact Int.le_refl _
    · have := ih ((k - 1) / 2) (by omega) (by omega)
      have := h k (by omega) hk
      omega

/-- A heap but for what hangs below i (and there the grandparent is not greater). -/
def HeapDn (n : Nat) (f : Nat → Int) (i : Nat) : Prop :=
  (∀ k, 0 < k → k < n → (k - 1) / 2 ≠ i → f ((k - 1) / 2) ≤ f k) ∧ ∀ k, 0 < k → k < n → (k - 1) / 2 = i → 0 < i → f ((i - 1) / 2) ≤ f k
theorem dn_start {n : Nat} {f : Nat → Int} (h : Heap (n + 1) f) : HeapDn n (swp f 0 n) 0 := by
  constructor
  · intro k k0 kn pk
    have e1 : swp f 0 n k = f k := swp_o f (by omega) (by omega)
    have e2 : swp f 0 n ((k - 1) / 2) = f ((k - 1) / 2) := swp_o f pk (by omega)
    rw [e1, e2]
    exact h k k0 (by omega)
  · intro k _ _ _ h0; omega
theorem dn_end {n : Nat} {f : Nat → Int} {i : Nat} (h : HeapDn n f i) (hi : ∀ k, 0 < k → k < n → (k - 1) / 2 = i → f i ≤ f k) : Heap n f := by
  intro k k0 kn
  by_cases pk : (k - 1) / 2 = i
  · rw [pk]; exact hi k k0 kn pk
  · exact h.1 k k0 kn pk
theorem dn_step {n : Nat} {f : Nat → Int} {i j : Nat} (h : HeapDn n f i) (hj0 : 0 < j) (hjn : j < n) (hpj : (j - 1) / 2 = i) (hlt : f j ≤ f i) (hmin : ∀ k, 0 < k → k < n → (k - 1) / 2 = i → f j ≤ f k) : HeapDn n (swp f i j) j := by
  have hij : i < j := by omega
  constructor
  · intro k k0 kn pk
    by_cases kj : k = j
    · subst kj; rw [hpj, swp_l, swp_r]; exact hlt
    by_cases ki : k = i
    · subst ki
      rw [swp_l, swp_o f (by omega) (by omega)]
      exact h.2 j hj0 hjn hpj k0
    rw [swp_o f ki kj]
    by_cases pi : (k - 1) / 2 = i
    · rw [pi, swp_l]; exact hmin k k0 kn pi
    · rw [swp_o f pi pk]; exact h.1 k k0 kn pi
  · intro k k0 kn pk j0
    rw [hpj, swp_l, swp_o f (by omega) (by omega)]
    have := h.1 k k0 kn (by omega)
    rw [pk] at this
    exact this

end Go.Proofs.Ythkdmjbdcnaklaa
