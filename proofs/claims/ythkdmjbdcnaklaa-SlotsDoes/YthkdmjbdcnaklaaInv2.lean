/-
  Plain: a thing that is taken out of its row.
-/
import Derived.Test.YthkdmjbdcnaklaaInv
namespace Go.Proofs.Ythkdmjbdcnaklaa
variable {X : Type} {s : St X} {q : Nat → List Nat} {n i k : Nat}

/-- What stands ahead of a number of a row, and behind it. -/
theorem Lk.bk_ok (h : Lk s q) (hi : i < s.nr) (hk : (q i)[k]? = some n) : s.bk n = -1 ∨ ∃ l : Nat, s.bk n = l ∧ l < s.nc ∧ l ≠ n := by
  rw [h.bk i hi k n hk]
  by_cases e : k = 0
  · rw [if_pos e]; exact .inl rfl
  · rw [if_neg e]
    have := some_lt hk
    obtain ⟨l, hl, hv⟩ := nth_lt (l := q i) (k := k - 1) (by omega)
    exact .inr ⟨l, hv, (h.row i hi l (some_mem hl)).1, fun e => by subst e; have := pos_inj (h.nodup i hi) hk hl; omega⟩
theorem Lk.nx_ok (h : Lk s q) (hi : i < s.nr) (hk : (q i)[k]? = some n) : s.nx n = -1 ∨ ∃ l : Nat, s.nx n = l ∧ l < s.nc ∧ l ≠ n := by
  rw [h.nx i hi k n hk]
  by_cases e : k + 1 < (q i).length
  · obtain ⟨l, hl, hv⟩ := nth_lt (l := q i) (k := k + 1) e
    exact .inr ⟨l, hv, (h.row i hi l (some_mem hl)).1, fun e => by subst e; have := pos_inj (h.nodup i hi) hk hl; omega⟩
  · exact .inl (nth_none (by omega))

def takeS (s : St X) (n i : Nat) (x0 : X) (f' : Nat → Int) : St X := { dropS (unlinkS s n i) n x0 with nf := s.nf + 1, fr := f' }

theorem take_inv (h : Inv s q) (hi : i < s.nr) (hk : (q i)[k]? = some n) (x0 : X) {f' : Nat → Int} (hp : Hp (s.nf + 1) f') (hm : ∀ y, Mem (s.nf + 1) f' y ↔ Mem s.nf s.fr y ∨ y = n) :
    Inv (takeS s n i x0 f') (upd q i ((q i).eraseIdx k)) := by
  have hlen := some_lt hk
  have hnd := h.nodup i hi
  have hrow := h.row i hi n (some_mem hk)
  have hbk := h.bk i hi k n hk
  have hnx := h.nx i hi k n hk
  have getl : ∀ j, j < k → ((q i).eraseIdx k)[j]? = (q i)[j]? := fun j hj => by rw [List.getElem?_eraseIdx, if_pos hj]
  have getr : ∀ j, k ≤ j → ((q i).eraseIdx k)[j]? = (q i)[j + 1]? := fun j hj => by rw [List.getElem?_eraseIdx, if_neg (by omega)]
  have hlen' : ((q i).eraseIdx k).length = (q i).length - 1 := List.length_eraseIdx_of_lt hlen
  have hmem : ∀ m, m ∈ (q i).eraseIdx k → m ∈ q i ∧ m ≠ n := by
    intro m hm
    obtain ⟨j, hj⟩ := List.getElem?_of_mem hm
    by_cases e : j < k
    · rw [getl j e] at hj
      exact ⟨some_mem hj, fun e' => by subst e'; have := pos_inj hnd hk hj; omega⟩
    · rw [getr j (by omega)] at hj
      exact ⟨some_mem hj, fun e' => by subst e'; have := pos_inj hnd hk hj; omega⟩
  have hmem' : ∀ m, m ∈ q i → m ≠ n → m ∈ (q i).eraseIdx k := by
    intro m hm hne
    obtain ⟨j, hj⟩ := List.getElem?_of_mem hm
    by_cases e : j < k
    · exact List.mem_of_getElem? ((getl j e).trans hj)
    · have e' : j ≠ k := by rintro rfl; rw [hk] at hj; exact hne (Option.some.inj hj).symm
      have := getr (j - 1) (by omega)
      rw [show j - 1 + 1 = j by omega] at this
      exact List.mem_of_getElem? (this.trans hj)
  have hother : ∀ j, j < s.nr → j ≠ i → n ∉ q j := fun j hj hne => h.apart hi hj (fun e => hne e.symm) (some_mem hk)
  have erw : ∀ m, m ≠ n → (takeS s n i x0 f').rw m = s.rw m := fun m hm => upd_other _ _ hm
  have erwn : (takeS s n i x0 f').rw n = -1 := upd_same _ _ _
  have enx : ∀ m, m ≠ n → (∀ l : Nat, s.bk n = l → m ≠ l) → (takeS s n i x0 f').nx m = s.nx m := by
    intro m hmn hl
    show upd (if s.bk n = -1 then s.nx else upd s.nx (s.bk n).toNat (s.nx n)) n 0 m = _
    rw [upd_other _ _ hmn]
    rcases h.bk_ok hi hk with e | ⟨l, e, _⟩
    · rw [if_pos e]
    · rw [if_neg (by omega), e, Int.toNat_natCast, upd_other _ _ (hl l e)]
  have enxl : ∀ l : Nat, s.bk n = l → l ≠ n → (takeS s n i x0 f').nx l = s.nx n := by
    intro l hl hln
    show upd (if s.bk n = -1 then s.nx else upd s.nx (s.bk n).toNat (s.nx n)) n 0 l = _
    rw [upd_other _ _ hln, if_neg (by omega), hl, Int.toNat_natCast, upd_same]
  have ebk : ∀ m, m ≠ n → (∀ l : Nat, s.nx n = l → m ≠ l) → (takeS s n i x0 f').bk m = s.bk m := by
    intro m hmn hl
    show upd (if s.nx n = -1 then s.bk else upd s.bk (s.nx n).toNat (s.bk n)) n 0 m = _
    rw [upd_other _ _ hmn]
    rcases h.nx_ok hi hk with e | ⟨l, e, _⟩
    · rw [if_pos e]
    · rw [if_neg (by omega), e, Int.toNat_natCast, upd_other _ _ (hl l e)]
  have ebkl : ∀ l : Nat, s.nx n = l → l ≠ n → (takeS s n i x0 f').bk l = s.bk n := by
    intro l hl hln
    show upd (if s.nx n = -1 then s.bk else upd s.bk (s.nx n).toNat (s.bk n)) n 0 l = _
    rw [upd_other _ _ hln, if_neg (by omega), hl, Int.toNat_natCast, upd_same]
  -- which number stands ahead, which behind
  have hback : ∀ l : Nat, s.bk n = l → 0 < k ∧ (q i)[k - 1]? = some l := by
    intro l hl
    rw [hbk] at hl
    by_cases e : k = 0
    · rw [if_pos e] at hl; omega
    · rw [if_neg e] at hl
      obtain ⟨l', hl', hv⟩ := nth_lt (l := q i) (k := k - 1) (by omega)
      rw [hv] at hl
      obtain rfl : l' = l := by omega
      exact ⟨by omega, hl'⟩
  have hnext : ∀ l : Nat, s.nx n = l → (q i)[k + 1]? = some l := by
    intro l hl
    rw [hnx] at hl
    by_cases e : k + 1 < (q i).length
    · obtain ⟨l', hl', hv⟩ := nth_lt (l := q i) (k := k + 1) e
      rw [hv] at hl
      obtain rfl : l' = l := by omega
      exact hl'
    · rw [nth_none (by omega)] at hl; omega
  refine { nr := h.nr, room := h.room, nc := h.nc, row := ?_, nodup := ?_, fi := ?_, la := ?_, co := ?_, nx := ?_, bk := ?_, hp := hp, all := ?_, fr := ?_, cnt := ?_ }
  · intro j hj m hm
    by_cases e : j = i
    · subst e
      rw [upd_same] at hm
      obtain ⟨a, b⟩ := hmem m hm
      have := h.row j hj m a
      exact ⟨this.1, (erw m b).trans this.2⟩
    · rw [upd_other _ _ e] at hm
      have := h.row j hj m hm
      exact ⟨this.1, (erw m (fun e' => hother j hj e (e' ▸ hm))).trans this.2⟩
  · intro j hj
    by_cases e : j = i
    · subst e
      rw [upd_same]
      exact (List.eraseIdx_sublist _ _).nodup (h.nodup j hj)
    · rw [upd_other _ _ e]; exact h.nodup j hj
  · intro j hj
    show (if s.bk n = -1 then upd s.fi i (s.nx n) else s.fi) j = _
    by_cases e : j = i
    · subst e
      rw [upd_same]
      by_cases k0 : k = 0
      · have : s.bk n = -1 := by rw [hbk, if_pos k0]
        rw [if_pos this, upd_same, hnx]
        exact nth_congr (by rw [getr 0 (by omega), k0])
      · obtain ⟨l, hl, hv⟩ := nth_lt (l := q j) (k := k - 1) (by omega)
        have : ¬ s.bk n = -1 := by rw [hbk, if_neg k0, hv]; omega
        rw [if_neg this, h.fi j hj]
        exact nth_congr (getl 0 (by omega)).symm
    · rw [upd_other _ _ e]
      split
      · rw [upd_other _ _ e]; exact h.fi j hj
      · exact h.fi j hj
  · intro j hj
    show (if s.nx n = -1 then upd s.la i (s.bk n) else s.la) j = _
    by_cases e : j = i
    · subst e
      rw [upd_same, hlen']
      by_cases k1 : k + 1 < (q j).length
      · obtain ⟨l, hl, hv⟩ := nth_lt (l := q j) (k := k + 1) k1
        have : ¬ s.nx n = -1 := by rw [hnx, hv]; omega
        rw [if_neg this, h.la j hj]
        refine nth_congr ?_
        rw [getr _ (by omega), show (q j).length - 1 - 1 + 1 = (q j).length - 1 by omega]
      · have : s.nx n = -1 := by rw [hnx]; exact nth_none (by omega)
        rw [if_pos this, upd_same, hbk]
        by_cases k0 : k = 0
        · rw [if_pos k0]; exact (nth_none (by omega)).symm
        · rw [if_neg k0]
          refine nth_congr ?_
          rw [getl _ (by omega), show (q j).length - 1 - 1 = k - 1 by omega]
    · rw [upd_other _ _ e]
      split
      · rw [upd_other _ _ e]; exact h.la j hj
      · exact h.la j hj
  · intro j hj
    show upd s.co i (s.co i - 1) j = _
    by_cases e : j = i
    · subst e
      rw [upd_same, upd_same, h.co j hj, hlen']; omega
    · rw [upd_other _ _ e, upd_other _ _ e]; exact h.co j hj
  · intro j hj p m hm
    by_cases e : j = i
    · subst e
      rw [upd_same] at hm ⊢
      have hmn := (hmem m (some_mem hm)).2
      by_cases hp1 : p < k
      · rw [getl p hp1] at hm
        by_cases hp2 : p + 1 < k
        · rw [enx m hmn (fun l hl e => by
            subst e
            have := pos_inj hnd hm (hback m hl).2
            omega), h.nx j hj p m hm]
          exact nth_congr (getl _ hp2).symm
        · have hpe : p = k - 1 := by omega
          have hb : s.bk n = m := by rw [hbk, if_neg (by omega), ← hpe]; exact nth_some hm
          rw [enxl m hb hmn, hnx]
          refine nth_congr ?_
          rw [getr _ (by omega), show p + 1 + 1 = k + 1 by omega]
      · rw [getr p (by omega)] at hm
        rw [enx m hmn (fun l hl e => by
          subst e
          have := pos_inj hnd hm (hback m hl).2
          omega), h.nx j hj _ m hm]
        exact nth_congr (getr _ (by omega)).symm
    · rw [upd_other _ _ e] at hm ⊢
      have hmj := some_mem hm
      rw [enx m (fun e' => hother j hj e (e' ▸ hmj)) (fun l hl e' => by
        subst e'
        exact h.apart hi hj (fun e'' => e e''.symm) (some_mem (hback m hl).2) hmj)]
      exact h.nx j hj p m hm
  · intro j hj p m hm
    by_cases e : j = i
    · subst e
      rw [upd_same] at hm ⊢
      have hmn := (hmem m (some_mem hm)).2
      by_cases hp1 : p < k
      · rw [getl p hp1] at hm
        rw [ebk m hmn (fun l hl e => by
          subst e
          have := pos_inj hnd hm (hnext m hl)
          omega), h.bk j hj p m hm]
        by_cases p0 : p = 0
        · rw [if_pos p0, if_pos p0]
        · rw [if_neg p0, if_neg p0]
          exact nth_congr (getl _ (by omega)).symm
      · rw [getr p (by omega)] at hm
        by_cases hpe : p = k
        · subst hpe
          have hx : s.nx n = m := by rw [hnx]; exact nth_some hm
          rw [ebkl m hx hmn, hbk]
          by_cases p0 : p = 0
          · rw [if_pos p0, if_pos p0]
          · rw [if_neg p0, if_neg p0]
            exact nth_congr (getl _ (by omega)).symm
        · rw [ebk m hmn (fun l hl e => by
            subst e
            have := pos_inj hnd hm (hnext m hl)
            omega), h.bk j hj _ m hm, if_neg (by omega), if_neg (by omega)]
          refine nth_congr ?_
          rw [getr _ (by omega), show p - 1 + 1 = p + 1 - 1 by omega]
    · rw [upd_other _ _ e] at hm ⊢
      have hmj := some_mem hm
      rw [ebk m (fun e' => hother j hj e (e' ▸ hmj)) (fun l hl e' => by
        subst e'
        exact h.apart hi hj (fun e'' => e e''.symm) (some_mem (hnext m hl)) hmj)]
      exact h.bk j hj p m hm
  · intro m hm' hrw
    have hne : m ≠ n := by rintro rfl; exact hrw erwn
    rw [erw m hne] at hrw ⊢
    obtain ⟨j, hj, hr, hmj⟩ := h.all m hm' hrw
    refine ⟨j, hj, hr, ?_⟩
    by_cases e : j = i
    · subst e; rw [upd_same]; exact hmem' m hmj hne
    · rw [upd_other _ _ e]; exact hmj
  · intro y
    rw [show Mem (takeS s n i x0 f').nf (takeS s n i x0 f').fr y ↔ Mem (s.nf + 1) f' y from Iff.rfl, hm y, h.fr y]
    constructor
    · rintro (⟨m, rfl, hm', hrw⟩ | rfl)
      · have hne : m ≠ n := by rintro rfl; rw [hrow.2] at hrw; omega
        exact ⟨m, rfl, hm', (erw m hne).trans hrw⟩
      · exact ⟨n, rfl, hrow.1, erwn⟩
    · rintro ⟨m, rfl, hm', hrw⟩
      by_cases e : m = n
      · exact .inr (by rw [e])
      · exact .inl ⟨m, rfl, hm', (erw m e).symm.trans hrw⟩
  · show s.nc = s.nf + 1 + total (upd q i ((q i).eraseIdx k)) s.nr
    have := total_upd q i ((q i).eraseIdx k) s.nr hi
    rw [hlen'] at this
    have := h.cnt
    omega

theorem Inv.freed_no (h : Inv s q) (hi : i < s.nr) (hk : (q i)[k]? = some n) : ¬ Mem s.nf s.fr n := by
  intro hm
  obtain ⟨m, e, hm', hrw⟩ := (h.fr n).1 hm
  obtain rfl : n = m := by omega
  have := (h.row i hi n (some_mem hk)).2
  omega

end Go.Proofs.Ythkdmjbdcnaklaa
