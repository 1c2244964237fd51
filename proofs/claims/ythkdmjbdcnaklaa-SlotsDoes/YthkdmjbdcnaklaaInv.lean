/-
  Plain: an arena's rows as lists of numbers; what holds of its links; what Push and Take do to them.
-/
import Derived.Test.YthkdmjbdcnaklaaNewI
namespace Go.Proofs.Ythkdmjbdcnaklaa

def nth (l : List Nat) (k : Nat) : Int := match l[k]? with
  | some n => n
  | none => -1
theorem nth_some {l : List Nat} {k n : Nat} (h : l[k]? = some n) : nth l k = n := by unfold nth; rw [h]
theorem nth_none {l : List Nat} {k : Nat} (h : l.length ≤ k) : nth l k = -1 := by unfold nth; rw [List.getElem?_eq_none h]
theorem nth_lt {l : List Nat} {k : Nat} (h : k < l.length) : ∃ n, l[k]? = some n ∧ nth l k = n := ⟨l[k], List.getElem?_eq_getElem h, nth_some (List.getElem?_eq_getElem h)⟩
theorem nth_congr {l l' : List Nat} {k k' : Nat} (h : l[k]? = l'[k']?) : nth l k = nth l' k' := by unfold nth; rw [h]
theorem some_lt {l : List Nat} {k n : Nat} (h : l[k]? = some n) : k < l.length := (List.getElem?_eq_some_iff.1 h).1
theorem some_mem {l : List Nat} {k n : Nat} (h : l[k]? = some n) : n ∈ l := List.mem_of_getElem? h
theorem pos_inj {l : List Nat} (hd : l.Nodup) {a b x : Nat} (ha : l[a]? = some x) (hb : l[b]? = some x) : a = b := by
  exact (List.getElem?_inj (some_lt ha) hd).1 (ha.trans hb.symm)

def total (q : Nat → List Nat) : Nat → Nat
  | 0 => 0
  | k + 1 => total q k + (q k).length
theorem total_upd_out (q : Nat → List Nat) (i : Nat) (l : List Nat) (k : Nat) (h : k ≤ i) : total (upd q i l) k = total q k := by
  induction k with
  | zero => rfl
  | succ k ih => unfold total; rw [ih (by omega), upd_other _ _ (by omega)]
theorem total_upd (q : Nat → List Nat) (i : Nat) (l : List Nat) (k : Nat) (h : i < k) : total (upd q i l) k + (q i).length = total q k + l.length := by
  induction k with
  | zero => omega
  | succ k ih =>
    unfold total
    by_cases e : i = k
    · subst e
      rw [total_upd_out q i l i (Nat.le_refl _), upd_same]; omega
    · rw [upd_other _ _ (fun h => e h.symm)]
      have := ih (by omega)
      omega
theorem total_ge (q : Nat → List Nat) (i k : Nat) (h : i < k) : (q i).length ≤ total q k := by
  induction k with
  | zero => omega
  | succ k ih =>
    unfold total
    by_cases e : i = k
    · subst e; omega
    · have := ih (by omega); omega

/-- The links of an arena's rows. -/
structure Lk {X : Type} (s : St X) (q : Nat → List Nat) : Prop where
  nr : 1 ≤ s.nr ∧ s.nr ≤ 65536
  room : 0 ≤ s.room ∧ s.room ≤ 65536
  nc : s.nc ≤ s.room
  row : ∀ i, i < s.nr → ∀ n, n ∈ q i → n < s.nc ∧ s.rw n = i
  nodup : ∀ i, i < s.nr → (q i).Nodup
  fi : ∀ i, i < s.nr → s.fi i = nth (q i) 0
  la : ∀ i, i < s.nr → s.la i = nth (q i) ((q i).length - 1)
  co : ∀ i, i < s.nr → s.co i = (q i).length
  nx : ∀ i, i < s.nr → ∀ k n, (q i)[k]? = some n → s.nx n = nth (q i) (k + 1)
  bk : ∀ i, i < s.nr → ∀ k n, (q i)[k]? = some n → s.bk n = if k = 0 then -1 else nth (q i) (k - 1)
  hp : Hp s.nf s.fr

/-- What holds of an arena between two calls. -/
structure Inv {X : Type} (s : St X) (q : Nat → List Nat) : Prop extends Lk s q where
  all : ∀ n, n < s.nc → s.rw n ≠ -1 → ∃ i, i < s.nr ∧ s.rw n = i ∧ n ∈ q i
  fr : ∀ y, Mem s.nf s.fr y ↔ ∃ n : Nat, y = n ∧ n < s.nc ∧ s.rw n = -1
  cnt : s.nc = s.nf + total q s.nr
/-- The same, the number n having been given, and not yet laid into a row. -/
structure Pre {X : Type} (s : St X) (q : Nat → List Nat) (n : Nat) : Prop extends Lk s q where
  lt : n < s.nc
  fresh : ∀ i, i < s.nr → n ∉ q i
  all : ∀ m, m < s.nc → m ≠ n → s.rw m ≠ -1 → ∃ i, i < s.nr ∧ s.rw m = i ∧ m ∈ q i
  fr : ∀ y, Mem s.nf s.fr y ↔ ∃ m : Nat, y = m ∧ m < s.nc ∧ m ≠ n ∧ s.rw m = -1
  cnt : s.nc = s.nf + total q s.nr + 1

variable {X : Type} {s s1 : St X} {q : Nat → List Nat} {n i k : Nat}

theorem Inv.nc_le (h : Inv s q) : s.nc ≤ 65536 := by have := h.nc; have := h.room; omega
theorem Inv.nf_le (h : Inv s q) : s.nf ≤ s.nc := by have := h.cnt; omega
theorem Lk.co_le (h : Lk s q) (hi : i < s.nr) (hc : total q s.nr ≤ s.nc) : 0 ≤ s.co i ∧ s.co i ≤ 65536 := by
  have := h.co i hi
  have := total_ge q i s.nr hi
  have := h.nc
  have := h.room
  omega
theorem Lk.la_ok (h : Lk s q) (hi : i < s.nr) : s.la i = -1 ∨ ∃ l : Nat, s.la i = l ∧ l < s.nc := by
  rw [h.la i hi]
  by_cases e : (q i).length = 0
  · exact .inl (nth_none (by omega))
  · obtain ⟨m, hm, hv⟩ := nth_lt (l := q i) (k := (q i).length - 1) (by omega)
    exact .inr ⟨m, hv, (h.row i hi m (some_mem hm)).1⟩

/-- A number of another row is another number. -/
theorem Lk.apart (h : Lk s q) {j : Nat} (hi : i < s.nr) (hj : j < s.nr) (hij : i ≠ j) {m : Nat} (hm : m ∈ q i) : m ∉ q j := by
  intro hm'
  have a := (h.row i hi m hm).2
  have b := (h.row j hj m hm').2
  omega

theorem new_inv (nr : Nat) (room : Int) (x0 : X) (h1 : 1 ≤ nr) (h2 : nr ≤ 65536) (h3 : 0 ≤ room) (h4 : room ≤ 65536) : Inv (newS nr room x0) (fun _ => []) where
  nr := ⟨h1, h2⟩
  room := ⟨h3, h4⟩
  nc := h3
  row := fun i _ n hn => by simp at hn
  nodup := fun _ _ => List.nodup_nil
  fi := fun _ _ => rfl
  la := fun _ _ => rfl
  co := fun _ _ => rfl
  nx := fun _ _ k n hn => by simp at hn
  bk := fun _ _ k n hn => by simp at hn
  hp := ⟨fun i j hi => by simp [newS] at hi, fun k _ hk => by simp [newS] at hk⟩
  all := fun n hn => by simp [newS] at hn
  fr := fun y => ⟨fun ⟨i, hi, _⟩ => by simp [newS] at hi, fun ⟨n, _, hn, _⟩ => by simp [newS] at hn⟩
  cnt := by
    show 0 = 0 + total (fun _ => []) nr
    have : ∀ m, total (fun _ => []) m = 0 := by
      intro m
      induction m with
      | zero => rfl
      | succ m ih => unfold total; rw [ih]; rfl
    rw [this]

theorem grow_pre (h : Inv s q) (hf : s.nf = 0) (hr : (s.nc : Int) < s.room) (x0 : X) : Pre (growS s x0) q s.nc := by
  have key : ∀ i, i < s.nr → ∀ m, m ∈ q i → m < s.nc := fun i hi m hm => (h.row i hi m hm).1
  have fresh : ∀ i, i < s.nr → s.nc ∉ q i := fun i hi hm => by have := key i hi _ hm; omega
  refine { nr := h.nr, room := h.room, nc := ?_, row := ?_, nodup := h.nodup, fi := h.fi, la := h.la, co := h.co, nx := ?_, bk := ?_, hp := h.hp, lt := ?_, fresh := fresh, all := ?_, fr := ?_, cnt := ?_ }
  · show ((s.nc + 1 : Nat) : Int) ≤ s.room; omega
  · intro i hi m hm
    have := h.row i hi m hm
    exact ⟨Nat.lt_succ_of_lt this.1, (upd_other _ _ (by omega)).trans this.2⟩
  · intro i hi k m hm
    have := key i hi m (some_mem hm)
    exact (upd_other _ _ (by omega)).trans (h.nx i hi k m hm)
  · intro i hi k m hm
    have := key i hi m (some_mem hm)
    exact (upd_other _ _ (by omega)).trans (h.bk i hi k m hm)
  · show s.nc < s.nc + 1; omega
  · intro m hm hne hrw
    have hm' : m < s.nc := by have : m < s.nc + 1 := hm; omega
    have e : (growS s x0).rw m = s.rw m := upd_other _ _ hne
    rw [e] at hrw ⊢
    exact h.all m hm' hrw
  · intro y
    rw [show Mem (growS s x0).nf (growS s x0).fr y ↔ Mem s.nf s.fr y from Iff.rfl, h.fr y]
    constructor
    · rintro ⟨m, rfl, hm, hrw⟩
      exact ⟨m, rfl, Nat.lt_succ_of_lt hm, by omega, (upd_other _ _ (by omega)).trans hrw⟩
    · rintro ⟨m, rfl, hm, hne, hrw⟩
      have hm' : m < s.nc := by have : m < s.nc + 1 := hm; omega
      exact ⟨m, rfl, hm', (upd_other (x := (0 : Int)) s.rw (n := s.nc) hne).symm.trans hrw⟩
  · show s.nc + 1 = s.nf + total q s.nr + 1
    have := h.cnt
    omega

theorem old_pre (h : Inv s q) (ho : Old s s1) : ∃ n : Nat, s.fr 0 = n ∧ Pre s1 q n ∧ (∀ m : Nat, m < s.nc → s.rw m = -1 → n ≤ m) ∧ s.rw n = -1 ∧ s1.th = s.th := by
  obtain ⟨m, f', hf, rfl, hp1, hmem⟩ := ho
  have h0 : Mem s.nf s.fr (s.fr 0) := ⟨0, by omega, rfl⟩
  obtain ⟨n, hn, hlt, hrw⟩ := (h.fr _).1 h0
  refine ⟨n, hn, { nr := h.nr, room := h.room, nc := h.nc, row := h.row, nodup := h.nodup, fi := h.fi, la := h.la, co := h.co, nx := h.nx, bk := h.bk, hp := hp1, lt := hlt, fresh := ?_, all := fun m hm _ => h.all m hm, fr := ?_, cnt := ?_ }, ?_, hrw, rfl⟩
  · intro i hi hm
    have hi' : i < s.nr := hi
    have := (h.row i hi' n hm).2
    rw [hrw] at this
    omega
  · intro y
    rw [hmem y, ← hf, h.fr y, hn]
    constructor
    · rintro ⟨⟨k, rfl, hk, hrk⟩, hne⟩
      exact ⟨k, rfl, hk, by omega, hrk⟩
    · rintro ⟨k, rfl, hk, hne, hrk⟩
      exact ⟨⟨k, rfl, hk, hrk⟩, by omega⟩
  · show s.nc = m + total q s.nr + 1
    have := h.cnt
    omega
  · intro k hk hrk
    obtain ⟨j, hj, ej⟩ := (h.fr k).2 ⟨k, rfl, hk, hrk⟩
    have := heap_least h.hp.heap j hj
    omega

theorem put_inv (h : Pre s q n) (hi : i < s.nr) (x : X) : Inv (linkS (putS s n i x) n i) (upd q i (q i ++ [n])) := by
  have hln : ∀ m, m ∈ q i → m ≠ n := fun m hm e => h.fresh i hi (e ▸ hm)
  have erw : ∀ m, m ≠ n → (linkS (putS s n i x) n i).rw m = s.rw m := fun m hm => upd_other _ _ hm
  have erwn : (linkS (putS s n i x) n i).rw n = i := upd_same _ _ _
  -- the next one
  have enx : ∀ m, m ≠ n → (∀ l : Nat, s.la i = l → m ≠ l) → (linkS (putS s n i x) n i).nx m = s.nx m := by
    intro m hm hl
    show (if s.la i = -1 then upd s.nx n (-1) else upd (upd s.nx n (-1)) (s.la i).toNat n) m = _
    by_cases e : s.la i = -1
    · rw [if_pos e, upd_other _ _ hm]
    · rw [if_neg e]
      rcases h.la_ok hi with e' | ⟨l, hl1, _⟩
      · exact absurd e' e
      · rw [hl1, Int.toNat_natCast, upd_other _ _ (hl l hl1), upd_other _ _ hm]
  have enxl : ∀ l : Nat, s.la i = l → (linkS (putS s n i x) n i).nx l = n := by
    intro l hl
    show (if s.la i = -1 then upd s.nx n (-1) else upd (upd s.nx n (-1)) (s.la i).toNat n) l = _
    rw [if_neg (by omega), hl, Int.toNat_natCast, upd_same]
  have enxn : (linkS (putS s n i x) n i).nx n = -1 := by
    show (if s.la i = -1 then upd s.nx n (-1) else upd (upd s.nx n (-1)) (s.la i).toNat n) n = _
    by_cases e : s.la i = -1
    · rw [if_pos e, upd_same]
    · rw [if_neg e]
      rw [h.la i hi] at e
      have hlen : (q i).length ≠ 0 := fun e0 => e (nth_none (by omega))
      obtain ⟨l, hl, hv⟩ := nth_lt (l := q i) (k := (q i).length - 1) (by omega)
      rw [h.la i hi, hv, Int.toNat_natCast, upd_other _ _ (fun e => hln l (some_mem hl) e.symm), upd_same]
  have ebk : ∀ m, m ≠ n → (linkS (putS s n i x) n i).bk m = s.bk m := fun m hm => upd_other _ _ hm
  have ebkn : (linkS (putS s n i x) n i).bk n = s.la i := upd_same _ _ _
  have hlast : ∀ l : Nat, s.la i = l → (q i)[(q i).length - 1]? = some l ∧ 0 < (q i).length := by
    intro l hl
    rw [h.la i hi] at hl
    by_cases e0 : (q i).length = 0
    · rw [nth_none (by omega)] at hl; omega
    · obtain ⟨l', hl', hv⟩ := nth_lt (l := q i) (k := (q i).length - 1) (by omega)
      rw [hv] at hl
      obtain rfl : l' = l := by omega
      exact ⟨hl', by omega⟩
  have get_app : ∀ k, k < (q i).length → (q i ++ [n])[k]? = (q i)[k]? := fun k hk => List.getElem?_append_left hk
  have get_end : (q i ++ [n])[(q i).length]? = some n := by simp
  refine { nr := h.nr, room := h.room, nc := h.nc, row := ?_, nodup := ?_, fi := ?_, la := ?_, co := ?_, nx := ?_, bk := ?_, hp := h.hp, all := ?_, fr := ?_, cnt := ?_ }
  · intro j hj m hm
    by_cases e : j = i
    · subst e
      rw [upd_same, List.mem_append, List.mem_singleton] at hm
      rcases hm with hm | rfl
      · have := h.row j hj m hm
        exact ⟨this.1, (erw m (hln m hm)).trans this.2⟩
      · exact ⟨h.lt, erwn⟩
    · rw [upd_other _ _ e] at hm
      have := h.row j hj m hm
      exact ⟨this.1, (erw m (fun e' => h.fresh j hj (e' ▸ hm))).trans this.2⟩
  · intro j hj
    by_cases e : j = i
    · subst e
      rw [upd_same]
      exact List.nodup_append.2 ⟨h.nodup j hj, by simp, fun a ha b hb => by simp at hb; subst hb; exact hln a ha⟩
    · rw [upd_other _ _ e]; exact h.nodup j hj
  · intro j hj
    show (if s.la i = -1 then upd s.fi i n else s.fi) j = _
    by_cases e : j = i
    · subst e
      rw [upd_same]
      by_cases e0 : (q j).length = 0
      · have : s.la j = -1 := by rw [h.la j hj]; exact nth_none (by omega)
        rw [if_pos this, upd_same, List.length_eq_zero_iff.1 e0]; rfl
      · obtain ⟨l, hl, hv⟩ := nth_lt (l := q j) (k := (q j).length - 1) (by omega)
        have : ¬ s.la j = -1 := by rw [h.la j hj, hv]; omega
        rw [if_neg this, h.fi j hj]
        exact nth_congr (get_app 0 (by omega)).symm
    · rw [upd_other _ _ e]
      split
      · rw [upd_other _ _ e]; exact h.fi j hj
      · exact h.fi j hj
  · intro j hj
    show upd s.la i (n : Int) j = _
    by_cases e : j = i
    · subst e
      rw [upd_same, upd_same]
      have : (q j ++ [n]).length - 1 = (q j).length := by simp
      rw [this]
      exact (nth_some get_end).symm
    · rw [upd_other _ _ e, upd_other _ _ e]; exact h.la j hj
  · intro j hj
    show upd s.co i (s.co i + 1) j = _
    by_cases e : j = i
    · subst e
      rw [upd_same, upd_same, h.co j hj]; simp
    · rw [upd_other _ _ e, upd_other _ _ e]; exact h.co j hj
  · intro j hj k m hm
    by_cases e : j = i
    · subst e
      rw [upd_same] at hm ⊢
      by_cases hk : k < (q j).length
      · rw [get_app k hk] at hm
        have hmn := hln m (some_mem hm)
        by_cases hk1 : k + 1 < (q j).length
        · rw [enx m hmn (fun l hl e => by
            subst e
            have := pos_inj (h.nodup j hj) hm (hlast m hl).1
            omega), h.nx j hj k m hm]
          exact nth_congr (get_app _ hk1).symm
        · have hke : k + 1 = (q j).length := by omega
          have hla : s.la j = m := by rw [h.la j hj, show (q j).length - 1 = k by omega]; exact nth_some hm
          rw [enxl m hla, hke]
          exact (nth_some get_end).symm
      · have hk' : k = (q j).length := by have := some_lt hm; simp at this; omega
        subst hk'
        rw [get_end] at hm
        obtain rfl : n = m := Option.some.inj hm
        rw [enxn]
        exact (nth_none (by simp)).symm
    · rw [upd_other _ _ e] at hm ⊢
      have hmj := some_mem hm
      rw [enx m (fun e' => h.fresh j hj (e' ▸ hmj)) (fun l hl e' => by
        subst e'
        exact h.apart hi hj (fun e'' => e e''.symm) (some_mem (hlast m hl).1) hmj)]
      exact h.nx j hj k m hm
  · intro j hj k m hm
    by_cases e : j = i
    · subst e
      rw [upd_same] at hm ⊢
      by_cases hk : k < (q j).length
      · rw [get_app k hk] at hm
        rw [ebk m (hln m (some_mem hm)), h.bk j hj k m hm]
        by_cases k0 : k = 0
        · rw [if_pos k0, if_pos k0]
        · rw [if_neg k0, if_neg k0]
          exact nth_congr (get_app _ (by omega)).symm
      · have hk' : k = (q j).length := by have := some_lt hm; simp at this; omega
        subst hk'
        rw [get_end] at hm
        obtain rfl : n = m := Option.some.inj hm
        rw [ebkn, h.la j hj]
        by_cases k0 : (q j).length = 0
        · rw [if_pos k0]; exact nth_none (by omega)
        · rw [if_neg k0]
          exact nth_congr (get_app _ (by omega)).symm
    · rw [upd_other _ _ e] at hm ⊢
      rw [ebk m (fun e' => h.fresh j hj (e' ▸ some_mem hm))]
      exact h.bk j hj k m hm
  · intro m hm hrw
    by_cases e : m = n
    · subst e
      exact ⟨i, hi, erwn, by rw [upd_same]; simp⟩
    · rw [erw m e] at hrw ⊢
      obtain ⟨j, hj, hr, hmem⟩ := h.all m hm e hrw
      refine ⟨j, hj, hr, ?_⟩
      by_cases e' : j = i
      · subst e'; rw [upd_same]; exact List.mem_append_left _ hmem
      · rw [upd_other _ _ e']; exact hmem
  · intro y
    rw [show Mem (linkS (putS s n i x) n i).nf (linkS (putS s n i x) n i).fr y ↔ Mem s.nf s.fr y from Iff.rfl, h.fr y]
    constructor
    · rintro ⟨m, rfl, hm, hne, hrw⟩
      exact ⟨m, rfl, hm, (erw m hne).trans hrw⟩
    · rintro ⟨m, rfl, hm, hrw⟩
      have hne : m ≠ n := by rintro rfl; rw [erwn] at hrw; omega
      exact ⟨m, rfl, hm, hne, (erw m hne).symm.trans hrw⟩
  · show s.nc = s.nf + total (upd q i (q i ++ [n])) s.nr
    have := total_upd q i (q i ++ [n]) s.nr hi
    simp at this
    have := h.cnt
    omega

end Go.Proofs.Ythkdmjbdcnaklaa
